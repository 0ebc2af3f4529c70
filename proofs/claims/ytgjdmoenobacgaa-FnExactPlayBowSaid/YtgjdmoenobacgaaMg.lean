/- Texts of the walk, laid in one file. -/
import Derived.OwnWalk
import Derived.Test.YtgjdmoenobacgaaMf
set_option linter.unusedVariables false
set_option linter.unusedSimpArgs false
/- 'StepBow' and 'SticksAt' of both. -/
namespace Go.Fk
open Go Go.RowKit
theorem wf_nat {n : Nat} (h : n ≤ 1024) : (Lit.int .i64 (n : Int)).wf = true := by
  simp only [Lit.wf, IntKind.min, IntKind.max, IntKind.signed, IntKind.bits, Bool.and_eq_true, decide_eq_true_eq, if_true]
  constructor <;> omega
/-- What lies behind two facts stands when blocks from the second one on have turned. -/
theorem Frg.cut2 {w0 w w' : World} {L : List Fact} {a b : Fact} (h : Frg w0 w (a :: b :: L)) {S : Nat → Prop} (k : Chg S w w') (hS : ∀ i, S i → b.lo ≤ i) : Frg w0 w' L := by
  have hb := h.facts b (by simp)
  have p := List.pairwise_cons.1 (List.pairwise_cons.1 h.apart).2
  refine ⟨h.below.trans (k.below (fun i hi => Nat.le_trans hb.1 (hS i hi)) h.size), fun e he => ?_, p.2⟩
  have hx := h.facts e (by simp [he])
  have ha := p.1 e he
  exact ⟨hx.1, Nat.le_trans hx.2.1 k.size, e.ok w w' hx.2.2 (fun i h1 h2 => k.block i (by omega) (fun c => by have := hS i c; omega))⟩
theorem ret_bi {a b : Bool} {i : Int} (h : a = b) : Ending.returned (.tuple #[.bool a, .int .i64 i]) = .returned (.tuple #[.bool b, .int .i64 i]) := by rw [h]
end Go.Fk
namespace Go.Proofs.Ytgjdmoenobacgaa
open Go.RowKit Go.Fk
set_option maxRecDepth 100000 in
set_option maxHeartbeats 4000000 in
theorem i_StepBow_no (x y : Nat → Nat) (nx ny : Nat) (j k : Int) (fk : Int) (a b c p q : Nat) (m o : Nat) (sp : Nat) (B : Nat) (s t : Value) (w : World) (hs : (slT x nx).RdN w B s) (ht : (slT y ny).RdN w B t) (wf : (Lit.int .i64 j).wf = true ∧ (Lit.int .i64 k).wf = true) (hf : (fits .f32 a ∧ fits .f32 b ∧ fits .f32 c ∧ fits .f32 p ∧ fits .f32 q ∧ fits .f32 m ∧ fits .f32 o)) (hv : okBow x y nx ny j k fk a b c p q m o = false) :
    Calls Try.prog 23 #[.agg #[s, .int .i64 j, t, .int .i64 k, .int .i64 fk, .float .f32 a, .float .f32 b, .float .f32 c, .float .f32 p, .float .f32 q, .float .f32 m, .float .f32 o], .float .f32 sp] w (OutV_Tfi (cdBow (fun _ => 0) (fun _ => 0) 0 0 0 0 0 0 0 0 0 0 0 0) 0 1 w) := by
  have HV := hid (fun (w' : World) (hl : le w w') => hv ▸ i_ValidBow x y nx ny j k fk a b c p q m o B s t w' (hs.le hl) (ht.le hl) wf hf)
  clear hs ht wf hf hv
  have F := ((Frg.nil w).box 31 #[s, .int .i64 j, t, .int .i64 k, .int .i64 fk, .float .f32 a, .float .f32 b, .float .f32 c, .float .f32 p, .float .f32 q, .float .f32 m, .float .f32 o]).box 31 #[.slice none 0 0, .int .i64 0, .slice none 0 0, .int .i64 0, .int .i64 0, .float .f32 0, .float .f32 0, .float .f32 0, .float .f32 0, .float .f32 0, .float .f32 0, .float .f32 0]
  simp only [World.size_alloc] at F
  go_enter Try.func23, Try.ntmps23
  go_wp2_with (first | ((with_reducible refine at_loadU rfl rfl ?_); (with_reducible refine wpList_loadG F rfl rfl rfl (by first | exact m0 | exact m1 | exact m2 | exact m3 | exact m4 | exact m5 | exact m6 | exact m7 | exact m8 | exact m9 | exact m10 | exact m11) Try.underlying31 rfl uinfoBowI rfl ?_)) | (go_at_call 77; ((with_reducible refine (HV.out _ F.below).mono ?_); rintro e w1 ⟨rfl, hl⟩; replace F := F.le hl; clear hl)) | ((with_reducible refine stop_store rfl ?_)))
  show wpList _ _ _ _ _ _
  refine wpList_storeD rfl rfl rfl (cells := #[.slice none 0 0, .int .i64 0, .slice none 0 0, .int .i64 0, .int .i64 0, .float .f32 0, .float .f32 0, .float .f32 0, .float .f32 0, .float .f32 0, .float .f32 0, .float .f32 0]) rfl (F.row m0) uinfoBowI rfl (by simp [Value.oneCell']) (fun w4 K => ?_)
  have R := hid K.row
  have L := hid (F.wr0 K).below
  clear K F
  go_wp2
  exact bodyPost_ret (results_row3 rfl _ _ _ _ _ rfl R.out Try.underlying31 rfl uinfoBowI) rfl ⟨[.slice none 0 0, .int .i64 0, .slice none 0 0, .int .i64 0, .int .i64 0, .float .f32 0, .float .f32 0, .float .f32 0, .float .f32 0, .float .f32 0, .float .f32 0, .float .f32 0], _, rfl, layBow0 _ _, L.out, by decide⟩
set_option maxRecDepth 100000 in
set_option maxHeartbeats 4000000 in
theorem i_StepBow_yes (sp : Nat) (hsp : fits .f32 sp) (q : BwS) (B : Nat) (s t : Value) (w : World) (hs : (slT q.x q.nx).RdN w B s) (ht : (slT q.y q.ny).RdN w B t) (ok : q.Ok) (hv : (okBow q.x q.y q.nx q.ny (q.j : Nat) (q.k : Nat) 1 q.a q.b q.c q.p q.q q.m q.l) = true) (fy : fits .f32 (q.y q.k)) :
    Calls Try.prog 23 #[.agg #[s, .int .i64 (q.j : Nat), t, .int .i64 (q.k : Nat), .int .i64 1, .float .f32 q.a, .float .f32 q.b, .float .f32 q.c, .float .f32 q.p, .float .f32 q.q, .float .f32 q.m, .float .f32 q.l], .float .f32 sp] w (OutV_Tfi (cdBow (stepB q sp).x (stepB q sp).y (stepB q sp).nx (stepB q sp).ny ((stepB q sp).j : Nat) ((stepB q sp).k : Nat) 1 (stepB q sp).a (stepB q sp).b (stepB q sp).c (stepB q sp).p (stepB q sp).q (stepB q sp).m (stepB q sp).l) (q.y q.k) 0 w) := by
  have HV := hid (fun (w' : World) (hl : le w w') => hv ▸ i_ValidBow q.x q.y q.nx q.ny (q.j : Nat) (q.k : Nat) 1 q.a q.b q.c q.p q.q q.m q.l B s t w' (hs.le hl) (ht.le hl) ⟨wf_nat (Nat.le_trans (Nat.le_of_lt ok.j1) ok.nx2), wf_nat (Nat.le_trans (Nat.le_of_lt ok.k1) ok.ny2)⟩ ⟨ok.fa, ok.fb, ok.fc, ok.fp, ok.fq, ok.fm, ok.fl⟩)
  have HN := hid (fun (w' : World) (hl : le w w') => i_newDrawn q.x q.y q.nx q.ny (q.j : Nat) (q.k : Nat) 1 q.a q.b q.c q.p q.q q.m q.l B s t w' ((slT_rds hs).le hl) ((slT_rds ht).le hl) ⟨ok.nx1, ok.nx2⟩ ⟨ok.ny1, ok.ny2⟩ ⟨by decide, by decide⟩)
  have OK := hid ok; have OK2 := hid (ok.step sp fy)
  clear hs ht hv ok
  have F := ((Frg.nil w).box 31 #[s, .int .i64 (q.j : Nat), t, .int .i64 (q.k : Nat), .int .i64 1, .float .f32 q.a, .float .f32 q.b, .float .f32 q.c, .float .f32 q.p, .float .f32 q.q, .float .f32 q.m, .float .f32 q.l]).box 31 #[.slice none 0 0, .int .i64 0, .slice none 0 0, .int .i64 0, .int .i64 0, .float .f32 0, .float .f32 0, .float .f32 0, .float .f32 0, .float .f32 0, .float .f32 0, .float .f32 0]
  simp only [World.size_alloc] at F
  go_enter Try.func23, Try.ntmps23
  go_wp2_with (first | ((with_reducible refine at_loadU rfl rfl ?_); (with_reducible refine wpList_loadG F rfl rfl rfl (by first | exact m0 | exact m1 | exact m2 | exact m3 | exact m4 | exact m5 | exact m6 | exact m7 | exact m8 | exact m9 | exact m10 | exact m11) Try.underlying31 rfl uinfoBowI rfl ?_)) | (go_at_call 77; ((with_reducible refine (HV.out _ F.below).mono ?_); rintro e w1 ⟨rfl, hl⟩; replace F := F.le hl; clear hl)) | (go_at_call 78; ((with_reducible refine (HN.out _ F.below).mono ?_); rintro e w2 ⟨g, r, s1, t1, b0, d0, rfl, hRG, hRR, hO1, hO2, hne, l1, l2, l3, l4, l5, l6, hl2⟩; have RG := hid hRG; have RR := hid hRR; have O1 := hid hO1; have O2 := hid hO2; have L2 := hid hl2; clear hRG hRR hO1 hO2 hl2)) | (go_at_call 79; ((with_reducible refine (i_bstep q sp q.p q.q s1 t1 b0 (b0 + 1) d0 (d0 + 1) g r _ RG.out RR.out O1.out O2.out OK.out (by omega) (by omega) (by omega) hsp (by omega) (by omega) (by omega)).mono ?_); rintro e w3 ⟨o3, rfl, ho3, fo3, hR3, hRR3, hP1, hP2, hC3⟩; have R3 := hid hR3; have RR3 := hid hRR3; have P1 := hid hP1; have P2 := hid hP2; have C3 := hid hC3; have HO3 := hid ho3; clear hR3 hRR3 hP1 hP2 hC3 ho3)) | (go_at_call 80; ((with_reducible refine (i_bbehind s1 t1 g r (stepB q sp) q.p q.q _ R3.out RR3.out (own_one P1.out) (own_one P2.out)).mono ?_); rintro e w4 ⟨rfl, hC4⟩; have C4 := hid hC4; clear hC4)) | ((with_reducible refine stop_store rfl ?_)))
  show wpList _ _ _ _ _ _
  have hz1 := (F.row m0).lt
  have L4 : Below w1.heap.size w1 w4 := Below.trans L2.out (Below.trans (C3.out.below (B := w1.heap.size) (fun k e => by omega) L2.out.size) (C4.out.below (B := w1.heap.size) (fun k e => by have e' : k = g := e; omega) (Nat.le_trans L2.out.size C3.out.size)))
  replace F := F.le L4
  have os := P1.out.one; have ot := P2.out.one
  have P1c := P1.out.chgS C4.out (fun i a b e => by have e' : i = g := e; omega)
  have P2c := P2.out.chgS C4.out (fun i a b e => by have e' : i = g := e; omega)
  refine wpList_storeD rfl rfl rfl (cells := #[s1, .int .i64 ((stepB q sp).j : Nat), t1, .int .i64 ((stepB q sp).k : Nat), .int .i64 1, .float .f32 (stepB q sp).a, .float .f32 (stepB q sp).b, .float .f32 (stepB q sp).c, .float .f32 (stepB q sp).p, .float .f32 (stepB q sp).q, .float .f32 (stepB q sp).m, .float .f32 (stepB q sp).l]) rfl (F.row m0) uinfoBowI rfl (by simp only [List.all_toArray', List.all_cons, List.all_nil, os, ot]; rfl) (fun w9 K => ?_)
  have C := (Chg.refl (· = w.heap.size + 1) w4).wrote K rfl
  have zc := C.size; have zc3 := C3.out.size; have zc4 := C4.out.size
  have Q1 := P1c.chgS C (fun i a b e => by have e' : i = w.heap.size + 1 := e; omega)
  have Q2 := P2c.chgS C (fun i a b e => by have e' : i = w.heap.size + 1 := e; omega)
  have ok2 := OK2.out
  have R := hid K.row
  have L := hid (F.wr0 K).below
  have LY := hid (layBow (stepB q sp).x (stepB q sp).y (stepB q sp).nx (stepB q sp).ny ((stepB q sp).j : Nat) ((stepB q sp).k : Nat) 1 (stepB q sp).a (stepB q sp).b (stepB q sp).c (stepB q sp).p (stepB q sp).q (stepB q sp).m (stepB q sp).l (lo := w.heap.size) ⟨b0, d0, Q1, Q2, hne, by omega, by omega, by omega, by omega⟩ ⟨wf_nat (Nat.le_trans (Nat.le_of_lt ok2.j1) ok2.nx2), wf_nat (Nat.le_trans (Nat.le_of_lt ok2.k1) ok2.ny2), by decide⟩ ⟨ok2.fa, ok2.fb, ok2.fc, ok2.fp, ok2.fq, ok2.fm, ok2.fl⟩)
  clear K F C P1c P2c Q1 Q2 os ot ok2
  go_wp2
  exact bodyPost_ret (results_row3 rfl _ _ _ _ _ rfl R.out Try.underlying31 rfl uinfoBowI) rfl ⟨[s1, .int .i64 ((stepB q sp).j : Nat), t1, .int .i64 ((stepB q sp).k : Nat), .int .i64 1, .float .f32 (stepB q sp).a, .float .f32 (stepB q sp).b, .float .f32 (stepB q sp).c, .float .f32 (stepB q sp).p, .float .f32 (stepB q sp).q, .float .f32 (stepB q sp).m, .float .f32 (stepB q sp).l], o3, rfl, LY.out, L.out, HO3.out⟩
set_option maxRecDepth 100000 in
set_option maxHeartbeats 4000000 in
theorem s_StepBow_no (x y : Nat → Nat) (nx ny : Nat) (j k : Int) (fk : Int) (a b c p q : Nat) (m o : Nat) (sp : Nat) (B : Nat) (s t : Value) (w : World) (hs : (slT x nx).RdN w B s) (ht : (slT y ny).RdN w B t) (wf : (Lit.int .i64 j).wf = true ∧ (Lit.int .i64 k).wf = true) (hf : (fits .f32 a ∧ fits .f32 b ∧ fits .f32 c ∧ fits .f32 p ∧ fits .f32 q ∧ fits .f32 m ∧ fits .f32 o)) (hv : okBow x y nx ny j k fk a b c p q m o = false) :
    Calls Try.prog 21 #[.agg #[s, .int .i64 j, t, .int .i64 k, .int .i64 fk, .float .f32 a, .float .f32 b, .float .f32 c, .float .f32 p, .float .f32 q, .float .f32 m, .float .f32 o], .float .f32 sp] w (OutV_Tfi (cdBow (fun _ => 0) (fun _ => 0) 0 0 0 0 0 0 0 0 0 0 0 0) 0 1 w) := by
  have HV := hid (fun (g9 : Nat) (w' : World) (hl : le w w') (R : Row w' g9 31 #[s, .int .i64 j, t, .int .i64 k, .int .i64 fk, .float .f32 a, .float .f32 b, .float .f32 c, .float .f32 p, .float .f32 q, .float .f32 m, .float .f32 o]) => hv ▸ s_l05Bow x y nx ny j k fk a b c p q m o B s t w' g9 R (hs.le hl) (ht.le hl) wf hf)
  clear hs ht wf hf hv
  have F := ((Frg.nil w).box 31 #[s, .int .i64 j, t, .int .i64 k, .int .i64 fk, .float .f32 a, .float .f32 b, .float .f32 c, .float .f32 p, .float .f32 q, .float .f32 m, .float .f32 o]).box 31 #[.slice none 0 0, .int .i64 0, .slice none 0 0, .int .i64 0, .int .i64 0, .float .f32 0, .float .f32 0, .float .f32 0, .float .f32 0, .float .f32 0, .float .f32 0, .float .f32 0]
  simp only [World.size_alloc] at F
  go_enter Try.func21, Try.ntmps21
  go_wp2_with (first | ((with_reducible refine at_loadU rfl rfl ?_); (with_reducible refine wpList_loadG F rfl rfl rfl (by first | exact m0 | exact m1 | exact m2 | exact m3 | exact m4 | exact m5 | exact m6 | exact m7 | exact m8 | exact m9 | exact m10 | exact m11) Try.underlying31 rfl uinfoBowI rfl ?_)) | (go_at_call 72; ((with_reducible refine (HV.out _ _ F.below (F.row m1)).mono ?_); rintro e w1 ⟨rfl, hl⟩; replace F := F.le hl; clear hl)) | ((with_reducible refine stop_store rfl ?_)))
  show wpList _ _ _ _ _ _
  refine wpList_storeD rfl rfl rfl (cells := #[.slice none 0 0, .int .i64 0, .slice none 0 0, .int .i64 0, .int .i64 0, .float .f32 0, .float .f32 0, .float .f32 0, .float .f32 0, .float .f32 0, .float .f32 0, .float .f32 0]) rfl (F.row m0) uinfoBowI rfl (by simp [Value.oneCell']) (fun w4 K => ?_)
  have R := hid K.row
  have L := hid (F.wr0 K).below
  clear K F
  go_wp2
  exact bodyPost_ret (results_row3 rfl _ _ _ _ _ rfl R.out Try.underlying31 rfl uinfoBowI) rfl ⟨[.slice none 0 0, .int .i64 0, .slice none 0 0, .int .i64 0, .int .i64 0, .float .f32 0, .float .f32 0, .float .f32 0, .float .f32 0, .float .f32 0, .float .f32 0, .float .f32 0], _, rfl, layBow0 _ _, L.out, by decide⟩
set_option maxRecDepth 100000 in
set_option maxHeartbeats 4000000 in
theorem s_StepBow_yes (sp : Nat) (hsp : fits .f32 sp) (q : BwS) (B : Nat) (s t : Value) (w : World) (hs : (slT q.x q.nx).RdN w B s) (ht : (slT q.y q.ny).RdN w B t) (ok : q.Ok) (hv : (okBow q.x q.y q.nx q.ny (q.j : Nat) (q.k : Nat) 1 q.a q.b q.c q.p q.q q.m q.l) = true) (fy : fits .f32 (q.y q.k)) :
    Calls Try.prog 21 #[.agg #[s, .int .i64 (q.j : Nat), t, .int .i64 (q.k : Nat), .int .i64 1, .float .f32 q.a, .float .f32 q.b, .float .f32 q.c, .float .f32 q.p, .float .f32 q.q, .float .f32 q.m, .float .f32 q.l], .float .f32 sp] w (OutV_Tfi (cdBow (stepB q sp).x (stepB q sp).y (stepB q sp).nx (stepB q sp).ny ((stepB q sp).j : Nat) ((stepB q sp).k : Nat) 1 (stepB q sp).a (stepB q sp).b (stepB q sp).c (stepB q sp).p (stepB q sp).q (stepB q sp).m (stepB q sp).l) (q.y q.k) 0 w) := by
  have HV := hid (fun (g9 : Nat) (w' : World) (hl : le w w') (R : Row w' g9 31 #[s, .int .i64 (q.j : Nat), t, .int .i64 (q.k : Nat), .int .i64 1, .float .f32 q.a, .float .f32 q.b, .float .f32 q.c, .float .f32 q.p, .float .f32 q.q, .float .f32 q.m, .float .f32 q.l]) => hv ▸ s_l05Bow q.x q.y q.nx q.ny (q.j : Nat) (q.k : Nat) 1 q.a q.b q.c q.p q.q q.m q.l B s t w' g9 R (hs.le hl) (ht.le hl) ⟨wf_nat (Nat.le_trans (Nat.le_of_lt ok.j1) ok.nx2), wf_nat (Nat.le_trans (Nat.le_of_lt ok.k1) ok.ny2)⟩ ⟨ok.fa, ok.fb, ok.fc, ok.fp, ok.fq, ok.fm, ok.fl⟩)
  have HC := hid (fun (g9 : Nat) (w' : World) (hl : le w w') (R : Row w' g9 31 #[s, .int .i64 (q.j : Nat), t, .int .i64 (q.k : Nat), .int .i64 1, .float .f32 q.a, .float .f32 q.b, .float .f32 q.c, .float .f32 q.p, .float .f32 q.q, .float .f32 q.m, .float .f32 q.l]) => s_l05CopyBow q.x q.y q.nx q.ny (q.j : Nat) (q.k : Nat) 1 q.a q.b q.c q.p q.q q.m q.l B s t w' g9 R ((slT_rds hs).le hl) ((slT_rds ht).le hl) ⟨ok.nx1, ok.nx2⟩ ⟨ok.ny1, ok.ny2⟩)
  have OK := hid ok; have OK2 := hid (ok.step sp fy)
  clear hs ht hv ok
  have F := ((Frg.nil w).box 31 #[s, .int .i64 (q.j : Nat), t, .int .i64 (q.k : Nat), .int .i64 1, .float .f32 q.a, .float .f32 q.b, .float .f32 q.c, .float .f32 q.p, .float .f32 q.q, .float .f32 q.m, .float .f32 q.l]).box 31 #[.slice none 0 0, .int .i64 0, .slice none 0 0, .int .i64 0, .int .i64 0, .float .f32 0, .float .f32 0, .float .f32 0, .float .f32 0, .float .f32 0, .float .f32 0, .float .f32 0]
  simp only [World.size_alloc] at F
  go_enter Try.func21, Try.ntmps21
  go_wp2_with (first | (go_at_call 72; ((with_reducible refine (HV.out _ _ F.below (F.row m1)).mono ?_); rintro e w1 ⟨rfl, hl⟩; replace F := F.le hl; clear hl)) | (go_at_call 73; ((with_reducible refine (HC.out _ _ F.below (F.row m1)).mono ?_); rintro e w2 ⟨s1, t1, rfl, h2, hl⟩; have os := hid (two_one h2).1; have ot := hid (two_one h2).2; replace F := F.two hl h2; clear h2 hl)) | (refine wpList_storeG F rfl rfl rfl rfl rfl uinfoBowI rfl (by simp only [List.all_toArray', List.all_cons, List.all_nil, os.out, ot.out]; rfl) ?_; clear F; intro W3 F zW))
  obtain ⟨b0, d0, hO1, hO2, hne, z1, z2, z3, z4⟩ := (F.facts (twF w1.heap.size w2.heap.size q.x q.nx q.y q.ny s1 t1) m1).2.2
  have O1 := hid hO1; have O2 := hid hO2; clear hO1 hO2
  have hg := (List.pairwise_cons.1 (List.pairwise_cons.1 F.apart).2).1 _ m0
  simp only [twF, rowF] at hg
  go_wp2_with (first | (go_at_call 74; ((with_reducible refine (s_l05StepBow q sp s1 t1 b0 (b0 + 1) d0 (d0 + 1) w2.heap.size _ (F.row m0) O1.out O2.out OK.out hsp (by omega) (by omega) (by omega)).mono ?_); rintro e w4 ⟨o3, rfl, ho3, fo3, hR3, hP1, hP2, hC3⟩; have R3 := hid hR3; have P1 := hid hP1; have P2 := hid hP2; have HO3 := hid ho3; have zC := hC3.size; replace F := F.cut2 hC3 (fun i e => by simp only [twF]; omega); clear hR3 hP1 hP2 hC3 ho3)) | ((with_reducible refine at_loadU rfl rfl ?_); (with_reducible refine wpList_loadDR R3.out rfl rfl rfl Try.underlying31 rfl uinfoBowI rfl ?_)) | ((with_reducible refine stop_store rfl ?_)))
  show wpList _ _ _ _ _ _
  have os4 := P1.out.one; have ot4 := P2.out.one
  refine wpList_storeD rfl rfl rfl (cells := #[s1, .int .i64 ((stepB q sp).j : Nat), t1, .int .i64 ((stepB q sp).k : Nat), .int .i64 1, .float .f32 (stepB q sp).a, .float .f32 (stepB q sp).b, .float .f32 (stepB q sp).c, .float .f32 (stepB q sp).p, .float .f32 (stepB q sp).q, .float .f32 (stepB q sp).m, .float .f32 (stepB q sp).l]) rfl (F.row m0) uinfoBowI rfl (by simp only [List.all_toArray', List.all_cons, List.all_nil, os4, ot4]; rfl) (fun w9 K => ?_)
  have C := (Chg.refl (· = w.heap.size + 1) w4).wrote K rfl
  have zc := C.size
  have Q1 := P1.out.chgS C (fun i a b e => by have e' : i = w.heap.size + 1 := e; omega)
  have Q2 := P2.out.chgS C (fun i a b e => by have e' : i = w.heap.size + 1 := e; omega)
  have ok2 := OK2.out
  have R := hid K.row
  have L := hid (F.wr0 K).below
  have LY := hid (layBow (stepB q sp).x (stepB q sp).y (stepB q sp).nx (stepB q sp).ny ((stepB q sp).j : Nat) ((stepB q sp).k : Nat) 1 (stepB q sp).a (stepB q sp).b (stepB q sp).c (stepB q sp).p (stepB q sp).q (stepB q sp).m (stepB q sp).l (lo := w.heap.size) ⟨b0, d0, Q1, Q2, hne, by omega, by omega, by omega, by omega⟩ ⟨wf_nat (Nat.le_trans (Nat.le_of_lt ok2.j1) ok2.nx2), wf_nat (Nat.le_trans (Nat.le_of_lt ok2.k1) ok2.ny2), by decide⟩ ⟨ok2.fa, ok2.fb, ok2.fc, ok2.fp, ok2.fq, ok2.fm, ok2.fl⟩)
  clear K F C Q1 Q2 os4 ot4 ok2
  go_wp2
  exact bodyPost_ret (results_row3 rfl _ _ _ _ _ rfl R.out Try.underlying31 rfl uinfoBowI) rfl ⟨[s1, .int .i64 ((stepB q sp).j : Nat), t1, .int .i64 ((stepB q sp).k : Nat), .int .i64 1, .float .f32 (stepB q sp).a, .float .f32 (stepB q sp).b, .float .f32 (stepB q sp).c, .float .f32 (stepB q sp).p, .float .f32 (stepB q sp).q, .float .f32 (stepB q sp).m, .float .f32 (stepB q sp).l], o3, rfl, LY.out, L.out, HO3.out⟩
theorem both_StepBow (cs : List CD) (sp : Nat) (h : HasShL shBow cs) (hsp : fits .f32 sp) : ∃ (ar0 : List CD) (ar1 : Nat) (ar2 : Int), ShOkL shBow ar0 ∧ szL ar0 ≤ 1048576 ∧ (∀ (w : World) (B : Nat) (u : List Value), RdLN w B (cs.map CD.cp) u → Calls Try.prog 21 #[.agg u.toArray, .float .f32 sp] w (OutV_Tfi ar0 ar1 ar2 w)) ∧ (∀ (w : World) (B : Nat) (u : List Value), RdLN w B (cs.map CD.cp) u → Calls Try.prog 23 #[.agg u.toArray, .float .f32 sp] w (OutV_Tfi ar0 ar1 ar2 w)) := by
  obtain ⟨xs, ys, nx, ny, j, k, fk, a, b, c, p, q, m, o, rfl, hx, hy⟩ := bow_data h
  cases hv : okBow (fun i => (xs i).fx) (fun i => (ys i).fx) nx ny j k fk a b c p q m o
  · refine ⟨cdBow (fun _ => 0) (fun _ => 0) 0 0 0 0 0 0 0 0 0 0 0 0, 0, 1, cdBow_sh (fun _ => 0) (fun _ => 0) 0 0 0 0 0 0 0 0 0 0 0 0, by rw [cdBow_sz]; omega, fun w B u hu => ?_, fun w B u hu => ?_⟩
    · obtain ⟨s, t, rfl, hs, ht, wf, hf⟩ := bow_open hu hx hy
      exact s_StepBow_no (fun i => (xs i).fx) (fun i => (ys i).fx) nx ny j k fk a b c p q m o sp B s t w hs ht wf hf hv
    · obtain ⟨s, t, rfl, hs, ht, wf, hf⟩ := bow_open hu hx hy
      exact i_StepBow_no (fun i => (xs i).fx) (fun i => (ys i).fx) nx ny j k fk a b c p q m o sp B s t w hs ht wf hf hv
  · obtain ⟨x1, x2, y1, y2, ⟨j, rfl, ej⟩, ⟨k, rfl, ek⟩, rfl, hk⟩ := okBow_j hv
    let Q : BwS := ⟨fun i => (xs i).fx, fun i => (ys i).fx, nx, ny, j, k, a, b, c, p, q, m, o⟩
    have hfy : ∀ (w : World) (B : Nat) (t : Value), (slT (fun i => (ys i).fx) ny).RdN w B t → fits .f32 ((ys k).fx) := fun w B t h => (slT_rds h).fits ek
    refine ⟨cdBow (stepB Q sp).x (stepB Q sp).y (stepB Q sp).nx (stepB Q sp).ny ((stepB Q sp).j : Nat) ((stepB Q sp).k : Nat) 1 (stepB Q sp).a (stepB Q sp).b (stepB Q sp).c (stepB Q sp).p (stepB Q sp).q (stepB Q sp).m (stepB Q sp).l, (ys k).fx, 0, cdBow_sh _ _ _ _ _ _ _ _ _ _ _ _ _ _, by rw [cdBow_sz]; exact (by show nx + ny ≤ 1048576; omega), fun w B u hu => ?_, fun w B u hu => ?_⟩
    · obtain ⟨s, t, rfl, hs, ht, wf, hf⟩ := bow_open hu hx hy
      exact s_StepBow_yes sp hsp Q B s t w hs ht ⟨x1, x2, y1, y2, ej, ek, hk, hf.1, hf.2.1, hf.2.2.1, hf.2.2.2.1, hf.2.2.2.2.1, hf.2.2.2.2.2.1, hf.2.2.2.2.2.2⟩ hv (hfy w B t ht)
    · obtain ⟨s, t, rfl, hs, ht, wf, hf⟩ := bow_open hu hx hy
      exact i_StepBow_yes sp hsp Q B s t w hs ht ⟨x1, x2, y1, y2, ej, ek, hk, hf.1, hf.2.1, hf.2.2.1, hf.2.2.2.1, hf.2.2.2.2.1, hf.2.2.2.2.2.1, hf.2.2.2.2.2.2⟩ hv (hfy w B t ht)
set_option maxRecDepth 100000 in
set_option maxHeartbeats 4000000 in
theorem i_SticksAt_no (x y : Nat → Nat) (nx ny : Nat) (j k : Int) (fk : Int) (a b c p q : Nat) (m o : Nat) (sp : Nat) (B : Nat) (s t : Value) (w : World) (hs : (slT x nx).RdN w B s) (ht : (slT y ny).RdN w B t) (wf : (Lit.int .i64 j).wf = true ∧ (Lit.int .i64 k).wf = true) (hf : (fits .f32 a ∧ fits .f32 b ∧ fits .f32 c ∧ fits .f32 p ∧ fits .f32 q ∧ fits .f32 m ∧ fits .f32 o)) (hv : okBow x y nx ny j k fk a b c p q m o = false) :
    Calls Try.prog 40 #[.agg #[s, .int .i64 j, t, .int .i64 k, .int .i64 fk, .float .f32 a, .float .f32 b, .float .f32 c, .float .f32 p, .float .f32 q, .float .f32 m, .float .f32 o], .float .f32 sp] w (Out_bi false 1 w) := by
  have HV := hid (fun (w' : World) (hl : le w w') => hv ▸ i_ValidBow x y nx ny j k fk a b c p q m o B s t w' (hs.le hl) (ht.le hl) wf hf)
  clear hs ht wf hf hv
  have F := (Frg.nil w).box 31 #[s, .int .i64 j, t, .int .i64 k, .int .i64 fk, .float .f32 a, .float .f32 b, .float .f32 c, .float .f32 p, .float .f32 q, .float .f32 m, .float .f32 o]
  go_enter Try.func40, Try.ntmps40
  go_wp2_with (first | ((with_reducible refine at_loadU rfl rfl ?_); (with_reducible refine wpList_loadG F rfl rfl rfl (by first | exact m0 | exact m1 | exact m2 | exact m3 | exact m4 | exact m5 | exact m6 | exact m7 | exact m8 | exact m9 | exact m10 | exact m11) Try.underlying31 rfl uinfoBowI rfl ?_)) | (go_at_call 77; ((with_reducible refine (HV.out _ F.below).mono ?_); rintro e w1 ⟨rfl, hl⟩; replace F := F.le hl; clear hl)))
  go_ret2
  exact ⟨rfl, F.below⟩
set_option maxRecDepth 100000 in
set_option maxHeartbeats 4000000 in
theorem i_SticksAt_yes (sp : Nat) (hsp : fits .f32 sp) (q : BwS) (B : Nat) (s t : Value) (w : World) (hs : (slT q.x q.nx).RdN w B s) (ht : (slT q.y q.ny).RdN w B t) (ok : q.Ok) (hv : (okBow q.x q.y q.nx q.ny (q.j : Nat) (q.k : Nat) 1 q.a q.b q.c q.p q.q q.m q.l) = true) :
    Calls Try.prog 40 #[.agg #[s, .int .i64 (q.j : Nat), t, .int .i64 (q.k : Nat), .int .i64 1, .float .f32 q.a, .float .f32 q.b, .float .f32 q.c, .float .f32 q.p, .float .f32 q.q, .float .f32 q.m, .float .f32 q.l], .float .f32 sp] w (Out_bi (FloatKind.f32.format.order (friV q.m (dB q sp)) 1065353216 == some .eq) 0 w) := by
  have HV := hid (fun (w' : World) (hl : le w w') => hv ▸ i_ValidBow q.x q.y q.nx q.ny (q.j : Nat) (q.k : Nat) 1 q.a q.b q.c q.p q.q q.m q.l B s t w' (hs.le hl) (ht.le hl) ⟨wf_nat (Nat.le_trans (Nat.le_of_lt ok.j1) ok.nx2), wf_nat (Nat.le_trans (Nat.le_of_lt ok.k1) ok.ny2)⟩ ⟨ok.fa, ok.fb, ok.fc, ok.fp, ok.fq, ok.fm, ok.fl⟩)
  have HN := hid (fun (w' : World) (hl : le w w') => i_newDrawn q.x q.y q.nx q.ny (q.j : Nat) (q.k : Nat) 1 q.a q.b q.c q.p q.q q.m q.l B s t w' ((slT_rds hs).le hl) ((slT_rds ht).le hl) ⟨ok.nx1, ok.nx2⟩ ⟨ok.ny1, ok.ny2⟩ ⟨by decide, by decide⟩)
  have OK := hid ok
  clear hs ht hv ok
  have F := (Frg.nil w).box 31 #[s, .int .i64 (q.j : Nat), t, .int .i64 (q.k : Nat), .int .i64 1, .float .f32 q.a, .float .f32 q.b, .float .f32 q.c, .float .f32 q.p, .float .f32 q.q, .float .f32 q.m, .float .f32 q.l]
  go_enter Try.func40, Try.ntmps40
  go_wp2_with (first | ((with_reducible refine at_loadU rfl rfl ?_); (with_reducible refine wpList_loadG F rfl rfl rfl (by first | exact m0 | exact m1 | exact m2 | exact m3 | exact m4 | exact m5 | exact m6 | exact m7 | exact m8 | exact m9 | exact m10 | exact m11) Try.underlying31 rfl uinfoBowI rfl ?_)) | (go_at_call 77; ((with_reducible refine (HV.out _ F.below).mono ?_); rintro e w1 ⟨rfl, hl⟩; replace F := F.le hl; clear hl)) | (go_at_call 78; ((with_reducible refine (HN.out _ F.below).mono ?_); rintro e w2 ⟨g, r, s1, t1, b0, d0, rfl, hRG, hRR, hO1, hO2, hne, l1, l2, l3, l4, l5, l6, hl2⟩; have RG := hid hRG; have RR := hid hRR; have O1 := hid hO1; have O2 := hid hO2; have L2 := hid hl2; clear hRG hRR hO1 hO2 hl2)) | (go_at_call 90; ((with_reducible refine (i_meet q sp q.p q.q s1 t1 b0 (b0 + 1) d0 (d0 + 1) g r _ RG.out RR.out O1.out O2.out OK.out (by omega) (by omega) (by omega)).mono ?_); rintro e w3 ⟨u, v, d, rfl, hu, hv, hd, fu, fv, fd, hRR3, hC3⟩; have HD := hid hd; replace F := F.le (Below.trans L2.out (hC3.below (B := w1.heap.size) (fun k e => by have e' : k = r := e; omega) L2.out.size)); clear hu hv hd hRR3 hC3)) | ((with_reducible refine at_load rfl ?_); first | (with_reducible refine wpList_load1 F rfl rfl rfl (by first | exact m0 | exact m1 | exact m2 | exact m3 | exact m4 | exact m5 | exact m6 | exact m7 | exact m8 | exact m9 | exact m10 | exact m11) (f := 10) (v := .float .f32 q.m) rfl ukindFloat32 ?_)) | (go_at_call 91; ((with_reducible refine (i_FrictionAt q.m d _).mono ?_); rintro e w4 ⟨fr, rfl, hf, hl4⟩; replace F := F.le hl4; have HF := hid hf; clear hf hl4)))
  go_ret2
  have ho : FloatKind.f32.format.order fr 1065353216 = FloatKind.f32.format.order (friV q.m (dB q sp)) 1065353216 := order_congr (HF.out.trans ((friV_congr (HD.out.trans (can_dB q sp).symm)).trans (can_friV _ _).symm)) rfl
  exact ⟨ret_bi (congrArg (fun z => z == some Ordering.eq) ho), F.below⟩
set_option maxRecDepth 100000 in
set_option maxHeartbeats 4000000 in
theorem s_SticksAt_no (x y : Nat → Nat) (nx ny : Nat) (j k : Int) (fk : Int) (a b c p q : Nat) (m o : Nat) (sp : Nat) (B : Nat) (s t : Value) (w : World) (hs : (slT x nx).RdN w B s) (ht : (slT y ny).RdN w B t) (wf : (Lit.int .i64 j).wf = true ∧ (Lit.int .i64 k).wf = true) (hf : (fits .f32 a ∧ fits .f32 b ∧ fits .f32 c ∧ fits .f32 p ∧ fits .f32 q ∧ fits .f32 m ∧ fits .f32 o)) (hv : okBow x y nx ny j k fk a b c p q m o = false) :
    Calls Try.prog 39 #[.agg #[s, .int .i64 j, t, .int .i64 k, .int .i64 fk, .float .f32 a, .float .f32 b, .float .f32 c, .float .f32 p, .float .f32 q, .float .f32 m, .float .f32 o], .float .f32 sp] w (Out_bi false 1 w) := by
  have HV := hid (fun (g9 : Nat) (w' : World) (hl : le w w') (R : Row w' g9 31 #[s, .int .i64 j, t, .int .i64 k, .int .i64 fk, .float .f32 a, .float .f32 b, .float .f32 c, .float .f32 p, .float .f32 q, .float .f32 m, .float .f32 o]) => hv ▸ s_l05Bow x y nx ny j k fk a b c p q m o B s t w' g9 R (hs.le hl) (ht.le hl) wf hf)
  clear hs ht wf hf hv
  have F := (Frg.nil w).box 31 #[s, .int .i64 j, t, .int .i64 k, .int .i64 fk, .float .f32 a, .float .f32 b, .float .f32 c, .float .f32 p, .float .f32 q, .float .f32 m, .float .f32 o]
  go_enter Try.func39, Try.ntmps39
  go_wp2_with (first | ((with_reducible refine at_loadU rfl rfl ?_); (with_reducible refine wpList_loadG F rfl rfl rfl (by first | exact m0 | exact m1 | exact m2 | exact m3 | exact m4 | exact m5 | exact m6 | exact m7 | exact m8 | exact m9 | exact m10 | exact m11) Try.underlying31 rfl uinfoBowI rfl ?_)) | (go_at_call 72; ((with_reducible refine (HV.out _ _ F.below (F.row m0)).mono ?_); rintro e w1 ⟨rfl, hl⟩; replace F := F.le hl; clear hl)))
  go_ret2
  exact ⟨rfl, F.below⟩
set_option maxRecDepth 100000 in
set_option maxHeartbeats 4000000 in
theorem s_SticksAt_yes (sp : Nat) (hsp : fits .f32 sp) (q : BwS) (B : Nat) (s t : Value) (w : World) (hs : (slT q.x q.nx).RdN w B s) (ht : (slT q.y q.ny).RdN w B t) (ok : q.Ok) (hv : (okBow q.x q.y q.nx q.ny (q.j : Nat) (q.k : Nat) 1 q.a q.b q.c q.p q.q q.m q.l) = true) :
    Calls Try.prog 39 #[.agg #[s, .int .i64 (q.j : Nat), t, .int .i64 (q.k : Nat), .int .i64 1, .float .f32 q.a, .float .f32 q.b, .float .f32 q.c, .float .f32 q.p, .float .f32 q.q, .float .f32 q.m, .float .f32 q.l], .float .f32 sp] w (Out_bi (FloatKind.f32.format.order (friV q.m (dB q sp)) 1065353216 == some .eq) 0 w) := by
  have HV := hid (fun (g9 : Nat) (w' : World) (hl : le w w') (R : Row w' g9 31 #[s, .int .i64 (q.j : Nat), t, .int .i64 (q.k : Nat), .int .i64 1, .float .f32 q.a, .float .f32 q.b, .float .f32 q.c, .float .f32 q.p, .float .f32 q.q, .float .f32 q.m, .float .f32 q.l]) => hv ▸ s_l05Bow q.x q.y q.nx q.ny (q.j : Nat) (q.k : Nat) 1 q.a q.b q.c q.p q.q q.m q.l B s t w' g9 R (hs.le hl) (ht.le hl) ⟨wf_nat (Nat.le_trans (Nat.le_of_lt ok.j1) ok.nx2), wf_nat (Nat.le_trans (Nat.le_of_lt ok.k1) ok.ny2)⟩ ⟨ok.fa, ok.fb, ok.fc, ok.fp, ok.fq, ok.fm, ok.fl⟩)
  have HC := hid (fun (g9 : Nat) (w' : World) (hl : le w w') (R : Row w' g9 31 #[s, .int .i64 (q.j : Nat), t, .int .i64 (q.k : Nat), .int .i64 1, .float .f32 q.a, .float .f32 q.b, .float .f32 q.c, .float .f32 q.p, .float .f32 q.q, .float .f32 q.m, .float .f32 q.l]) => s_l05CopyBow q.x q.y q.nx q.ny (q.j : Nat) (q.k : Nat) 1 q.a q.b q.c q.p q.q q.m q.l B s t w' g9 R ((slT_rds hs).le hl) ((slT_rds ht).le hl) ⟨ok.nx1, ok.nx2⟩ ⟨ok.ny1, ok.ny2⟩)
  have OK := hid ok
  clear hs ht hv ok
  have F := (Frg.nil w).box 31 #[s, .int .i64 (q.j : Nat), t, .int .i64 (q.k : Nat), .int .i64 1, .float .f32 q.a, .float .f32 q.b, .float .f32 q.c, .float .f32 q.p, .float .f32 q.q, .float .f32 q.m, .float .f32 q.l]
  go_enter Try.func39, Try.ntmps39
  go_wp2_with (first | (go_at_call 72; ((with_reducible refine (HV.out _ _ F.below (F.row m0)).mono ?_); rintro e w1 ⟨rfl, hl⟩; replace F := F.le hl; clear hl)) | (go_at_call 73; ((with_reducible refine (HC.out _ _ F.below (F.row m0)).mono ?_); rintro e w2 ⟨s1, t1, rfl, h2, hl⟩; have os := hid (two_one h2).1; have ot := hid (two_one h2).2; replace F := F.two hl h2; clear h2 hl)) | (refine wpList_storeG F rfl rfl rfl rfl rfl uinfoBowI rfl (by simp only [List.all_toArray', List.all_cons, List.all_nil, os.out, ot.out]; rfl) ?_; clear F; intro W3 F zW))
  obtain ⟨b0, d0, hO1, hO2, hne, z1, z2, z3, z4⟩ := (F.facts (twF w1.heap.size w2.heap.size q.x q.nx q.y q.ny s1 t1) m1).2.2
  have HM := hid (s_l05Draw q.x q.y q.nx q.ny q.j q.k q.a q.b q.c q.p q.q q.m q.l sp s1 t1 b0 (b0 + 1) d0 (d0 + 1) w2.heap.size _ (F.row m0) hO1 hO2 OK.out.j1 OK.out.k1 OK.out.nx2 OK.out.ny2 (by omega) OK.out.f OK.out.fp)
  clear hO1 hO2
  go_wp2_with (first | (go_at_call 88; ((with_reducible refine HM.out.mono ?_); rintro e w3 ⟨u, v, d, rfl, hu, hv, hd, fu, fv, fd, hR3, hC3⟩; have HD : Hid (can .f32 d = dB q sp) := hd; replace F := F.cut2 hC3 (fun i e => by have e' : i = w2.heap.size := e; simp only [twF]; omega); clear hu hv hd hR3 hC3)) | ((with_reducible refine at_load rfl ?_); first | (with_reducible refine wpList_load1 F rfl rfl rfl (by first | exact m0 | exact m1 | exact m2 | exact m3 | exact m4 | exact m5 | exact m6 | exact m7 | exact m8 | exact m9 | exact m10 | exact m11) (f := 10) (v := .float .f32 q.m) rfl ukindFloat32 ?_)) | (go_at_call 89; ((with_reducible refine (s_l05Friction q.m d _).mono ?_); rintro e w4 ⟨fr, rfl, hf, hl4⟩; replace F := F.le hl4; have HF := hid hf; clear hf hl4)))
  go_ret2
  have ho : FloatKind.f32.format.order fr 1065353216 = FloatKind.f32.format.order (friV q.m (dB q sp)) 1065353216 := order_congr (HF.out.trans ((friV_congr (HD.out.trans (can_dB q sp).symm)).trans (can_friV _ _).symm)) rfl
  exact ⟨ret_bi (congrArg (fun z => z == some Ordering.eq) ho), F.below⟩
theorem both_SticksAt (cs : List CD) (sp : Nat) (h : HasShL shBow cs) (hsp : fits .f32 sp) : ∃ (ar0 : Bool) (ar1 : Int), (∀ (w : World) (B : Nat) (u : List Value), RdLN w B (cs.map CD.cp) u → Calls Try.prog 39 #[.agg u.toArray, .float .f32 sp] w (Out_bi ar0 ar1 w)) ∧ (∀ (w : World) (B : Nat) (u : List Value), RdLN w B (cs.map CD.cp) u → Calls Try.prog 40 #[.agg u.toArray, .float .f32 sp] w (Out_bi ar0 ar1 w)) := by
  obtain ⟨xs, ys, nx, ny, j, k, fk, a, b, c, p, q, m, o, rfl, hx, hy⟩ := bow_data h
  cases hv : okBow (fun i => (xs i).fx) (fun i => (ys i).fx) nx ny j k fk a b c p q m o
  · refine ⟨false, 1, fun w B u hu => ?_, fun w B u hu => ?_⟩
    · obtain ⟨s, t, rfl, hs, ht, wf, hf⟩ := bow_open hu hx hy
      exact s_SticksAt_no (fun i => (xs i).fx) (fun i => (ys i).fx) nx ny j k fk a b c p q m o sp B s t w hs ht wf hf hv
    · obtain ⟨s, t, rfl, hs, ht, wf, hf⟩ := bow_open hu hx hy
      exact i_SticksAt_no (fun i => (xs i).fx) (fun i => (ys i).fx) nx ny j k fk a b c p q m o sp B s t w hs ht wf hf hv
  · obtain ⟨x1, x2, y1, y2, ⟨j, rfl, ej⟩, ⟨k, rfl, ek⟩, rfl, hk⟩ := okBow_j hv
    let Q : BwS := ⟨fun i => (xs i).fx, fun i => (ys i).fx, nx, ny, j, k, a, b, c, p, q, m, o⟩
    refine ⟨(FloatKind.f32.format.order (friV Q.m (dB Q sp)) 1065353216 == some .eq), 0, fun w B u hu => ?_, fun w B u hu => ?_⟩
    · obtain ⟨s, t, rfl, hs, ht, wf, hf⟩ := bow_open hu hx hy
      exact s_SticksAt_yes sp hsp Q B s t w hs ht ⟨x1, x2, y1, y2, ej, ek, hk, hf.1, hf.2.1, hf.2.2.1, hf.2.2.2.1, hf.2.2.2.2.1, hf.2.2.2.2.2.1, hf.2.2.2.2.2.2⟩ hv
    · obtain ⟨s, t, rfl, hs, ht, wf, hf⟩ := bow_open hu hx hy
      exact i_SticksAt_yes sp hsp Q B s t w hs ht ⟨x1, x2, y1, y2, ej, ek, hk, hf.1, hf.2.1, hf.2.2.1, hf.2.2.2.1, hf.2.2.2.2.1, hf.2.2.2.2.2.1, hf.2.2.2.2.2.2⟩ hv
end Go.Proofs.Ytgjdmoenobacgaa

/- What grows by append, beside facts of memory. Nothing here names a program. -/
namespace Go.Fk
open Go Go.RowKit
theorem ownsRow_chS {S : Nat → Prop} {w w' : World} {e : TypeId} {n B : Nat} {xs : List Value} {v : Value} (hw : Chg S w w') (h : w.ownsRow B e 1 v n xs) (hS : ∀ i, S i → i < B) : w'.ownsRow B e 1 v n xs := by
  obtain ⟨h1, h2⟩ := h
  refine ⟨h1, ?_⟩
  rcases h2 with h2 | ⟨q, cap, cur, e1, e2, e3, e4⟩
  · exact .inl h2
  · exact .inr ⟨q, cap, cur, e1, e2, by have := hw.row (g := q) (t := e) (cs := cur) e3 (fun hq => by have := hS q hq; omega); exact this, e4⟩
theorem ownBlock_ge {w : World} {B : Nat} {e : TypeId} {z : Nat} {v : Value} {n : Nat} {xs : List Value} (h : w.ownsRow B e z v n xs) : ∀ k, v.ownBlock = some k → B ≤ k := by
  rcases h.2 with ⟨rfl, _⟩ | ⟨q, cap, cur, rfl, hb, _⟩
  · intro k hk; cases hk
  · intro k hk; simp only [Value.ownBlock, Option.some.injEq] at hk; omega
theorem chg_grown {w w' : World} {row : Option Nat} {B : Nat} (h : w.grownBy w' row) (hr : ∀ k, row = some k → B ≤ k) : Chg (B ≤ ·) w w' :=
  ⟨h.os, h.tape, h.output, h.size, fun k hk hn => h.block k hk (fun e => hn (hr k e.symm))⟩
theorem Frg.up {w0 w w' : World} {L : List Fact} {B : Nat} (h : Frg w0 w L) (k : Chg (B ≤ ·) w w') (hB : ∀ e ∈ L, e.hi ≤ B) (h0 : w0.heap.size ≤ B) : Frg w0 w' L :=
  ⟨h.below.trans (k.below (fun i hi => Nat.le_trans h0 hi) h.size), fun e he => by
    obtain ⟨h1, h2, h3⟩ := h.facts e he
    exact ⟨h1, Nat.le_trans h2 k.size, e.ok w w' h3 (fun i _ hi => k.block i (by omega) (fun hb => by have := hB e he; omega))⟩, h.apart⟩
theorem flist_snoc (y : Nat → Nat) (n a : Nat) : flist y n ++ [.float .f32 a] = flist (fun j => if j = n then a else y j) (n + 1) := by
  have h := flist_app y (fun _ => a) n 1
  have h1 : flist (fun _ => a) 1 = [.float .f32 a] := by simp [flist]
  rw [h1] at h
  rw [h]
  apply List.ext_getElem?
  intro i
  by_cases hi : i < n + 1
  · rw [flist_get' _ hi, flist_get' _ hi]
    by_cases e : i = n
    · simp [e]
    · simp [e, show i < n by omega]
  · rw [List.getElem?_eq_none (by rw [flist_length]; omega), List.getElem?_eq_none (by rw [flist_length]; omega)]
theorem Frg.own2 {w0 w w' : World} {L : List Fact} {q n n' : Nat} {s s' : Value} {x x' : Nat → Nat} (h : Frg w0 w L) (k : Below w.heap.size w w') (h1 : w.heap.size ≤ q) (h2 : q ≤ w'.heap.size) (o1 : OwnS w' w.heap.size q s x n) (o2 : OwnS w' q w'.heap.size s' x' n') :
    Frg w0 w' (ownF q w'.heap.size s' x' n' :: ownF w.heap.size q s x n :: L) := by
  refine ⟨(h.le k).below, fun e he => ?_, .cons (fun e he => ?_) (.cons (fun e he => (h.facts e he).2.1) h.apart)⟩
  · rcases List.mem_cons.1 he with rfl | he
    · exact ⟨Nat.le_trans h.size h1, Nat.le_refl _, o2⟩
    · rcases List.mem_cons.1 he with rfl | he
      · exact ⟨h.size, h2, o1⟩
      · exact (h.le k).facts e he
  · rcases List.mem_cons.1 he with rfl | he
    · exact Nat.le_refl q
    · exact Nat.le_trans (h.facts e he).2.1 h1
theorem m12 {b0 b1 b2 b3 b4 b5 b6 b7 b8 b9 b10 b11 a : Fact} {l : List Fact} : a ∈ b0 :: b1 :: b2 :: b3 :: b4 :: b5 :: b6 :: b7 :: b8 :: b9 :: b10 :: b11 :: a :: l := List.mem_cons_of_mem _ (List.mem_cons_of_mem _ (List.mem_cons_of_mem _ (List.mem_cons_of_mem _ (List.mem_cons_of_mem _ (List.mem_cons_of_mem _ (List.mem_cons_of_mem _ (List.mem_cons_of_mem _ (List.mem_cons_of_mem _ (List.mem_cons_of_mem _ (List.mem_cons_of_mem _ (List.mem_cons_of_mem _ (List.mem_cons_self))))))))))))
theorem m13 {b0 b1 b2 b3 b4 b5 b6 b7 b8 b9 b10 b11 b12 a : Fact} {l : List Fact} : a ∈ b0 :: b1 :: b2 :: b3 :: b4 :: b5 :: b6 :: b7 :: b8 :: b9 :: b10 :: b11 :: b12 :: a :: l := List.mem_cons_of_mem _ (List.mem_cons_of_mem _ (List.mem_cons_of_mem _ (List.mem_cons_of_mem _ (List.mem_cons_of_mem _ (List.mem_cons_of_mem _ (List.mem_cons_of_mem _ (List.mem_cons_of_mem _ (List.mem_cons_of_mem _ (List.mem_cons_of_mem _ (List.mem_cons_of_mem _ (List.mem_cons_of_mem _ (List.mem_cons_of_mem _ (List.mem_cons_self)))))))))))))
theorem m14 {b0 b1 b2 b3 b4 b5 b6 b7 b8 b9 b10 b11 b12 b13 a : Fact} {l : List Fact} : a ∈ b0 :: b1 :: b2 :: b3 :: b4 :: b5 :: b6 :: b7 :: b8 :: b9 :: b10 :: b11 :: b12 :: b13 :: a :: l := List.mem_cons_of_mem _ (List.mem_cons_of_mem _ (List.mem_cons_of_mem _ (List.mem_cons_of_mem _ (List.mem_cons_of_mem _ (List.mem_cons_of_mem _ (List.mem_cons_of_mem _ (List.mem_cons_of_mem _ (List.mem_cons_of_mem _ (List.mem_cons_of_mem _ (List.mem_cons_of_mem _ (List.mem_cons_of_mem _ (List.mem_cons_of_mem _ (List.mem_cons_of_mem _ (List.mem_cons_self))))))))))))))
theorem m15 {b0 b1 b2 b3 b4 b5 b6 b7 b8 b9 b10 b11 b12 b13 b14 a : Fact} {l : List Fact} : a ∈ b0 :: b1 :: b2 :: b3 :: b4 :: b5 :: b6 :: b7 :: b8 :: b9 :: b10 :: b11 :: b12 :: b13 :: b14 :: a :: l := List.mem_cons_of_mem _ (List.mem_cons_of_mem _ (List.mem_cons_of_mem _ (List.mem_cons_of_mem _ (List.mem_cons_of_mem _ (List.mem_cons_of_mem _ (List.mem_cons_of_mem _ (List.mem_cons_of_mem _ (List.mem_cons_of_mem _ (List.mem_cons_of_mem _ (List.mem_cons_of_mem _ (List.mem_cons_of_mem _ (List.mem_cons_of_mem _ (List.mem_cons_of_mem _ (List.mem_cons_of_mem _ (List.mem_cons_self)))))))))))))))
theorem m16 {b0 b1 b2 b3 b4 b5 b6 b7 b8 b9 b10 b11 b12 b13 b14 b15 a : Fact} {l : List Fact} : a ∈ b0 :: b1 :: b2 :: b3 :: b4 :: b5 :: b6 :: b7 :: b8 :: b9 :: b10 :: b11 :: b12 :: b13 :: b14 :: b15 :: a :: l := List.mem_cons_of_mem _ (List.mem_cons_of_mem _ (List.mem_cons_of_mem _ (List.mem_cons_of_mem _ (List.mem_cons_of_mem _ (List.mem_cons_of_mem _ (List.mem_cons_of_mem _ (List.mem_cons_of_mem _ (List.mem_cons_of_mem _ (List.mem_cons_of_mem _ (List.mem_cons_of_mem _ (List.mem_cons_of_mem _ (List.mem_cons_of_mem _ (List.mem_cons_of_mem _ (List.mem_cons_of_mem _ (List.mem_cons_of_mem _ (List.mem_cons_self))))))))))))))))
theorem m17 {b0 b1 b2 b3 b4 b5 b6 b7 b8 b9 b10 b11 b12 b13 b14 b15 b16 a : Fact} {l : List Fact} : a ∈ b0 :: b1 :: b2 :: b3 :: b4 :: b5 :: b6 :: b7 :: b8 :: b9 :: b10 :: b11 :: b12 :: b13 :: b14 :: b15 :: b16 :: a :: l := List.mem_cons_of_mem _ (List.mem_cons_of_mem _ (List.mem_cons_of_mem _ (List.mem_cons_of_mem _ (List.mem_cons_of_mem _ (List.mem_cons_of_mem _ (List.mem_cons_of_mem _ (List.mem_cons_of_mem _ (List.mem_cons_of_mem _ (List.mem_cons_of_mem _ (List.mem_cons_of_mem _ (List.mem_cons_of_mem _ (List.mem_cons_of_mem _ (List.mem_cons_of_mem _ (List.mem_cons_of_mem _ (List.mem_cons_of_mem _ (List.mem_cons_of_mem _ (List.mem_cons_self)))))))))))))))))
theorem m18 {b0 b1 b2 b3 b4 b5 b6 b7 b8 b9 b10 b11 b12 b13 b14 b15 b16 b17 a : Fact} {l : List Fact} : a ∈ b0 :: b1 :: b2 :: b3 :: b4 :: b5 :: b6 :: b7 :: b8 :: b9 :: b10 :: b11 :: b12 :: b13 :: b14 :: b15 :: b16 :: b17 :: a :: l := List.mem_cons_of_mem _ (List.mem_cons_of_mem _ (List.mem_cons_of_mem _ (List.mem_cons_of_mem _ (List.mem_cons_of_mem _ (List.mem_cons_of_mem _ (List.mem_cons_of_mem _ (List.mem_cons_of_mem _ (List.mem_cons_of_mem _ (List.mem_cons_of_mem _ (List.mem_cons_of_mem _ (List.mem_cons_of_mem _ (List.mem_cons_of_mem _ (List.mem_cons_of_mem _ (List.mem_cons_of_mem _ (List.mem_cons_of_mem _ (List.mem_cons_of_mem _ (List.mem_cons_of_mem _ (List.mem_cons_self))))))))))))))))))
theorem m19 {b0 b1 b2 b3 b4 b5 b6 b7 b8 b9 b10 b11 b12 b13 b14 b15 b16 b17 b18 a : Fact} {l : List Fact} : a ∈ b0 :: b1 :: b2 :: b3 :: b4 :: b5 :: b6 :: b7 :: b8 :: b9 :: b10 :: b11 :: b12 :: b13 :: b14 :: b15 :: b16 :: b17 :: b18 :: a :: l := List.mem_cons_of_mem _ (List.mem_cons_of_mem _ (List.mem_cons_of_mem _ (List.mem_cons_of_mem _ (List.mem_cons_of_mem _ (List.mem_cons_of_mem _ (List.mem_cons_of_mem _ (List.mem_cons_of_mem _ (List.mem_cons_of_mem _ (List.mem_cons_of_mem _ (List.mem_cons_of_mem _ (List.mem_cons_of_mem _ (List.mem_cons_of_mem _ (List.mem_cons_of_mem _ (List.mem_cons_of_mem _ (List.mem_cons_of_mem _ (List.mem_cons_of_mem _ (List.mem_cons_of_mem _ (List.mem_cons_of_mem _ (List.mem_cons_self)))))))))))))))))))
theorem Frg.mark10 {w0 w w' : World} {lo hi n : Nat} {s : Value} {x x' : Nat → Nat} {l : List Fact} {b0 b1 b2 b3 b4 b5 b6 b7 b8 b9 : Fact} (h : Frg w0 w (b0 :: b1 :: b2 :: b3 :: b4 :: b5 :: b6 :: b7 :: b8 :: b9 :: ownF lo hi s x n :: l)) (hp : OwnS w' lo hi s x' n) (k : Chg (rng lo hi) w w') : Frg w0 w' (b0 :: b1 :: b2 :: b3 :: b4 :: b5 :: b6 :: b7 :: b8 :: b9 :: ownF lo hi s x' n :: l) :=
  Frg.chg [b0, b1, b2, b3, b4, b5, b6, b7, b8, b9] (e := ownF lo hi s x n) (e' := ownF lo hi s x' n) h k hp rfl rfl
theorem Frg.mark11 {w0 w w' : World} {lo hi n : Nat} {s : Value} {x x' : Nat → Nat} {l : List Fact} {b0 b1 b2 b3 b4 b5 b6 b7 b8 b9 b10 : Fact} (h : Frg w0 w (b0 :: b1 :: b2 :: b3 :: b4 :: b5 :: b6 :: b7 :: b8 :: b9 :: b10 :: ownF lo hi s x n :: l)) (hp : OwnS w' lo hi s x' n) (k : Chg (rng lo hi) w w') : Frg w0 w' (b0 :: b1 :: b2 :: b3 :: b4 :: b5 :: b6 :: b7 :: b8 :: b9 :: b10 :: ownF lo hi s x' n :: l) :=
  Frg.chg [b0, b1, b2, b3, b4, b5, b6, b7, b8, b9, b10] (e := ownF lo hi s x n) (e' := ownF lo hi s x' n) h k hp rfl rfl
theorem Frg.mark12 {w0 w w' : World} {lo hi n : Nat} {s : Value} {x x' : Nat → Nat} {l : List Fact} {b0 b1 b2 b3 b4 b5 b6 b7 b8 b9 b10 b11 : Fact} (h : Frg w0 w (b0 :: b1 :: b2 :: b3 :: b4 :: b5 :: b6 :: b7 :: b8 :: b9 :: b10 :: b11 :: ownF lo hi s x n :: l)) (hp : OwnS w' lo hi s x' n) (k : Chg (rng lo hi) w w') : Frg w0 w' (b0 :: b1 :: b2 :: b3 :: b4 :: b5 :: b6 :: b7 :: b8 :: b9 :: b10 :: b11 :: ownF lo hi s x' n :: l) :=
  Frg.chg [b0, b1, b2, b3, b4, b5, b6, b7, b8, b9, b10, b11] (e := ownF lo hi s x n) (e' := ownF lo hi s x' n) h k hp rfl rfl
theorem Frg.mark13 {w0 w w' : World} {lo hi n : Nat} {s : Value} {x x' : Nat → Nat} {l : List Fact} {b0 b1 b2 b3 b4 b5 b6 b7 b8 b9 b10 b11 b12 : Fact} (h : Frg w0 w (b0 :: b1 :: b2 :: b3 :: b4 :: b5 :: b6 :: b7 :: b8 :: b9 :: b10 :: b11 :: b12 :: ownF lo hi s x n :: l)) (hp : OwnS w' lo hi s x' n) (k : Chg (rng lo hi) w w') : Frg w0 w' (b0 :: b1 :: b2 :: b3 :: b4 :: b5 :: b6 :: b7 :: b8 :: b9 :: b10 :: b11 :: b12 :: ownF lo hi s x' n :: l) :=
  Frg.chg [b0, b1, b2, b3, b4, b5, b6, b7, b8, b9, b10, b11, b12] (e := ownF lo hi s x n) (e' := ownF lo hi s x' n) h k hp rfl rfl
theorem Frg.mark14 {w0 w w' : World} {lo hi n : Nat} {s : Value} {x x' : Nat → Nat} {l : List Fact} {b0 b1 b2 b3 b4 b5 b6 b7 b8 b9 b10 b11 b12 b13 : Fact} (h : Frg w0 w (b0 :: b1 :: b2 :: b3 :: b4 :: b5 :: b6 :: b7 :: b8 :: b9 :: b10 :: b11 :: b12 :: b13 :: ownF lo hi s x n :: l)) (hp : OwnS w' lo hi s x' n) (k : Chg (rng lo hi) w w') : Frg w0 w' (b0 :: b1 :: b2 :: b3 :: b4 :: b5 :: b6 :: b7 :: b8 :: b9 :: b10 :: b11 :: b12 :: b13 :: ownF lo hi s x' n :: l) :=
  Frg.chg [b0, b1, b2, b3, b4, b5, b6, b7, b8, b9, b10, b11, b12, b13] (e := ownF lo hi s x n) (e' := ownF lo hi s x' n) h k hp rfl rfl
theorem Frg.mark15 {w0 w w' : World} {lo hi n : Nat} {s : Value} {x x' : Nat → Nat} {l : List Fact} {b0 b1 b2 b3 b4 b5 b6 b7 b8 b9 b10 b11 b12 b13 b14 : Fact} (h : Frg w0 w (b0 :: b1 :: b2 :: b3 :: b4 :: b5 :: b6 :: b7 :: b8 :: b9 :: b10 :: b11 :: b12 :: b13 :: b14 :: ownF lo hi s x n :: l)) (hp : OwnS w' lo hi s x' n) (k : Chg (rng lo hi) w w') : Frg w0 w' (b0 :: b1 :: b2 :: b3 :: b4 :: b5 :: b6 :: b7 :: b8 :: b9 :: b10 :: b11 :: b12 :: b13 :: b14 :: ownF lo hi s x' n :: l) :=
  Frg.chg [b0, b1, b2, b3, b4, b5, b6, b7, b8, b9, b10, b11, b12, b13, b14] (e := ownF lo hi s x n) (e' := ownF lo hi s x' n) h k hp rfl rfl
theorem Frg.mark16 {w0 w w' : World} {lo hi n : Nat} {s : Value} {x x' : Nat → Nat} {l : List Fact} {b0 b1 b2 b3 b4 b5 b6 b7 b8 b9 b10 b11 b12 b13 b14 b15 : Fact} (h : Frg w0 w (b0 :: b1 :: b2 :: b3 :: b4 :: b5 :: b6 :: b7 :: b8 :: b9 :: b10 :: b11 :: b12 :: b13 :: b14 :: b15 :: ownF lo hi s x n :: l)) (hp : OwnS w' lo hi s x' n) (k : Chg (rng lo hi) w w') : Frg w0 w' (b0 :: b1 :: b2 :: b3 :: b4 :: b5 :: b6 :: b7 :: b8 :: b9 :: b10 :: b11 :: b12 :: b13 :: b14 :: b15 :: ownF lo hi s x' n :: l) :=
  Frg.chg [b0, b1, b2, b3, b4, b5, b6, b7, b8, b9, b10, b11, b12, b13, b14, b15] (e := ownF lo hi s x n) (e' := ownF lo hi s x' n) h k hp rfl rfl
end Go.Fk

/- Filling a list, one by one. Nothing here names a program. -/
namespace Go.Fk
open Go Go.RowKit
/-- So many outputs, then the inputs. -/
def upto (j : Nat) (h z : Nat → Nat) : Nat → Nat := fun i => if i < j then h i else z i
theorem upto_zero (h z : Nat → Nat) : upto 0 h z = z := by funext i; simp [upto]
theorem upto_set (j : Nat) (h z : Nat → Nat) (r : Nat) : (fun i => if i = j then r else upto j h z i) = upto (j + 1) (fun i => if i = j then r else h i) z := by
  funext i
  unfold upto
  by_cases e : i = j
  · subst e; simp
  · by_cases l : i < j
    · simp [e, l, show i < j + 1 by omega]
    · simp [e, l, show ¬ i < j + 1 by omega]
theorem upto_full (h z : Nat → Nat) : ftab .f32 (upto 16 h z) 16 = ftab .f32 h 16 := ftab_congr (fun j hj => if_pos hj)
end Go.Fk

/- Cells of slices that one may write. Nothing here names a program. -/
namespace Go.Fk
open Go Go.RowKit
theorem OwnS.form {w : World} {lo hi n : Nat} {s : Value} {x : Nat → Nat} (h : OwnS w lo hi s x n) (hn : 1 ≤ n) : ∃ b o cap, s = .slice (some ⟨b, o, none⟩) n cap ∧ n ≤ cap ∧ cap ≤ maxLen ∧ lo ≤ b ∧ b < hi := by
  rcases h with ⟨_, rfl⟩ | ⟨b, o, cap, cs, h1, h2, h3, h4, h5, _⟩
  · omega
  · exact ⟨b, o, cap, h1, h2, h3, h4, h5⟩
theorem OwnS.at {w : World} {lo hi b o n cap : Nat} {x : Nat → Nat} (h : OwnS w lo hi (.slice (some ⟨b, o, none⟩) n cap) x n) {i : Nat} (hi' : i < n) : ∃ y, w.cell? ⟨b, o + i, none⟩ = some (.float .f32 y) ∧ w.frozen? ⟨b, o + i, none⟩ = false ∧ fits .f32 y ∧ can .f32 y = x i := by
  rcases h with ⟨h0, _⟩ | ⟨b', o', cap', cs, h1, h2, h3, h4, h5, h6, h7⟩
  · cases h0
  · simp only [Value.slice.injEq, Option.some.injEq, Addr.mk.injEq, and_true, true_and] at h1
    obtain ⟨⟨rfl, rfl⟩, rfl⟩ := h1
    obtain ⟨y, e1, e2, e3⟩ := h7 i hi'
    exact ⟨y, (h6.cell? (o + i)).trans e1, h6.frozen (o + i), e2, e3⟩
theorem OwnS.set {w : World} {lo hi b o n cap : Nat} {x : Nat → Nat} (h : OwnS w lo hi (.slice (some ⟨b, o, none⟩) n cap) x n) {i a : Nat} (hi' : i < n) (ha : fits .f32 a) :
    OwnS (w.setCell ⟨b, o + i, none⟩ (.float .f32 a)) lo hi (.slice (some ⟨b, o, none⟩) n cap) (pushX x i a) n ∧ Chg (rng lo hi) w (w.setCell ⟨b, o + i, none⟩ (.float .f32 a)) := by
  rcases h with ⟨h0, _⟩ | ⟨b', o', cap', cs, h1, h2, h3, h4, h5, h6, h7⟩
  · cases h0
  · simp only [Value.slice.injEq, Option.some.injEq, Addr.mk.injEq, and_true, true_and] at h1
    obtain ⟨⟨rfl, rfl⟩, rfl⟩ := h1
    refine ⟨.inr ⟨b, o, cap, cs.setIfInBounds (o + i) (.float .f32 a), rfl, h2, h3, h4, h5, h6.set _ _, fun j hj => ?_⟩, (Chg.refl _ _).setCell (a := ⟨b, o + i, none⟩) ⟨h4, h5⟩ _⟩
    obtain ⟨y0, e0, _⟩ := h7 i hi'
    have hlt : o + i < cs.size := (Array.getElem?_eq_some_iff.1 e0).1
    by_cases e : j = i
    · subst e
      exact ⟨a, by simp [hlt], ha, by simp [pushX]⟩
    · obtain ⟨y, e1, e2, e3⟩ := h7 j hj
      exact ⟨y, by rw [Array.getElem?_setIfInBounds_ne (by omega)]; exact e1, e2, by simp [pushX, e, e3]⟩
namespace Frg
variable {w0 w w' : World}
theorem chg0 {e e' : Fact} {post : List Fact} (h : Frg w0 w (e :: post)) (k : Chg (rng e.lo e.hi) w w') (hp : e'.p w') (h1 : e'.lo = e.lo) (h2 : e'.hi = e.hi) : Frg w0 w' (e' :: post) := chg [] h k hp h1 h2
theorem chg1 {b0 e e' : Fact} {post : List Fact} (h : Frg w0 w (b0 :: e :: post)) (k : Chg (rng e.lo e.hi) w w') (hp : e'.p w') (h1 : e'.lo = e.lo) (h2 : e'.hi = e.hi) : Frg w0 w' (b0 :: e' :: post) := chg [b0] h k hp h1 h2
end Frg
/-- The first k samples are 0. -/
def zeroTo (k : Nat) (x : Nat → Nat) : Nat → Nat := fun i => if i < k then 0 else x i
theorem zeroTo_0 (x : Nat → Nat) : zeroTo 0 x = x := by funext i; simp [zeroTo]
theorem zeroTo_s (k : Nat) (x : Nat → Nat) : pushX (zeroTo k x) k 0 = zeroTo (k + 1) x := by
  funext i
  unfold pushX zeroTo
  by_cases e : i = k
  · subst e; simp; decide
  · by_cases l : i < k
    · simp [e, l, show i < k + 1 by omega]
    · simp [e, l, show ¬ i < k + 1 by omega]
end Go.Fk

/- What plays from sample to sample: runs, what stays readable, memory made behind facts. Nothing here names a program. -/
namespace Go.Fk
open Go Go.RowKit
def runQ {α : Type} (st : α → Nat → α) (q : α) (z : Nat → Nat) : Nat → α
  | 0 => q
  | j + 1 => st (runQ st q z j) (z j)
theorem Chg.setNew {S : Nat → Prop} {w w' : World} (h : Chg S w w') {a : Addr} (h1 : w.heap.size ≤ a.block) (v : Value) : Chg S w (w'.setCell a v) :=
  ⟨h.os, h.tape, h.output, by simpa using h.size, fun i hi hn => (Below.heap_setCell _ _ _ _ (by intro e; omega)).trans (h.block i hi hn)⟩
theorem RdS.stay {w0 w w' : World} {B n : Nat} {s : Value} {x : Nat → Nat} {S : Nat → Prop} (h : RdS w0 B s x n) (hl : Fk.le w0 w) (hS : ∀ k, S k → w0.heap.size ≤ k) (hc : Chg S w w') : RdS w' B s x n :=
  h.le (Below.trans hl (hc.below (B := w0.heap.size) hS hl.size))
/-- The newest fact's blocks are written, and memory is made. -/
theorem Frg.chgNew {w0 w w' : World} {post : List Fact} {e e' f : Fact} (h : Frg w0 w (e :: post)) (k : Chg (rng e.lo e.hi) w w') (hp : e'.p w') (h1 : e'.lo = e.lo) (h2 : e'.hi = e.hi) (hf : f.p w') (hl : w.heap.size ≤ f.lo) (hh : f.hi ≤ w'.heap.size) : Frg w0 w' (f :: e' :: post) := by
  have hc := h.chg0 k hp h1 h2
  refine ⟨hc.below, fun x hx => ?_, .cons (fun x hx => ?_) hc.apart⟩
  · rcases List.mem_cons.1 hx with rfl | hx
    · exact ⟨Nat.le_trans h.below.size hl, hh, hf⟩
    · exact hc.facts x hx
  · have hx' : x.hi ≤ w.heap.size := by
      rcases List.mem_cons.1 hx with rfl | hx
      · rw [h2]; exact (h.facts e (by simp)).2.1
      · exact (h.facts x (by simp [hx])).2.1
    omega
end Go.Fk

/- 'PlayBow' of both. -/
namespace Go.Fk
open Go Go.RowKit
theorem stepB_congr (q : BwS) {a b : Nat} (h : can .f32 a = can .f32 b) : stepB q a = stepB q b := by
  have e : dB q a = dB q b := by unfold dB dBow; exact fop_congr h rfl
  simp only [stepB, n1B, n2B, wB, e]
def outB (q : BwS) (z : Nat → Nat) (j : Nat) : Nat := (runQ stepB q z j).y (runQ stepB q z j).k
end Go.Fk
namespace Go.Proofs.Ytgjdmoenobacgaa
open Go.RowKit Go.Fk
theorem layBowH (x y : Nat → Nat) (nx ny : Nat) (j k : Int) (fk : Int) (a b c p q : Nat) (m o : Nat) {lo hi : Nat} {s t : Value} {w : World} (h : (twF lo hi x nx y ny s t).p w) (wi : (Lit.int .i64 j).wf = true ∧ (Lit.int .i64 k).wf = true ∧ (Lit.int .i64 fk).wf = true) (hf : fits .f32 a ∧ fits .f32 b ∧ fits .f32 c ∧ fits .f32 p ∧ fits .f32 q ∧ fits .f32 m ∧ fits .f32 o) : LayL w (rng lo hi) (cdBow x y nx ny j k fk a b c p q m o) [s, .int .i64 j, t, .int .i64 k, .int .i64 fk, .float .f32 a, .float .f32 b, .float .f32 c, .float .f32 p, .float .f32 q, .float .f32 m, .float .f32 o] := by
  obtain ⟨wj, wk, wfk⟩ := wi
  obtain ⟨fa, fb, fc, fp, fq, fm, fo⟩ := hf
  obtain ⟨bq, dq, h1, h2, h3, h4, h5, h6, h7⟩ := h
  have e1 : LayL w (rng dq (dq + 1)) ([.sl 1 ny (fun i => .fcn .f32 (y i)), .int .i64 k, .int .i64 fk, .flt .f32 a, .flt .f32 b, .flt .f32 c, .flt .f32 p, .flt .f32 q, .flt .f32 m, .flt .f32 o] : List CD) [t, .int .i64 k, .int .i64 fk, .float .f32 a, .float .f32 b, .float .f32 c, .float .f32 p, .float .f32 q, .float .f32 m, .float .f32 o] := LayL.cons h2.lay (LayL.leaf ⟨rfl, wk⟩ (LayL.leaf ⟨rfl, wfk⟩ (LayL.leaf ⟨rfl, fa⟩ (LayL.leaf ⟨rfl, fb⟩ (LayL.leaf ⟨rfl, fc⟩ (LayL.leaf ⟨rfl, fp⟩ (LayL.leaf ⟨rfl, fq⟩ (LayL.leaf ⟨rfl, fm⟩ (LayL.leaf ⟨rfl, fo⟩ (LayL.nil _ (fun _ => False))))))))))) (fun _ h => h) (fun _ h => h.elim) (fun _ _ h => h)
  exact LayL.cons (S1 := rng bq (bq + 1)) (S2 := rng dq (dq + 1)) h1.lay (LayL.leaf ⟨rfl, wj⟩ e1) (fun j h => ⟨Nat.le_trans h4 h.1, by have := h.2; omega⟩) (fun j h => ⟨Nat.le_trans h6 h.1, by have := h.2; omega⟩) (fun j h h2 => by have a1 := h.1; have a2 := h.2; have b1 := h2.1; have b2 := h2.2; omega)
def LbB (w : World) (B C g : Nat) (q : BwS) : Prop := q.Ok ∧ ∃ (s t : Value) (b0 d0 r z1 z2 : Nat), Row w g 144 #[s, .int .i64 (q.j : Nat), t, .int .i64 (q.k : Nat), .int .i64 1, .float .f32 q.a, .float .f32 q.b, .float .f32 q.c, .float .f32 z1, .float .f32 z2, .float .f32 q.m, .float .f32 q.l, .pointer (some ⟨r, 0, none⟩)] ∧ Row w r 149 #[mdl 1 q.a q.b q.c, .float .f32 q.p, .float .f32 q.q] ∧ OwnS w b0 (b0 + 1) s q.x q.nx ∧ OwnS w d0 (d0 + 1) t q.y q.ny ∧ (b0 ≠ d0 ∧ B ≤ b0 ∧ B ≤ d0 ∧ b0 < r ∧ d0 < r ∧ r < g ∧ g < C)
theorem LbB.ok {w w' : World} {B C g : Nat} {q : BwS} (h : LbB w B C g q) (hk : ∀ k, B ≤ k → k < C → w'.heap[k]? = w.heap[k]?) : LbB w' B C g q := by
  obtain ⟨ok, s, t, b0, d0, r, z1, z2, R, RR, O1, O2, e1, e2, e3, e4, e5, e6, e7⟩ := h
  exact ⟨ok, s, t, b0, d0, r, z1, z2, (rowF g _ _).ok w w' R (fun k a b => hk k (by have a' : g ≤ k := a; omega) (by have b' : k < g + 1 := b; omega)), (rowF r _ _).ok w w' RR (fun k a b => hk k (by have a' : r ≤ k := a; omega) (by have b' : k < r + 1 := b; omega)), (ownF b0 (b0 + 1) s q.x q.nx).ok w w' O1 (fun k a b => hk k (by have a' : b0 ≤ k := a; omega) (by have b' : k < b0 + 1 := b; omega)), (ownF d0 (d0 + 1) t q.y q.ny).ok w w' O2 (fun k a b => hk k (by have a' : d0 ≤ k := a; omega) (by have b' : k < d0 + 1 := b; omega)), e1, e2, e3, e4, e5, e6, e7⟩
theorem LbB.le {w w' : World} {B C g : Nat} {q : BwS} (h : LbB w B C g q) (hl : Fk.le w w') (hC : C ≤ w.heap.size) : LbB w' B C g q := h.ok (fun k _ b => hl.block k (Nat.lt_of_lt_of_le b hC))
theorem LbB.set {w : World} {B C g : Nat} {q : BwS} (h : LbB w B C g q) {a : Addr} (hC : C ≤ a.block) (v : Value) : LbB (w.setCell a v) B C g q := h.ok (fun k _ b => Below.heap_setCell _ _ _ _ (by intro e; omega))
def lbB (B C g : Nat) (q : BwS) : Fact := ⟨B, C, fun w => LbB w B C g q, fun _ _ h hk => LbB.ok h hk⟩
theorem Frg.lbB {w0 w : World} {l : List Fact} {B C g : Nat} {q : BwS} (h : Frg w0 w l) (hm : lbB B C g q ∈ l) : LbB w B C g q := (h.facts _ hm).2.2
set_option maxRecDepth 100000 in
set_option maxHeartbeats 4000000 in
theorem i_bstepL (B C g : Nat) (q : BwS) (sp : Nat) (w : World) (h : LbB w B C g q) (hsp : fits .f32 sp) :
    Calls Try.prog 79 #[.pointer (some ⟨g, 0, none⟩), .float .f32 sp] w fun e w' => ∃ o, e = .returned (.float .f32 o) ∧ can .f32 o = q.y q.k ∧ fits .f32 o ∧ LbB w' B C g (stepB q sp) ∧ Chg (rng B C) w w' := by
  obtain ⟨ok, s, t, b0, d0, r, z1, z2, R, RR, O1, O2, e1, e2, e3, e4, e5, e6, e7⟩ := h
  refine (i_bstep q sp z1 z2 s t b0 (b0 + 1) d0 (d0 + 1) g r w R RR O1 O2 ok (by omega) (by omega) (by omega) hsp (by omega) (by omega) (by omega)).mono ?_
  rintro e w' ⟨o, rfl, ho, fo, R3, RR3, P1, P2, C3⟩
  exact ⟨o, rfl, ho, fo, ⟨ok.step sp (O2.rd.fits ok.k1), s, t, b0, d0, r, z1, z2, R3, RR3, P1, P2, e1, e2, e3, e4, e5, e6, e7⟩, C3.mono (fun i e => ⟨by omega, by omega⟩)⟩
set_option maxRecDepth 100000 in
set_option maxHeartbeats 4000000 in
theorem i_bbehindL (B C g : Nat) (q : BwS) (w : World) (h : LbB w B C g q) :
    Calls Try.prog 80 #[.pointer (some ⟨g, 0, none⟩)] w fun e w' => ∃ s t, e = .returned (.agg #[s, .int .i64 (q.j : Nat), t, .int .i64 (q.k : Nat), .int .i64 1, .float .f32 q.a, .float .f32 q.b, .float .f32 q.c, .float .f32 q.p, .float .f32 q.q, .float .f32 q.m, .float .f32 q.l]) ∧ (twF B C q.x q.nx q.y q.ny s t).p w' ∧ s.oneCell' = true ∧ t.oneCell' = true ∧ Chg (rng B C) w w' := by
  obtain ⟨ok, s, t, b0, d0, r, z1, z2, R, RR, O1, O2, e1, e2, e3, e4, e5, e6, e7⟩ := h
  refine (i_bbehind s t g r q z1 z2 w R RR (own_one O1) (own_one O2)).mono ?_
  rintro e w' ⟨rfl, hC⟩
  exact ⟨s, t, rfl, ⟨b0, d0, O1.chgS hC (fun i a b e => by have e' : i = g := e; omega), O2.chgS hC (fun i a b e => by have e' : i = g := e; omega), e1, e2, by omega, e3, by omega⟩, own_one O1, own_one O2, hC.mono (fun i e => by have e' : i = g := e; exact ⟨by omega, by omega⟩)⟩
set_option maxRecDepth 100000 in
set_option maxHeartbeats 4000000 in
theorem i_stepsB (B C g D : Nat) (q : BwS) (x : Nat → Nat) (n : Nat) (s : Value) (w : World) (hn : n ≤ 1048576) (h : LbB w B C g q) (hC : C ≤ w.heap.size) (hs : ∀ w', Chg (rng B C) w w' → RdS w' D s x n) :
    Calls Try.prog 81 #[.iface 107 (.pointer (some ⟨g, 0, none⟩)), s] w fun e w' => ∃ s', e = .returned s' ∧ OwnS w' w.heap.size w'.heap.size s' (outB q x) n ∧ LbB w' B C g (runQ stepB q x n) ∧ Chg (rng B C) w w' := by
  have HM := fun w => makeF n (by omega) w
  have Z := hid (hs w (Chg.refl _ w))
  have HS := hid hs
  have HL := hid h
  clear hs h
  go_enter Try.func81, Try.ntmps81
  go_wp2_with (with_reducible refine wpList_lenR rfl rfl rfl Try.underlying23 Z.out ?_)
  go_loopw [13] (fun i wr => ∃ j : Nat, j ≤ n ∧ i = .int .i64 j ∧ ∃ y : Nat → Nat, Hid (∀ i, i < j → fits .f32 (y i) ∧ can .f32 (y i) = outB q x i) ∧ Hid (LbB wr B C g (runQ stepB q x j)) ∧ Hid (Row wr w.heap.size 22 (ftab .f32 (upto j y (fun _ => 0)) n)) ∧ Hid (Chg (rng B C) w wr)) (fun i _ => n - (intOf i).toNat)
  case atStart => exact ⟨0, by omega, rfl, fun _ => 0, fun m hm => absurd hm (by omega), HL.out.le (le_alloc w _) hC, by rw [upto_zero]; exact Row.new w _ _, Chg.of_le (le_alloc w _)⟩
  case round =>
    obtain ⟨j, hj, rfl, y, HJ, HB, HR, HC⟩ := hrel
    clear HM
    by_cases hlt : j < n
    · rcases HS.out _ HC.out with ⟨_, h0⟩ | ⟨a, cap, rfl, hc, hm, hx⟩
      · omega
      obtain ⟨_, p, c1, fp, ep⟩ := hx j hlt
      have FP := hid fp
      have EP : Hid (can .f32 p = can .f32 (x j)) := by unfold Hid; rw [← ep, can_can]
      clear hx fp ep
      go_wp2_with (first | (go_at_call 79; ((with_reducible refine (i_bstepL _ _ _ _ p _ HB.out FP.out).mono ?_); rintro e w4 ⟨r, rfl, hr, fr, hlb, hch⟩; rw [stepB_congr _ EP.out] at hlb; have HB4 := hid hlb; have HR4 := hid (hch.row HR.out (fun e => by have := e.2; omega)); have HC4 := hid (HC.out.trans hch); have HRR := hid hr; have cc := HR4.out.ftab hlt; have ff := HR4.out.frozen j; clear hlb hch hr)))
      go_roundw
      case rel =>
        refine ⟨j + 1, by omega, by go_num, fun i => if i = j then r else y i, fill_step (p := fun i v => fits .f32 v ∧ can .f32 v = outB q x i) HJ.out ⟨fr, HRR.out⟩, HB4.out.set hC _, ?_, HC4.out.setNew (Nat.le_refl _) _⟩
        have F4 := HR4.out.set j (.float .f32 r)
        rw [set_ftab, upto_set] at F4
        exact F4
      case measure => simp [intOf]; omega
    · obtain rfl : j = n := by omega
      rw [show (ftab .f32 (upto j y (fun _ => 0)) j) = ftab .f32 y j from ftab_congr (fun i hi => if_pos hi)] at HR
      go_wp2
      go_ret
      exact ⟨_, rfl, .inr ⟨w.heap.size, 0, j, _, rfl, Nat.le_refl _, by unfold maxLen; omega, Nat.le_refl _, HR.out.lt, HR.out, fun i hi => ⟨y i, by rw [Nat.zero_add]; exact get_ftab .f32 y j i hi, (HJ.out i hi).1, (HJ.out i hi).2⟩⟩, HB.out, HC.out⟩
set_option maxRecDepth 100000 in
set_option maxHeartbeats 4000000 in
theorem i_PlayBow_no (x1 : Nat → Nat) (n1 : Nat) (u : Value) (B1 : Nat) (x y : Nat → Nat) (nx ny : Nat) (j k : Int) (fk : Int) (a b c p q : Nat) (m o : Nat) (B : Nat) (s t : Value) (w : World) (hs : (slT x nx).RdN w B s) (ht : (slT y ny).RdN w B t) (wf : (Lit.int .i64 j).wf = true ∧ (Lit.int .i64 k).wf = true) (hf : (fits .f32 a ∧ fits .f32 b ∧ fits .f32 c ∧ fits .f32 p ∧ fits .f32 q ∧ fits .f32 m ∧ fits .f32 o)) (hv : okBow x y nx ny j k fk a b c p q m o = false) :
    Calls Try.prog 27 #[.agg #[s, .int .i64 j, t, .int .i64 k, .int .i64 fk, .float .f32 a, .float .f32 b, .float .f32 c, .float .f32 p, .float .f32 q, .float .f32 m, .float .f32 o], u] w (OutV_Tli (cdBow (fun _ => 0) (fun _ => 0) 0 0 0 0 0 0 0 0 0 0 0 0) (fun _ => 0) 0 1 w) := by
  have HV := hid (fun (w' : World) (hl : le w w') => hv ▸ i_ValidBow x y nx ny j k fk a b c p q m o B s t w' (hs.le hl) (ht.le hl) wf hf)
  clear hs ht wf hf hv
  have F := ((Frg.nil w).box 31 #[s, .int .i64 j, t, .int .i64 k, .int .i64 fk, .float .f32 a, .float .f32 b, .float .f32 c, .float .f32 p, .float .f32 q, .float .f32 m, .float .f32 o]).box 31 #[.slice none 0 0, .int .i64 0, .slice none 0 0, .int .i64 0, .int .i64 0, .float .f32 0, .float .f32 0, .float .f32 0, .float .f32 0, .float .f32 0, .float .f32 0, .float .f32 0]
  simp only [World.size_alloc] at F
  go_enter Try.func27, Try.ntmps27
  go_wp2_with (first | ((with_reducible refine at_loadU rfl rfl ?_); (with_reducible refine wpList_loadG F rfl rfl rfl (by first | exact m0 | exact m1 | exact m2 | exact m3 | exact m4 | exact m5 | exact m6 | exact m7 | exact m8 | exact m9 | exact m10 | exact m11) Try.underlying31 rfl uinfoBowI rfl ?_)) | (go_at_call 77; ((with_reducible refine (HV.out _ F.below).mono ?_); rintro e w1 ⟨rfl, hl⟩; replace F := F.le hl; clear hl)) | ((with_reducible refine stop_store rfl ?_)))
  show wpList _ _ _ _ _ _
  refine wpList_storeD rfl rfl rfl (cells := #[.slice none 0 0, .int .i64 0, .slice none 0 0, .int .i64 0, .int .i64 0, .float .f32 0, .float .f32 0, .float .f32 0, .float .f32 0, .float .f32 0, .float .f32 0, .float .f32 0]) rfl (F.row m0) uinfoBowI rfl (by simp [Value.oneCell']) (fun w4 K => ?_)
  have R := hid K.row
  have L := hid (F.wr0 K).below
  clear K F
  go_wp2
  exact bodyPost_ret (results_row3 rfl _ _ _ _ _ rfl R.out Try.underlying31 rfl uinfoBowI) rfl ⟨[.slice none 0 0, .int .i64 0, .slice none 0 0, .int .i64 0, .int .i64 0, .float .f32 0, .float .f32 0, .float .f32 0, .float .f32 0, .float .f32 0, .float .f32 0, .float .f32 0], _, w.heap.size, rfl, layBow0 _ _, L.out, .inl ⟨rfl, rfl⟩, Nat.le_refl _, L.out.size⟩
set_option maxRecDepth 100000 in
set_option maxHeartbeats 4000000 in
theorem i_PlayBow_big (x1 : Nat → Nat) (n1 : Nat) (u : Value) (B1 : Nat) (q : BwS) (B : Nat) (s t : Value) (w : World) (hs : (slT q.x q.nx).RdN w B s) (ht : (slT q.y q.ny).RdN w B t) (ok : q.Ok) (hu : RdS w B1 u x1 n1) (hn : ¬ n1 ≤ 4096) (hv : (okBow q.x q.y q.nx q.ny (q.j : Nat) (q.k : Nat) 1 q.a q.b q.c q.p q.q q.m q.l) = true) :
    Calls Try.prog 27 #[.agg #[s, .int .i64 (q.j : Nat), t, .int .i64 (q.k : Nat), .int .i64 1, .float .f32 q.a, .float .f32 q.b, .float .f32 q.c, .float .f32 q.p, .float .f32 q.q, .float .f32 q.m, .float .f32 q.l], u] w (OutV_Tli (cdBow (fun _ => 0) (fun _ => 0) 0 0 0 0 0 0 0 0 0 0 0 0) (fun _ => 0) 0 3 w) := by
  have HV := hid (fun (w' : World) (hl : le w w') => hv ▸ i_ValidBow q.x q.y q.nx q.ny (q.j : Nat) (q.k : Nat) 1 q.a q.b q.c q.p q.q q.m q.l B s t w' (hs.le hl) (ht.le hl) ⟨wf_nat (Nat.le_trans (Nat.le_of_lt ok.j1) ok.nx2), wf_nat (Nat.le_trans (Nat.le_of_lt ok.k1) ok.ny2)⟩ ⟨ok.fa, ok.fb, ok.fc, ok.fp, ok.fq, ok.fm, ok.fl⟩)
  have Z := hid hu
  have hK : (4096 : Int) < (n1 : Int) := by omega
  clear hs ht hv ok hu hn
  have F := ((Frg.nil w).box 31 #[s, .int .i64 (q.j : Nat), t, .int .i64 (q.k : Nat), .int .i64 1, .float .f32 q.a, .float .f32 q.b, .float .f32 q.c, .float .f32 q.p, .float .f32 q.q, .float .f32 q.m, .float .f32 q.l]).box 31 #[.slice none 0 0, .int .i64 0, .slice none 0 0, .int .i64 0, .int .i64 0, .float .f32 0, .float .f32 0, .float .f32 0, .float .f32 0, .float .f32 0, .float .f32 0, .float .f32 0]
  simp only [World.size_alloc] at F
  go_enter Try.func27, Try.ntmps27
  go_wp2_with (first | ((with_reducible refine at_loadU rfl rfl ?_); (with_reducible refine wpList_loadG F rfl rfl rfl (by first | exact m0 | exact m1 | exact m2 | exact m3 | exact m4 | exact m5 | exact m6 | exact m7 | exact m8 | exact m9 | exact m10 | exact m11) Try.underlying31 rfl uinfoBowI rfl ?_)) | (go_at_call 77; ((with_reducible refine (HV.out _ F.below).mono ?_); rintro e w1 ⟨rfl, hl⟩; replace F := F.le hl; clear hl)) | (with_reducible refine wpList_lenR rfl rfl rfl Try.underlying23 Z.out ?_) | ((with_reducible refine stop_store rfl ?_)))
  show wpList _ _ _ _ _ _
  refine wpList_storeD rfl rfl rfl (cells := #[.slice none 0 0, .int .i64 0, .slice none 0 0, .int .i64 0, .int .i64 0, .float .f32 0, .float .f32 0, .float .f32 0, .float .f32 0, .float .f32 0, .float .f32 0, .float .f32 0]) rfl (F.row m0) uinfoBowI rfl (by simp [Value.oneCell']) (fun w4 K => ?_)
  have R := hid K.row
  have L := hid (F.wr0 K).below
  clear K F
  go_wp2
  exact bodyPost_ret (results_row3 rfl _ _ _ _ _ rfl R.out Try.underlying31 rfl uinfoBowI) rfl ⟨[.slice none 0 0, .int .i64 0, .slice none 0 0, .int .i64 0, .int .i64 0, .float .f32 0, .float .f32 0, .float .f32 0, .float .f32 0, .float .f32 0, .float .f32 0, .float .f32 0], _, w.heap.size, rfl, layBow0 _ _, L.out, .inl ⟨rfl, rfl⟩, Nat.le_refl _, L.out.size⟩
set_option maxRecDepth 100000 in
set_option maxHeartbeats 4000000 in
theorem i_PlayBow_yes (x1 : Nat → Nat) (n1 : Nat) (u : Value) (B1 : Nat) (q : BwS) (B : Nat) (s t : Value) (w : World) (hs : (slT q.x q.nx).RdN w B s) (ht : (slT q.y q.ny).RdN w B t) (ok : q.Ok) (hu : RdS w B1 u x1 n1) (hn : n1 ≤ 4096) (hv : (okBow q.x q.y q.nx q.ny (q.j : Nat) (q.k : Nat) 1 q.a q.b q.c q.p q.q q.m q.l) = true) :
    Calls Try.prog 27 #[.agg #[s, .int .i64 (q.j : Nat), t, .int .i64 (q.k : Nat), .int .i64 1, .float .f32 q.a, .float .f32 q.b, .float .f32 q.c, .float .f32 q.p, .float .f32 q.q, .float .f32 q.m, .float .f32 q.l], u] w (OutV_Tli (cdBow (runQ stepB q x1 n1).x (runQ stepB q x1 n1).y (runQ stepB q x1 n1).nx (runQ stepB q x1 n1).ny ((runQ stepB q x1 n1).j : Nat) ((runQ stepB q x1 n1).k : Nat) 1 (runQ stepB q x1 n1).a (runQ stepB q x1 n1).b (runQ stepB q x1 n1).c (runQ stepB q x1 n1).p (runQ stepB q x1 n1).q (runQ stepB q x1 n1).m (runQ stepB q x1 n1).l) (outB q x1) n1 0 w) := by
  have HV := hid (fun (w' : World) (hl : le w w') => hv ▸ i_ValidBow q.x q.y q.nx q.ny (q.j : Nat) (q.k : Nat) 1 q.a q.b q.c q.p q.q q.m q.l B s t w' (hs.le hl) (ht.le hl) ⟨wf_nat (Nat.le_trans (Nat.le_of_lt ok.j1) ok.nx2), wf_nat (Nat.le_trans (Nat.le_of_lt ok.k1) ok.ny2)⟩ ⟨ok.fa, ok.fb, ok.fc, ok.fp, ok.fq, ok.fm, ok.fl⟩)
  have HN := hid (fun (w' : World) (hl : le w w') => i_newDrawn q.x q.y q.nx q.ny (q.j : Nat) (q.k : Nat) 1 q.a q.b q.c q.p q.q q.m q.l B s t w' ((slT_rds hs).le hl) ((slT_rds ht).le hl) ⟨ok.nx1, ok.nx2⟩ ⟨ok.ny1, ok.ny2⟩ ⟨by decide, by decide⟩)
  have OK := hid ok; have Z := hid hu
  have hK : ¬ (4096 : Int) < (n1 : Int) := by omega
  clear hs ht hv ok hu
  have F := ((Frg.nil w).box 31 #[s, .int .i64 (q.j : Nat), t, .int .i64 (q.k : Nat), .int .i64 1, .float .f32 q.a, .float .f32 q.b, .float .f32 q.c, .float .f32 q.p, .float .f32 q.q, .float .f32 q.m, .float .f32 q.l]).box 31 #[.slice none 0 0, .int .i64 0, .slice none 0 0, .int .i64 0, .int .i64 0, .float .f32 0, .float .f32 0, .float .f32 0, .float .f32 0, .float .f32 0, .float .f32 0, .float .f32 0]
  simp only [World.size_alloc] at F
  go_enter Try.func27, Try.ntmps27
  go_wp2_with (first | ((with_reducible refine at_loadU rfl rfl ?_); (with_reducible refine wpList_loadG F rfl rfl rfl (by first | exact m0 | exact m1 | exact m2 | exact m3 | exact m4 | exact m5 | exact m6 | exact m7 | exact m8 | exact m9 | exact m10 | exact m11) Try.underlying31 rfl uinfoBowI rfl ?_)) | (go_at_call 77; ((with_reducible refine (HV.out _ F.below).mono ?_); rintro e w1 ⟨rfl, hl⟩; replace F := F.le hl; clear hl)) | (with_reducible refine wpList_lenR rfl rfl rfl Try.underlying23 Z.out ?_) | (go_at_call 78; ((with_reducible refine (HN.out _ F.below).mono ?_); rintro e w2 ⟨g, r, s1, t1, b0, d0, rfl, hRG, hRR, hO1, hO2, hne, l1, l2, l3, l4, l5, l6, hl2⟩; replace F := F.push (e := lbB w1.heap.size w2.heap.size g q) hl2 ⟨OK.out, s1, t1, b0, d0, r, q.p, q.q, hRG, hRR, hO1, hO2, hne, l1, l2, l3, l4, l5, l6⟩ (Nat.le_refl _) (Nat.le_refl _); clear hRG hRR hO1 hO2 hl2; have HST := hid (i_stepsB w1.heap.size w2.heap.size g B1 q x1 n1 u w2 (by omega) (Frg.lbB F m0) (F.facts (lbB w1.heap.size w2.heap.size g q) m0).2.1 (fun w5 hc => Z.out.stay F.below (fun k hk => Nat.le_trans (F.facts (lbB w1.heap.size w2.heap.size g q) m0).1 hk.1) hc)))) | (go_at_call 81; ((with_reducible refine HST.out.mono ?_); rintro e w3 ⟨s3, rfl, ho3, hlb3, hch3⟩; have OK2 := hid hlb3.1; replace F := F.chgNew (e' := lbB w1.heap.size w2.heap.size g (runQ stepB q x1 n1)) (f := ownF w2.heap.size w3.heap.size s3 (outB q x1) n1) hch3 hlb3 rfl rfl ho3 (Nat.le_refl _) (Nat.le_refl _); clear ho3 hlb3 hch3)) | (go_at_call 80; ((with_reducible refine (i_bbehindL _ _ _ _ _ (Frg.lbB F m1)).mono ?_); rintro e w4 ⟨s4, t4, rfl, htw, os, ot, hch4⟩; have OS := hid os; have OT := hid ot; replace F := F.chg1 (e' := twF w1.heap.size w2.heap.size (runQ stepB q x1 n1).x (runQ stepB q x1 n1).nx (runQ stepB q x1 n1).y (runQ stepB q x1 n1).ny s4 t4) hch4 htw rfl rfl; clear htw hch4 os ot)) | ((with_reducible refine stop_store rfl ?_)))
  show wpList _ _ _ _ _ _
  refine wpList_storeD rfl rfl rfl (cells := #[s4, .int .i64 ((runQ stepB q x1 n1).j : Nat), t4, .int .i64 ((runQ stepB q x1 n1).k : Nat), .int .i64 1, .float .f32 (runQ stepB q x1 n1).a, .float .f32 (runQ stepB q x1 n1).b, .float .f32 (runQ stepB q x1 n1).c, .float .f32 (runQ stepB q x1 n1).p, .float .f32 (runQ stepB q x1 n1).q, .float .f32 (runQ stepB q x1 n1).m, .float .f32 (runQ stepB q x1 n1).l]) rfl (F.row (g := w.heap.size + 1) m2) uinfoBowI rfl (by simp only [List.all_toArray', List.all_cons, List.all_nil, OS.out, OT.out]; rfl) (fun w9 K => ?_)
  have R := hid K.row
  have F6 := F.wr2 K
  have f1 := F6.facts (twF w1.heap.size w2.heap.size (runQ stepB q x1 n1).x (runQ stepB q x1 n1).nx (runQ stepB q x1 n1).y (runQ stepB q x1 n1).ny s4 t4) m1
  obtain ⟨b5, d5, p1, p2, p3, p4, p5, p6, p7⟩ := f1.2.2
  have f0 := F6.facts (ownF w2.heap.size w3.heap.size s3 (outB q x1) n1) m0
  have h1 : w.heap.size ≤ w1.heap.size := f1.1
  have h2 : w.heap.size ≤ w2.heap.size := f0.1
  have h3 : w3.heap.size ≤ w9.heap.size := f0.2.1
  have h4 : w2.heap.size ≤ w9.heap.size := f1.2.1
  have O6 := hid (OwnS.mono f0.2.2 (Nat.le_refl _) h3)
  have ok2 := OK2.out
  have LY := hid (layBowH (runQ stepB q x1 n1).x (runQ stepB q x1 n1).y (runQ stepB q x1 n1).nx (runQ stepB q x1 n1).ny ((runQ stepB q x1 n1).j : Nat) ((runQ stepB q x1 n1).k : Nat) 1 (runQ stepB q x1 n1).a (runQ stepB q x1 n1).b (runQ stepB q x1 n1).c (runQ stepB q x1 n1).p (runQ stepB q x1 n1).q (runQ stepB q x1 n1).m (runQ stepB q x1 n1).l (lo := w.heap.size) (hi := w2.heap.size) ⟨b5, d5, p1, p2, p3, by omega, p5, by omega, p7⟩ ⟨wf_nat (Nat.le_trans (Nat.le_of_lt ok2.j1) ok2.nx2), wf_nat (Nat.le_trans (Nat.le_of_lt ok2.k1) ok2.ny2), by decide⟩ ⟨ok2.fa, ok2.fb, ok2.fc, ok2.fp, ok2.fq, ok2.fm, ok2.fl⟩)
  have L := hid F6.below
  clear K F F6 f0 f1 ok2 p1 p2
  go_wp2
  exact bodyPost_ret (results_row3 rfl _ _ _ _ _ rfl R.out Try.underlying31 rfl uinfoBowI) rfl ⟨[s4, .int .i64 ((runQ stepB q x1 n1).j : Nat), t4, .int .i64 ((runQ stepB q x1 n1).k : Nat), .int .i64 1, .float .f32 (runQ stepB q x1 n1).a, .float .f32 (runQ stepB q x1 n1).b, .float .f32 (runQ stepB q x1 n1).c, .float .f32 (runQ stepB q x1 n1).p, .float .f32 (runQ stepB q x1 n1).q, .float .f32 (runQ stepB q x1 n1).m, .float .f32 (runQ stepB q x1 n1).l], s3, w2.heap.size, rfl, LY.out, L.out, O6.out, h2, h4⟩
def SbB (w : World) (B C g : Nat) (q : BwS) : Prop := q.Ok ∧ ∃ (s t : Value) (b0 d0 : Nat), Row w g 31 #[s, .int .i64 (q.j : Nat), t, .int .i64 (q.k : Nat), .int .i64 1, .float .f32 q.a, .float .f32 q.b, .float .f32 q.c, .float .f32 q.p, .float .f32 q.q, .float .f32 q.m, .float .f32 q.l] ∧ OwnS w b0 (b0 + 1) s q.x q.nx ∧ OwnS w d0 (d0 + 1) t q.y q.ny ∧ (b0 ≠ d0 ∧ B ≤ b0 ∧ B ≤ d0 ∧ b0 < g ∧ d0 < g ∧ g < C)
theorem SbB.ok {w w' : World} {B C g : Nat} {q : BwS} (h : SbB w B C g q) (hk : ∀ k, B ≤ k → k < C → w'.heap[k]? = w.heap[k]?) : SbB w' B C g q := by
  obtain ⟨ok, s, t, b0, d0, R, O1, O2, e1, e2, e3, e4, e5, e6⟩ := h
  exact ⟨ok, s, t, b0, d0, (rowF g _ _).ok w w' R (fun k a b => hk k (by have a' : g ≤ k := a; omega) (by have b' : k < g + 1 := b; omega)), (ownF b0 (b0 + 1) s q.x q.nx).ok w w' O1 (fun k a b => hk k (by have a' : b0 ≤ k := a; omega) (by have b' : k < b0 + 1 := b; omega)), (ownF d0 (d0 + 1) t q.y q.ny).ok w w' O2 (fun k a b => hk k (by have a' : d0 ≤ k := a; omega) (by have b' : k < d0 + 1 := b; omega)), e1, e2, e3, e4, e5, e6⟩
def sbB (B C g : Nat) (q : BwS) : Fact := ⟨B, C, fun w => SbB w B C g q, fun _ _ h hk => SbB.ok h hk⟩
theorem Frg.sbB {w0 w : World} {l : List Fact} {B C g : Nat} {q : BwS} (h : Frg w0 w l) (hm : sbB B C g q ∈ l) : SbB w B C g q := (h.facts _ hm).2.2
theorem toSbB {w0 w : World} {g lo hi : Nat} {s t : Value} {q : BwS} {l : List Fact} (h : Frg w0 w (rowF g 31 #[s, .int .i64 (q.j : Nat), t, .int .i64 (q.k : Nat), .int .i64 1, .float .f32 q.a, .float .f32 q.b, .float .f32 q.c, .float .f32 q.p, .float .f32 q.q, .float .f32 q.m, .float .f32 q.l] :: twF lo hi q.x q.nx q.y q.ny s t :: l)) (ok : q.Ok) : Frg w0 w (sbB lo (g + 1) g q :: l) := by
  have f1 := h.facts (rowF g 31 #[s, .int .i64 (q.j : Nat), t, .int .i64 (q.k : Nat), .int .i64 1, .float .f32 q.a, .float .f32 q.b, .float .f32 q.c, .float .f32 q.p, .float .f32 q.q, .float .f32 q.m, .float .f32 q.l]) (by simp)
  have f2 := h.facts (twF lo hi q.x q.nx q.y q.ny s t) (by simp)
  have a1 := List.pairwise_cons.1 h.apart
  have a2 := List.pairwise_cons.1 a1.2
  have b12 : hi ≤ g := a1.1 (twF lo hi q.x q.nx q.y q.ny s t) (by simp)
  obtain ⟨b0, d0, p1, p2, p3, p4, p5, p6, p7⟩ := f2.2.2
  refine ⟨h.below, fun e he => ?_, List.pairwise_cons.2 ⟨fun e he => a2.1 e he, a2.2⟩⟩
  rcases List.mem_cons.1 he with rfl | he
  · exact ⟨f2.1, f1.2.1, ⟨ok, s, t, b0, d0, f1.2.2, p1, p2, p3, p4, p6, by omega, by omega, Nat.lt_succ_self _⟩⟩
  · exact h.facts e (by simp [he])
set_option maxRecDepth 100000 in
set_option maxHeartbeats 4000000 in
theorem s_bstepL (B C g : Nat) (q : BwS) (sp : Nat) (w : World) (h : SbB w B C g q) (hsp : fits .f32 sp) :
    Calls Try.prog 74 #[.pointer (some ⟨g, 0, none⟩), .float .f32 sp] w fun e w' => ∃ o, e = .returned (.float .f32 o) ∧ can .f32 o = q.y q.k ∧ fits .f32 o ∧ SbB w' B C g (stepB q sp) ∧ Chg (rng B C) w w' := by
  obtain ⟨ok, s, t, b0, d0, R, O1, O2, e1, e2, e3, e4, e5, e6⟩ := h
  refine (s_l05StepBow q sp s t b0 (b0 + 1) d0 (d0 + 1) g w R O1 O2 ok hsp (by omega) (by omega) (by omega)).mono ?_
  rintro e w' ⟨o, rfl, ho, fo, R3, P1, P2, C3⟩
  exact ⟨o, rfl, ho, fo, ⟨ok.step sp (O2.rd.fits ok.k1), s, t, b0, d0, R3, P1, P2, e1, e2, e3, e4, e5, e6⟩, C3.mono (fun i e => ⟨by omega, by omega⟩)⟩
set_option maxRecDepth 100000 in
set_option maxHeartbeats 4000000 in
theorem s_PlayBow_no (x1 : Nat → Nat) (n1 : Nat) (u : Value) (B1 : Nat) (x y : Nat → Nat) (nx ny : Nat) (j k : Int) (fk : Int) (a b c p q : Nat) (m o : Nat) (B : Nat) (s t : Value) (w : World) (hs : (slT x nx).RdN w B s) (ht : (slT y ny).RdN w B t) (wf : (Lit.int .i64 j).wf = true ∧ (Lit.int .i64 k).wf = true) (hf : (fits .f32 a ∧ fits .f32 b ∧ fits .f32 c ∧ fits .f32 p ∧ fits .f32 q ∧ fits .f32 m ∧ fits .f32 o)) (hv : okBow x y nx ny j k fk a b c p q m o = false) :
    Calls Try.prog 25 #[.agg #[s, .int .i64 j, t, .int .i64 k, .int .i64 fk, .float .f32 a, .float .f32 b, .float .f32 c, .float .f32 p, .float .f32 q, .float .f32 m, .float .f32 o], u] w (OutV_Tli (cdBow (fun _ => 0) (fun _ => 0) 0 0 0 0 0 0 0 0 0 0 0 0) (fun _ => 0) 0 1 w) := by
  have HV := hid (fun (g9 : Nat) (w' : World) (hl : le w w') (R : Row w' g9 31 #[s, .int .i64 j, t, .int .i64 k, .int .i64 fk, .float .f32 a, .float .f32 b, .float .f32 c, .float .f32 p, .float .f32 q, .float .f32 m, .float .f32 o]) => hv ▸ s_l05Bow x y nx ny j k fk a b c p q m o B s t w' g9 R (hs.le hl) (ht.le hl) wf hf)
  clear hs ht wf hf hv
  have F := ((Frg.nil w).box 31 #[s, .int .i64 j, t, .int .i64 k, .int .i64 fk, .float .f32 a, .float .f32 b, .float .f32 c, .float .f32 p, .float .f32 q, .float .f32 m, .float .f32 o]).box 31 #[.slice none 0 0, .int .i64 0, .slice none 0 0, .int .i64 0, .int .i64 0, .float .f32 0, .float .f32 0, .float .f32 0, .float .f32 0, .float .f32 0, .float .f32 0, .float .f32 0]
  simp only [World.size_alloc] at F
  go_enter Try.func25, Try.ntmps25
  go_wp2_with (first | ((with_reducible refine at_loadU rfl rfl ?_); (with_reducible refine wpList_loadG F rfl rfl rfl (by first | exact m0 | exact m1 | exact m2 | exact m3 | exact m4 | exact m5 | exact m6 | exact m7 | exact m8 | exact m9 | exact m10 | exact m11) Try.underlying31 rfl uinfoBowI rfl ?_)) | (go_at_call 72; ((with_reducible refine (HV.out _ _ F.below (F.row m1)).mono ?_); rintro e w1 ⟨rfl, hl⟩; replace F := F.le hl; clear hl)) | ((with_reducible refine stop_store rfl ?_)))
  show wpList _ _ _ _ _ _
  replace F := F.box 22 #[]
  refine wpList_storeD rfl rfl rfl (cells := #[.slice none 0 0, .int .i64 0, .slice none 0 0, .int .i64 0, .int .i64 0, .float .f32 0, .float .f32 0, .float .f32 0, .float .f32 0, .float .f32 0, .float .f32 0, .float .f32 0]) rfl (F.row m1) uinfoBowI rfl (by simp [Value.oneCell']) (fun w4 K => ?_)
  have R := hid K.row
  replace F := F.wr1 K
  have R1 := F.facts _ m0
  simp only [rowF] at R1
  have R2 : Hid (OwnS w4 w.heap.size w4.heap.size (.slice (some ⟨w1.heap.size, 0, none⟩) 0 0) (fun _ => 0) 0) := .inr ⟨w1.heap.size, 0, 0, _, rfl, Nat.le_refl _, by decide, R1.1, R1.2.1, R1.2.2, fun i hi => absurd hi (by omega)⟩
  have L := hid F.below
  clear K F R1
  go_wp2
  exact bodyPost_ret (results_row3 rfl _ _ _ _ _ rfl R.out Try.underlying31 rfl uinfoBowI) rfl ⟨[.slice none 0 0, .int .i64 0, .slice none 0 0, .int .i64 0, .int .i64 0, .float .f32 0, .float .f32 0, .float .f32 0, .float .f32 0, .float .f32 0, .float .f32 0, .float .f32 0], _, w.heap.size, rfl, layBow0 _ _, L.out, R2.out, Nat.le_refl _, L.out.size⟩
set_option maxRecDepth 100000 in
set_option maxHeartbeats 4000000 in
theorem s_PlayBow_big (x1 : Nat → Nat) (n1 : Nat) (u : Value) (B1 : Nat) (q : BwS) (B : Nat) (s t : Value) (w : World) (hs : (slT q.x q.nx).RdN w B s) (ht : (slT q.y q.ny).RdN w B t) (ok : q.Ok) (hu : RdS w B1 u x1 n1) (hn : ¬ n1 ≤ 4096) (hv : (okBow q.x q.y q.nx q.ny (q.j : Nat) (q.k : Nat) 1 q.a q.b q.c q.p q.q q.m q.l) = true) :
    Calls Try.prog 25 #[.agg #[s, .int .i64 (q.j : Nat), t, .int .i64 (q.k : Nat), .int .i64 1, .float .f32 q.a, .float .f32 q.b, .float .f32 q.c, .float .f32 q.p, .float .f32 q.q, .float .f32 q.m, .float .f32 q.l], u] w (OutV_Tli (cdBow (fun _ => 0) (fun _ => 0) 0 0 0 0 0 0 0 0 0 0 0 0) (fun _ => 0) 0 3 w) := by
  have HV := hid (fun (g9 : Nat) (w' : World) (hl : le w w') (R : Row w' g9 31 #[s, .int .i64 (q.j : Nat), t, .int .i64 (q.k : Nat), .int .i64 1, .float .f32 q.a, .float .f32 q.b, .float .f32 q.c, .float .f32 q.p, .float .f32 q.q, .float .f32 q.m, .float .f32 q.l]) => hv ▸ s_l05Bow q.x q.y q.nx q.ny (q.j : Nat) (q.k : Nat) 1 q.a q.b q.c q.p q.q q.m q.l B s t w' g9 R (hs.le hl) (ht.le hl) ⟨wf_nat (Nat.le_trans (Nat.le_of_lt ok.j1) ok.nx2), wf_nat (Nat.le_trans (Nat.le_of_lt ok.k1) ok.ny2)⟩ ⟨ok.fa, ok.fb, ok.fc, ok.fp, ok.fq, ok.fm, ok.fl⟩)
  have Z := hid hu
  have hK : (4096 : Int) < (n1 : Int) := by omega
  clear hs ht hv ok hu hn
  have F := ((Frg.nil w).box 31 #[s, .int .i64 (q.j : Nat), t, .int .i64 (q.k : Nat), .int .i64 1, .float .f32 q.a, .float .f32 q.b, .float .f32 q.c, .float .f32 q.p, .float .f32 q.q, .float .f32 q.m, .float .f32 q.l]).box 31 #[.slice none 0 0, .int .i64 0, .slice none 0 0, .int .i64 0, .int .i64 0, .float .f32 0, .float .f32 0, .float .f32 0, .float .f32 0, .float .f32 0, .float .f32 0, .float .f32 0]
  simp only [World.size_alloc] at F
  go_enter Try.func25, Try.ntmps25
  go_wp2_with (first | ((with_reducible refine at_loadU rfl rfl ?_); (with_reducible refine wpList_loadG F rfl rfl rfl (by first | exact m0 | exact m1 | exact m2 | exact m3 | exact m4 | exact m5 | exact m6 | exact m7 | exact m8 | exact m9 | exact m10 | exact m11) Try.underlying31 rfl uinfoBowI rfl ?_)) | (go_at_call 72; ((with_reducible refine (HV.out _ _ F.below (F.row m1)).mono ?_); rintro e w1 ⟨rfl, hl⟩; replace F := F.le hl; clear hl)) | (with_reducible refine wpList_lenR rfl rfl rfl Try.underlying23 Z.out ?_) | ((with_reducible refine stop_store rfl ?_)))
  show wpList _ _ _ _ _ _
  replace F := F.box 22 #[]
  refine wpList_storeD rfl rfl rfl (cells := #[.slice none 0 0, .int .i64 0, .slice none 0 0, .int .i64 0, .int .i64 0, .float .f32 0, .float .f32 0, .float .f32 0, .float .f32 0, .float .f32 0, .float .f32 0, .float .f32 0]) rfl (F.row m1) uinfoBowI rfl (by simp [Value.oneCell']) (fun w4 K => ?_)
  have R := hid K.row
  replace F := F.wr1 K
  have R1 := F.facts _ m0
  simp only [rowF] at R1
  have R2 : Hid (OwnS w4 w.heap.size w4.heap.size (.slice (some ⟨w1.heap.size, 0, none⟩) 0 0) (fun _ => 0) 0) := .inr ⟨w1.heap.size, 0, 0, _, rfl, Nat.le_refl _, by decide, R1.1, R1.2.1, R1.2.2, fun i hi => absurd hi (by omega)⟩
  have L := hid F.below
  clear K F R1
  go_wp2
  exact bodyPost_ret (results_row3 rfl _ _ _ _ _ rfl R.out Try.underlying31 rfl uinfoBowI) rfl ⟨[.slice none 0 0, .int .i64 0, .slice none 0 0, .int .i64 0, .int .i64 0, .float .f32 0, .float .f32 0, .float .f32 0, .float .f32 0, .float .f32 0, .float .f32 0, .float .f32 0], _, w.heap.size, rfl, layBow0 _ _, L.out, R2.out, Nat.le_refl _, L.out.size⟩
set_option maxRecDepth 100000 in
set_option maxHeartbeats 4000000 in
theorem s_PlayBow_yes (x1 : Nat → Nat) (n1 : Nat) (u : Value) (B1 : Nat) (q : BwS) (B : Nat) (s t : Value) (w : World) (hs : (slT q.x q.nx).RdN w B s) (ht : (slT q.y q.ny).RdN w B t) (ok : q.Ok) (hu : RdS w B1 u x1 n1) (hn : n1 ≤ 4096) (hv : (okBow q.x q.y q.nx q.ny (q.j : Nat) (q.k : Nat) 1 q.a q.b q.c q.p q.q q.m q.l) = true) :
    Calls Try.prog 25 #[.agg #[s, .int .i64 (q.j : Nat), t, .int .i64 (q.k : Nat), .int .i64 1, .float .f32 q.a, .float .f32 q.b, .float .f32 q.c, .float .f32 q.p, .float .f32 q.q, .float .f32 q.m, .float .f32 q.l], u] w (OutV_Tli (cdBow (runQ stepB q x1 n1).x (runQ stepB q x1 n1).y (runQ stepB q x1 n1).nx (runQ stepB q x1 n1).ny ((runQ stepB q x1 n1).j : Nat) ((runQ stepB q x1 n1).k : Nat) 1 (runQ stepB q x1 n1).a (runQ stepB q x1 n1).b (runQ stepB q x1 n1).c (runQ stepB q x1 n1).p (runQ stepB q x1 n1).q (runQ stepB q x1 n1).m (runQ stepB q x1 n1).l) (outB q x1) n1 0 w) := by
  have HV := hid (fun (g9 : Nat) (w' : World) (hl : le w w') (R : Row w' g9 31 #[s, .int .i64 (q.j : Nat), t, .int .i64 (q.k : Nat), .int .i64 1, .float .f32 q.a, .float .f32 q.b, .float .f32 q.c, .float .f32 q.p, .float .f32 q.q, .float .f32 q.m, .float .f32 q.l]) => hv ▸ s_l05Bow q.x q.y q.nx q.ny (q.j : Nat) (q.k : Nat) 1 q.a q.b q.c q.p q.q q.m q.l B s t w' g9 R (hs.le hl) (ht.le hl) ⟨wf_nat (Nat.le_trans (Nat.le_of_lt ok.j1) ok.nx2), wf_nat (Nat.le_trans (Nat.le_of_lt ok.k1) ok.ny2)⟩ ⟨ok.fa, ok.fb, ok.fc, ok.fp, ok.fq, ok.fm, ok.fl⟩)
  have HC := hid (fun (g9 : Nat) (w' : World) (hl : le w w') (R : Row w' g9 31 #[s, .int .i64 (q.j : Nat), t, .int .i64 (q.k : Nat), .int .i64 1, .float .f32 q.a, .float .f32 q.b, .float .f32 q.c, .float .f32 q.p, .float .f32 q.q, .float .f32 q.m, .float .f32 q.l]) => s_l05CopyBow q.x q.y q.nx q.ny (q.j : Nat) (q.k : Nat) 1 q.a q.b q.c q.p q.q q.m q.l B s t w' g9 R ((slT_rds hs).le hl) ((slT_rds ht).le hl) ⟨ok.nx1, ok.nx2⟩ ⟨ok.ny1, ok.ny2⟩)
  have OK := hid ok; have Z := hid hu
  have hK : ¬ (4096 : Int) < (n1 : Int) := by omega
  have HI : Hid (∃ i, Try.prog.info? 22 = some i ∧ i.zero = some (.float .f32 0) ∧ i.size = 1 ∧ i.bytes = 4) := info36
  obtain ⟨i0, HI⟩ := HI
  replace HI := hid HI
  clear hs ht hv ok hu
  have F := ((Frg.nil w).box 31 #[s, .int .i64 (q.j : Nat), t, .int .i64 (q.k : Nat), .int .i64 1, .float .f32 q.a, .float .f32 q.b, .float .f32 q.c, .float .f32 q.p, .float .f32 q.q, .float .f32 q.m, .float .f32 q.l]).box 31 #[.slice none 0 0, .int .i64 0, .slice none 0 0, .int .i64 0, .int .i64 0, .float .f32 0, .float .f32 0, .float .f32 0, .float .f32 0, .float .f32 0, .float .f32 0, .float .f32 0]
  simp only [World.size_alloc] at F
  go_enter Try.func25, Try.ntmps25
  go_wp2_with (first | (go_at_call 72; ((with_reducible refine (HV.out _ _ F.below (F.row m1)).mono ?_); rintro e w1 ⟨rfl, hl⟩; replace F := F.le hl; clear hl)) | (with_reducible refine wpList_lenR rfl rfl rfl Try.underlying23 Z.out ?_) | (go_at_call 73; ((with_reducible refine (HC.out _ _ F.below (F.row m1)).mono ?_); rintro e w2 ⟨s1, t1, rfl, h2, hl⟩; have os := hid (two_one h2).1; have ot := hid (two_one h2).2; replace F := F.two hl h2; clear h2 hl)) | (refine wpList_storeG F rfl rfl rfl rfl rfl uinfoBowI rfl (by simp only [List.all_toArray', List.all_cons, List.all_nil, os.out, ot.out]; rfl) ?_; clear F; intro W3 F zW; replace zW := hid zW; replace F := hid (toSbB F OK.out)))
  have hz : W3.heap.size = w2.heap.size + 1 := by have := zW.out; simpa using this
  replace hz := hid hz
  have OR : Hid ((W3.alloc (.cells #[] 22)).ownsRow (w2.heap.size + 1) 22 1 (.slice (some ⟨W3.heap.size, 0, none⟩) 0 0) 0 (flist (fun _ => 0) 0)) := ⟨rfl, .inr ⟨W3.heap.size, 0, #[], rfl, Nat.le_of_eq hz.out.symm, by have := Row.new W3 22 #[]; exact this, Nat.le_refl _, by decide, rfl, rfl⟩⟩
  go_loopw [8, 9] (fun v i wr => ∃ j : Nat, j ≤ n1 ∧ i = .int .i64 j ∧ ∃ y : Nat → Nat, Hid (∀ i, i < j → fits .f32 (y i) ∧ can .f32 (y i) = outB q x1 i) ∧ Hid (wr.ownsRow (w2.heap.size + 1) 22 1 v j (flist y j)) ∧ Hid (w2.heap.size + 1 ≤ wr.heap.size) ∧ Hid (Frg w wr [sbB w1.heap.size (w2.heap.size + 1) w2.heap.size (runQ stepB q x1 j), rowF (w.heap.size + 1) 31 #[.slice none 0 0, .int .i64 0, .slice none 0 0, .int .i64 0, .int .i64 0, .float .f32 0, .float .f32 0, .float .f32 0, .float .f32 0, .float .f32 0, .float .f32 0, .float .f32 0], rowF w.heap.size 31 #[s, .int .i64 (q.j : Nat), t, .int .i64 (q.k : Nat), .int .i64 1, .float .f32 q.a, .float .f32 q.b, .float .f32 q.c, .float .f32 q.p, .float .f32 q.q, .float .f32 q.m, .float .f32 q.l]])) (fun _ i _ => n1 - (intOf i).toNat)
  case atStart => exact ⟨0, by omega, rfl, fun _ => 0, fun m hm => absurd hm (by omega), OR.out, by have := hz.out; show w2.heap.size + 1 ≤ (W3.alloc _).heap.size; rw [World.size_alloc]; omega, F.out.alloc _⟩
  case round =>
    obtain ⟨j, hj, rfl, y, HJ, HW, HS, FJ⟩ := hrel
    clear F OR
    by_cases hlt : j < n1
    · rcases Z.out.le FJ.out.below with ⟨_, h0⟩ | ⟨a, cap, rfl, hc, hm, hx⟩
      · omega
      obtain ⟨_, p, c1, fp, ep⟩ := hx j hlt
      have FP := hid fp
      have EP : Hid (can .f32 p = can .f32 (x1 j)) := by unfold Hid; rw [← ep, can_can]
      have hjK : (j : Int) < (n1 : Int) := by omega
      clear hx fp ep
      go_wp2_with (first | (go_at_call 74; ((with_reducible refine (s_bstepL _ _ _ _ p _ (Frg.sbB FJ.out m0) FP.out).mono ?_); rintro e w4 ⟨r, rfl, hr, fr, hsp, hch⟩; rw [stepB_congr _ EP.out] at hsp; replace FJ := hid (FJ.out.chg0 (e' := sbB _ _ _ (stepB (runQ stepB q x1 j) (x1 j))) hch hsp rfl rfl); replace HW := hid (ownsRow_chS hch HW.out (fun i hi => hi.2)); replace HS := hid (Nat.le_trans HS.out hch.size); have HR := hid hr; clear hsp hch hr)) | (at_builtin; refine wpList_append_own _ rfl _ _ 23 rfl (w2.heap.size + 1) 22 i0 (.float .f32 0) 1 4 Try.underlying23 HI.out.1 HI.out.2.1 HI.out.2.2.1 HI.out.2.2.2 rfl (by decide) _ _ _ rfl (HW.out.alloc _) ⟨w4.heap.size, 0, none⟩ 1 1 [.float .f32 r] rfl rfl (fun j u hj => by match j, hj with | 0, hj => simp at hj; subst hj; simp [Addr.add]) (fun u hu => by simp at hu; subst hu; rfl) (by unfold maxLen; omega) (by omega) (by have := HS.out; simp; omega) ?_; intro v' w5 hown hgr _; have HOWN := hid hown; have HGR := hid hgr; clear hown hgr))
      go_roundw
      case rel =>
        have hch : Chg (w2.heap.size + 1 ≤ ·) w4 w5 := (Chg.of_le (le_alloc w4 _)).trans (chg_grown HGR.out (ownBlock_ge HW.out))
        refine ⟨j + 1, by omega, by go_num, fun i => if i = j then r else y i, fill_step (p := fun i v => fits .f32 v ∧ can .f32 v = outB q x1 i) HJ.out ⟨fr, HR.out⟩, ?_, Nat.le_trans HS.out hch.size, ?_⟩
        · have := HOWN.out
          rw [flist_snoc] at this
          exact this
        · have f1 := FJ.out.facts _ m0
          have f2 := FJ.out.facts _ m1
          have hwz : w.heap.size ≤ w1.heap.size := f1.1
          have hap := (List.pairwise_cons.1 FJ.out.apart).1 (rowF (w.heap.size + 1) 31 #[.slice none 0 0, .int .i64 0, .slice none 0 0, .int .i64 0, .int .i64 0, .float .f32 0, .float .f32 0, .float .f32 0, .float .f32 0, .float .f32 0, .float .f32 0, .float .f32 0]) (by simp)
          simp only [rowF, sbB] at hap
          have h12 : w1.heap.size ≤ w2.heap.size := by obtain ⟨_, _, _, b0, _, _, _, _, g1, g2, g3, g4, g5, g6⟩ := f1.2.2; omega
          exact FJ.out.up hch (by simp [sbB, rowF]; omega) (by omega)
      case measure => simp [intOf]; omega
    · obtain rfl : j = n1 := by omega
      replace FJ := FJ.out
      obtain ⟨ok5, s5, t5, b5, d5, R5, O5, O6, e1, e2, e3, e4, e5, e6⟩ := Frg.sbB FJ m0
      have hfl : w.heap.size ≤ w1.heap.size := (FJ.facts _ m0).1
      have R5 := hid R5; have O5 := hid O5; have O6 := hid O6; have OS := hid (own_one O5.out); have OT := hid (own_one O6.out); have OK5 := hid ok5
      clear ok5
      go_wp2_with (first | (with_reducible refine wpList_lenR rfl rfl rfl Try.underlying23 Z.out ?_) | ((with_reducible refine at_loadU rfl rfl ?_); (with_reducible refine wpList_loadDR R5.out rfl rfl rfl Try.underlying31 rfl uinfoBowI rfl ?_)) | ((with_reducible refine stop_store (ty := 31) rfl ?_)))
      show wpList _ _ _ _ _ _
      refine wpList_storeD rfl rfl rfl (cells := #[s5, .int .i64 ((runQ stepB q x1 j).j : Nat), t5, .int .i64 ((runQ stepB q x1 j).k : Nat), .int .i64 1, .float .f32 (runQ stepB q x1 j).a, .float .f32 (runQ stepB q x1 j).b, .float .f32 (runQ stepB q x1 j).c, .float .f32 (runQ stepB q x1 j).p, .float .f32 (runQ stepB q x1 j).q, .float .f32 (runQ stepB q x1 j).m, .float .f32 (runQ stepB q x1 j).l]) rfl (FJ.row (g := w.heap.size + 1) m1) uinfoBowI rfl (by simp only [List.all_toArray', List.all_cons, List.all_nil, OS.out, OT.out]; rfl) (fun w6 KK => ?_)
      have RW := hid KK.row
      have hap := (List.pairwise_cons.1 FJ.apart).1 (rowF (w.heap.size + 1) 31 #[.slice none 0 0, .int .i64 0, .slice none 0 0, .int .i64 0, .int .i64 0, .float .f32 0, .float .f32 0, .float .f32 0, .float .f32 0, .float .f32 0, .float .f32 0, .float .f32 0]) (by simp)
      simp only [rowF, sbB] at hap
      have F6 := FJ.wr1 KK
      have hc : Chg (· = w.heap.size + 1) _ w6 := (Chg.refl _ _).wrote KK rfl
      have p1 := O5.out.chgS hc (fun i h1 h2 h3 => by have h3' : i = w.heap.size + 1 := h3; omega)
      have p2 := O6.out.chgS hc (fun i h1 h2 h3 => by have h3' : i = w.heap.size + 1 := h3; omega)
      have OW := hid (own_of_row (ownsRow_ch hc HW.out (by omega)) HJ.out)
      have L := hid F6.below
      have hs6 := hid (Nat.le_trans HS.out hc.size)
      have ok2 := OK5.out
      have LY := hid (layBowH (runQ stepB q x1 j).x (runQ stepB q x1 j).y (runQ stepB q x1 j).nx (runQ stepB q x1 j).ny ((runQ stepB q x1 j).j : Nat) ((runQ stepB q x1 j).k : Nat) 1 (runQ stepB q x1 j).a (runQ stepB q x1 j).b (runQ stepB q x1 j).c (runQ stepB q x1 j).p (runQ stepB q x1 j).q (runQ stepB q x1 j).m (runQ stepB q x1 j).l (lo := w.heap.size) (hi := w2.heap.size + 1) ⟨b5, d5, p1, p2, e1, by omega, by omega, by omega, by omega⟩ ⟨wf_nat (Nat.le_trans (Nat.le_of_lt ok2.j1) ok2.nx2), wf_nat (Nat.le_trans (Nat.le_of_lt ok2.k1) ok2.ny2), by decide⟩ ⟨ok2.fa, ok2.fb, ok2.fc, ok2.fp, ok2.fq, ok2.fm, ok2.fl⟩)
      have hq : w.heap.size ≤ w2.heap.size + 1 := by omega
      clear hc KK FJ F6 p1 p2 ok2
      go_wp2
      exact bodyPost_ret (results_row3 rfl _ _ _ _ _ rfl RW.out Try.underlying31 rfl uinfoBowI) rfl ⟨[s5, .int .i64 ((runQ stepB q x1 j).j : Nat), t5, .int .i64 ((runQ stepB q x1 j).k : Nat), .int .i64 1, .float .f32 (runQ stepB q x1 j).a, .float .f32 (runQ stepB q x1 j).b, .float .f32 (runQ stepB q x1 j).c, .float .f32 (runQ stepB q x1 j).p, .float .f32 (runQ stepB q x1 j).q, .float .f32 (runQ stepB q x1 j).m, .float .f32 (runQ stepB q x1 j).l], _, w2.heap.size + 1, rfl, LY.out, L.out, OW.out, hq, hs6.out⟩
theorem both_PlayBow (cs : List CD) (x1 : Nat → Nat) (n1 : Nat) (h : HasShL shBow cs) : ∃ (ar0 : List CD) (xr1 : Nat → Nat) (nr1 : Nat) (ar2 : Int), ShOkL shBow ar0 ∧ szL ar0 ≤ 1048576 ∧ nr1 ≤ 1048576 ∧ (∀ (w : World) (B : Nat) (u : List Value) (B1 : Nat) (u1 : Value), RdLN w B (cs.map CD.cp) u → RdS w B1 u1 x1 n1 → Calls Try.prog 25 #[.agg u.toArray, u1] w (OutV_Tli ar0 xr1 nr1 ar2 w)) ∧ (∀ (w : World) (B : Nat) (u : List Value) (B1 : Nat) (u1 : Value), RdLN w B (cs.map CD.cp) u → RdS w B1 u1 x1 n1 → Calls Try.prog 27 #[.agg u.toArray, u1] w (OutV_Tli ar0 xr1 nr1 ar2 w)) := by
  obtain ⟨xs, ys, nx, ny, j, k, fk, a, b, c, p, q, m, o, rfl, hx, hy⟩ := bow_data h
  cases hv : okBow (fun i => (xs i).fx) (fun i => (ys i).fx) nx ny j k fk a b c p q m o
  · refine ⟨cdBow (fun _ => 0) (fun _ => 0) 0 0 0 0 0 0 0 0 0 0 0 0, fun _ => 0, 0, 1, cdBow_sh _ _ _ _ _ _ _ _ _ _ _ _ _ _, by rw [cdBow_sz]; omega, by omega, fun w B u B1 u1 hu hu1 => ?_, fun w B u B1 u1 hu hu1 => ?_⟩
    · obtain ⟨s, t, rfl, hs, ht, wf, hf⟩ := bow_open hu hx hy
      exact s_PlayBow_no x1 n1 u1 B1 (fun i => (xs i).fx) (fun i => (ys i).fx) nx ny j k fk a b c p q m o B s t w hs ht wf hf hv
    · obtain ⟨s, t, rfl, hs, ht, wf, hf⟩ := bow_open hu hx hy
      exact i_PlayBow_no x1 n1 u1 B1 (fun i => (xs i).fx) (fun i => (ys i).fx) nx ny j k fk a b c p q m o B s t w hs ht wf hf hv
  · obtain ⟨z1, z2, z3, z4, ⟨j, rfl, ej⟩, ⟨k, rfl, ek⟩, rfl, hk⟩ := okBow_j hv
    let Q : BwS := ⟨fun i => (xs i).fx, fun i => (ys i).fx, nx, ny, j, k, a, b, c, p, q, m, o⟩
    by_cases hn : n1 ≤ 4096
    · have hb : (runQ stepB Q x1 n1).nx = nx ∧ (runQ stepB Q x1 n1).ny = ny := by
        clear hn
        induction n1 with
        | zero => exact ⟨rfl, rfl⟩
        | succ n ih => exact ih
      refine ⟨cdBow (runQ stepB Q x1 n1).x (runQ stepB Q x1 n1).y (runQ stepB Q x1 n1).nx (runQ stepB Q x1 n1).ny ((runQ stepB Q x1 n1).j : Nat) ((runQ stepB Q x1 n1).k : Nat) 1 (runQ stepB Q x1 n1).a (runQ stepB Q x1 n1).b (runQ stepB Q x1 n1).c (runQ stepB Q x1 n1).p (runQ stepB Q x1 n1).q (runQ stepB Q x1 n1).m (runQ stepB Q x1 n1).l, outB Q x1, n1, 0, cdBow_sh _ _ _ _ _ _ _ _ _ _ _ _ _ _, by rw [cdBow_sz, hb.1, hb.2]; omega, by omega, fun w B u B1 u1 hu hu1 => ?_, fun w B u B1 u1 hu hu1 => ?_⟩
      · obtain ⟨s, t, rfl, hs, ht, wf, hf⟩ := bow_open hu hx hy
        exact s_PlayBow_yes x1 n1 u1 B1 Q B s t w hs ht ⟨z1, z2, z3, z4, ej, ek, hk, hf.1, hf.2.1, hf.2.2.1, hf.2.2.2.1, hf.2.2.2.2.1, hf.2.2.2.2.2.1, hf.2.2.2.2.2.2⟩ hu1 hn hv
      · obtain ⟨s, t, rfl, hs, ht, wf, hf⟩ := bow_open hu hx hy
        exact i_PlayBow_yes x1 n1 u1 B1 Q B s t w hs ht ⟨z1, z2, z3, z4, ej, ek, hk, hf.1, hf.2.1, hf.2.2.1, hf.2.2.2.1, hf.2.2.2.2.1, hf.2.2.2.2.2.1, hf.2.2.2.2.2.2⟩ hu1 hn hv
    · refine ⟨cdBow (fun _ => 0) (fun _ => 0) 0 0 0 0 0 0 0 0 0 0 0 0, fun _ => 0, 0, 3, cdBow_sh _ _ _ _ _ _ _ _ _ _ _ _ _ _, by rw [cdBow_sz]; omega, by omega, fun w B u B1 u1 hu hu1 => ?_, fun w B u B1 u1 hu hu1 => ?_⟩
      · obtain ⟨s, t, rfl, hs, ht, wf, hf⟩ := bow_open hu hx hy
        exact s_PlayBow_big x1 n1 u1 B1 Q B s t w hs ht ⟨z1, z2, z3, z4, ej, ek, hk, hf.1, hf.2.1, hf.2.2.1, hf.2.2.2.1, hf.2.2.2.2.1, hf.2.2.2.2.2.1, hf.2.2.2.2.2.2⟩ hu1 hn hv
      · obtain ⟨s, t, rfl, hs, ht, wf, hf⟩ := bow_open hu hx hy
        exact i_PlayBow_big x1 n1 u1 B1 Q B s t w hs ht ⟨z1, z2, z3, z4, ej, ek, hk, hf.1, hf.2.1, hf.2.2.1, hf.2.2.2.1, hf.2.2.2.2.1, hf.2.2.2.2.2.1, hf.2.2.2.2.2.2⟩ hu1 hn hv
end Go.Proofs.Ytgjdmoenobacgaa

/- The walk of 'FnExactPlayBow'. -/
namespace Go.Proofs.Ytgjdmoenobacgaa.fnExactPlayBow
open Go.RowKit Go.Fk
set_option maxRecDepth 100000 in
set_option maxHeartbeats 4000000 in
theorem core (cs0 : List CD) (vs0 : List Value) (s1 : Value) (x1 : Nat → Nat) (n1 : Nat) (ar0 : List CD) (xr1 : Nat → Nat) (nr1 : Nat) (ar2 : Int) (w : World) (z0 : RdL w w.heap.size cs0 vs0) (k0 : ShOkL shBow cs0) (hz0 : szL cs0 ≤ 1048576) (z1 : RdS w w.heap.size s1 x1 n1) (hn1 : n1 ≤ 1048576) (kr : ShOkL shBow ar0) (hzr : szL ar0 ≤ 1048576) (hr1 : nr1 ≤ 1048576)
    (hS : ∀ (w : World) (B0 : Nat) (u0 : List Value) (B1 : Nat) (u1 : Value), RdLN w B0 (cs0.map CD.cp) u0 → RdS w B1 u1 x1 n1 → Calls Try.prog 25 #[.agg u0.toArray, u1] w (OutV_Tli ar0 xr1 nr1 ar2 w))
    (hI : ∀ (w : World) (B0 : Nat) (u0 : List Value) (B1 : Nat) (u1 : Value), RdLN w B0 (cs0.map CD.cp) u0 → RdS w B1 u1 x1 n1 → Calls Try.prog 27 #[.agg u0.toArray, u1] w (OutV_Tli ar0 xr1 nr1 ar2 w)) :
    Calls Try.prog 5 #[.agg vs0.toArray, s1] w fun e w' => e = .returned (.bool true) ∧ Below w.heap.size w w' := by
  have Z0 := hid z0; have K0 := hid k0; have hl0 : Hid (vs0.length = 12) := z0.1.trans k0.1; have hma0 : mtL (cs0.map CD.cp) ≤ 1048576 := (mtL_cp _).trans (mtU_Bow k0) ▸ hz0; clear z0 k0
  have hm0 : ¬ (1048576 : Int) - (szL cs0 : Nat) < 0 := by omega
  have Z1 := hid z1; clear z1
  have hm1 : ¬ (1048576 : Int) < n1 := by omega
  have hmr : mtL ar0 ≤ 1048576 := mtU_Bow kr ▸ hzr
  have KR := hid kr; clear kr
  obtain ⟨na0, hna0⟩ : ∃ a : Nat, a = mtL (cs0.map CD.cp) := ⟨_, rfl⟩
  obtain ⟨nb0, hnb0⟩ : ∃ a : Nat, a = mtL ar0 := ⟨_, rfl⟩
  rw [← hna0] at hma0
  rw [← hnb0] at hmr
  have hq : decide ((1 : Int) + (na0 : Int) + (n1 : Int) < 0) = false := by simp; omega
  have hq3 : ¬ ((1 : Int) + (nb0 : Int) + (nr1 : Int) < 0) := by omega
  have hq2 : ¬ ((1 : Int) + (nb0 : Int) < 0) := by omega
  have HN0 := hid hna0; clear hna0
  have HB0 := hid hnb0; clear hnb0
  have HS := hid hS; have HI := hid hI; clear hS hI
  have F := Frg.nil w
  replace F := F.box 40 vs0.toArray
  go_enter Try.func5, Try.ntmps5
  go_wp2_with (first | (((with_reducible refine listN F ?_); clear F; intro wN F)) | ((with_reducible refine at_loadU rfl rfl ?_); first | (with_reducible refine wpList_loadG F rfl rfl rfl (by first | exact m0 | exact m1 | exact m2 | exact m3 | exact m4 | exact m5 | exact m6 | exact m7 | exact m8 | exact m9 | exact m10 | exact m11 | exact m12 | exact m13 | exact m14 | exact m15 | exact m16 | exact m17) Try.underlying31 rfl uinfoBowI (by simp only [List.size_toArray]; first | exact hl0.out | exact huA0.out | exact huB0.out | exact huC0.out | exact huS.out | exact huI.out | exact huH.out) ?_) | (with_reducible refine wpList_loadG F rfl rfl rfl (by first | exact m0 | exact m1 | exact m2 | exact m3 | exact m4 | exact m5 | exact m6 | exact m7 | exact m8 | exact m9 | exact m10 | exact m11 | exact m12 | exact m13 | exact m14 | exact m15 | exact m16 | exact m17) Try.underlying40 rfl uinfoBowL (by simp only [List.size_toArray]; first | exact hl0.out | exact huA0.out | exact huB0.out | exact huC0.out | exact huS.out | exact huI.out | exact huH.out) ?_)) | ((with_reducible refine at_loadV rfl rfl ?_); first | (with_reducible refine wpList_loadGG F rfl rfl (by first | exact m0 | exact m1 | exact m2 | exact m3 | exact m4 | exact m5 | exact m6 | exact m7 | exact m8 | exact m9 | exact m10 | exact m11 | exact m12 | exact m13 | exact m14 | exact m15 | exact m16 | exact m17) Try.underlying31 rfl uinfoBowI (by simp only [List.size_toArray]; first | exact hl0.out | exact huA0.out | exact huB0.out | exact huC0.out | exact huS.out | exact huI.out | exact huH.out) (by kernel_rfl) ?_)) | (with_reducible refine wpList_lenR rfl rfl rfl Try.underlying23 Z1.out ?_) | (go_at_call 20; ((with_reducible refine (szU_Bow _ cs0 vs0 (1048576 : Int) ((1048576 : Int) - (szL cs0 : Nat)) _ (Z0.out.le F.below) K0.out (by omega) (by omega) (lessBy_pos hm0)).mono ?_); rintro e w1 ⟨rfl, hb1⟩; replace F := F.le hb1)) | (go_at_call 22; ((with_reducible refine (toU_Bow _ cs0 vs0 _ (Z0.out.le F.below) K0.out hz0).mono ?_); rintro e w1 ⟨usA0, rfl, ho, hl⟩; have huA0 : Hid (usA0.length = 12) := ho.1.trans ((List.length_map ..).trans K0.out.1); have hoA0 := hid ho.all_one; replace F := F.lay1 hl ho; clear ho hl)) | (go_at_call 26; ((with_reducible refine (toR _ s1 x1 n1 _ (Z1.out.le F.below) hn1).mono ?_); rintro e w1 ⟨tA1, rfl, ho1, hl1⟩; replace F := F.own1 hl1 ho1; clear hl1 ho1)))
  first | ((with_reducible refine callAt0 F ?_); clear F; intro wN F) | ((with_reducible refine callAtN F ?_); clear F; intro wN F)
  refine (HS.out _ _ _ _ _ (F.layN (by first | exact m0 | exact m1 | exact m2 | exact m3 | exact m4 | exact m5 | exact m6 | exact m7 | exact m8 | exact m9 | exact m10 | exact m11 | exact m12 | exact m13 | exact m14 | exact m15 | exact m16 | exact m17)) (F.own (by first | exact m0 | exact m1 | exact m2 | exact m3 | exact m4 | exact m5 | exact m6 | exact m7 | exact m8 | exact m9 | exact m10 | exact m11 | exact m12 | exact m13 | exact m14 | exact m15 | exact m16 | exact m17)).rd).mono ?_
  rintro e wS ⟨usS, vS1, qS, rfl, oTS, hlS, oS1, gS1, gS2⟩
  have huS : Hid (usS.length = 12) := oTS.1.trans KR.out.1
  have hoS := hid oTS.all_one
  replace F := F.lay2 hlS oTS oS1 gS1 gS2
  clear hlS gS1 gS2 oTS oS1
  go_wp2_with (first | (((with_reducible refine listN F ?_); clear F; intro wN F)) | ((with_reducible refine at_store rfl ?_); first | (refine wpList_storeG F rfl rfl rfl rfl rfl (by simp only [List.size_toArray]; rw [huB0.out]; exact uinfoBowI) (by simp only [List.size_toArray]; rw [huB0.out]; rfl) (by exact hoB0.out) ?_; clear F; intro W F zW; clear zW) | (refine wpList_storeG F rfl rfl rfl rfl rfl (by simp only [List.size_toArray]; rw [huS.out]; exact uinfoBowI) (by simp only [List.size_toArray]; rw [huS.out]; rfl) (by exact hoS.out) ?_; clear F; intro W F zW; clear zW) | (refine wpList_storeG F rfl rfl rfl rfl rfl (by simp only [List.size_toArray]; rw [huI.out]; exact uinfoBowI) (by simp only [List.size_toArray]; rw [huI.out]; rfl) (by exact hoI.out) ?_; clear F; intro W F zW; clear zW) | (refine wpList_storeG F rfl rfl rfl rfl rfl (by simp only [List.size_toArray]; rw [huH.out]; exact uinfoBowI) (by simp only [List.size_toArray]; rw [huH.out]; rfl) (by exact hoH.out) ?_; clear F; intro W F zW; clear zW) | (refine wpList_storeG F rfl rfl rfl rfl rfl (by simp only [List.size_toArray]; rw [huA0.out]; exact uinfoBowI) (by simp only [List.size_toArray]; rw [huA0.out]; rfl) (by exact hoA0.out) ?_; clear F; intro W F zW; clear zW)) | ((with_reducible refine at_loadU rfl rfl ?_); first | (with_reducible refine wpList_loadG F rfl rfl rfl (by first | exact m0 | exact m1 | exact m2 | exact m3 | exact m4 | exact m5 | exact m6 | exact m7 | exact m8 | exact m9 | exact m10 | exact m11 | exact m12 | exact m13 | exact m14 | exact m15 | exact m16 | exact m17) Try.underlying31 rfl uinfoBowI (by simp only [List.size_toArray]; first | exact hl0.out | exact huA0.out | exact huB0.out | exact huC0.out | exact huS.out | exact huI.out | exact huH.out) ?_) | (with_reducible refine wpList_loadG F rfl rfl rfl (by first | exact m0 | exact m1 | exact m2 | exact m3 | exact m4 | exact m5 | exact m6 | exact m7 | exact m8 | exact m9 | exact m10 | exact m11 | exact m12 | exact m13 | exact m14 | exact m15 | exact m16 | exact m17) Try.underlying40 rfl uinfoBowL (by simp only [List.size_toArray]; first | exact hl0.out | exact huA0.out | exact huB0.out | exact huC0.out | exact huS.out | exact huI.out | exact huH.out) ?_)) | ((with_reducible refine at_loadV rfl rfl ?_); first | (with_reducible refine wpList_loadGG F rfl rfl (by first | exact m0 | exact m1 | exact m2 | exact m3 | exact m4 | exact m5 | exact m6 | exact m7 | exact m8 | exact m9 | exact m10 | exact m11 | exact m12 | exact m13 | exact m14 | exact m15 | exact m16 | exact m17) Try.underlying31 rfl uinfoBowI (by simp only [List.size_toArray]; first | exact hl0.out | exact huA0.out | exact huB0.out | exact huC0.out | exact huS.out | exact huI.out | exact huH.out) (by kernel_rfl) ?_)) | (go_at_call 22; ((with_reducible refine (toU_Bow _ cs0 vs0 _ (Z0.out.le F.below) K0.out hz0).mono ?_); rintro e w1 ⟨usB0, rfl, ho, hl⟩; have huB0 : Hid (usB0.length = 12) := ho.1.trans ((List.length_map ..).trans K0.out.1); have hoB0 := hid ho.all_one; replace F := F.lay1 hl ho; clear ho hl)) | (go_at_call 26; ((with_reducible refine (toR _ s1 x1 n1 _ (Z1.out.le F.below) hn1).mono ?_); rintro e w1 ⟨tB1, rfl, ho1, hl1⟩; replace F := F.own1 hl1 ho1; clear hl1 ho1)))
  first | ((with_reducible refine callAt0 F ?_); clear F; intro wN F) | ((with_reducible refine callAtN F ?_); clear F; intro wN F)
  refine (HI.out _ _ _ _ _ (F.layN (by first | exact m0 | exact m1 | exact m2 | exact m3 | exact m4 | exact m5 | exact m6 | exact m7 | exact m8 | exact m9 | exact m10 | exact m11 | exact m12 | exact m13 | exact m14 | exact m15 | exact m16 | exact m17)) (F.own (by first | exact m0 | exact m1 | exact m2 | exact m3 | exact m4 | exact m5 | exact m6 | exact m7 | exact m8 | exact m9 | exact m10 | exact m11 | exact m12 | exact m13 | exact m14 | exact m15 | exact m16 | exact m17)).rd).mono ?_
  rintro e wI ⟨usI, vI1, qI, rfl, oTI, hlI, oI1, gI1, gI2⟩
  have huI : Hid (usI.length = 12) := oTI.1.trans KR.out.1
  have hoI := hid oTI.all_one
  replace F := F.lay2 hlI oTI oI1 gI1 gI2
  clear hlI gI1 gI2 oTI oI1
  go_wp2_with (first | (((with_reducible refine listN F ?_); clear F; intro wN F)) | ((with_reducible refine at_store rfl ?_); first | (refine wpList_storeG F rfl rfl rfl rfl rfl (by simp only [List.size_toArray]; rw [huB0.out]; exact uinfoBowI) (by simp only [List.size_toArray]; rw [huB0.out]; rfl) (by exact hoB0.out) ?_; clear F; intro W F zW; clear zW) | (refine wpList_storeG F rfl rfl rfl rfl rfl (by simp only [List.size_toArray]; rw [huS.out]; exact uinfoBowI) (by simp only [List.size_toArray]; rw [huS.out]; rfl) (by exact hoS.out) ?_; clear F; intro W F zW; clear zW) | (refine wpList_storeG F rfl rfl rfl rfl rfl (by simp only [List.size_toArray]; rw [huI.out]; exact uinfoBowI) (by simp only [List.size_toArray]; rw [huI.out]; rfl) (by exact hoI.out) ?_; clear F; intro W F zW; clear zW) | (refine wpList_storeG F rfl rfl rfl rfl rfl (by simp only [List.size_toArray]; rw [huH.out]; exact uinfoBowI) (by simp only [List.size_toArray]; rw [huH.out]; rfl) (by exact hoH.out) ?_; clear F; intro W F zW; clear zW) | (refine wpList_storeG F rfl rfl rfl rfl rfl (by simp only [List.size_toArray]; rw [huA0.out]; exact uinfoBowI) (by simp only [List.size_toArray]; rw [huA0.out]; rfl) (by exact hoA0.out) ?_; clear F; intro W F zW; clear zW)) | ((with_reducible refine at_loadU rfl rfl ?_); first | (with_reducible refine wpList_loadG F rfl rfl rfl (by first | exact m0 | exact m1 | exact m2 | exact m3 | exact m4 | exact m5 | exact m6 | exact m7 | exact m8 | exact m9 | exact m10 | exact m11 | exact m12 | exact m13 | exact m14 | exact m15 | exact m16 | exact m17) Try.underlying31 rfl uinfoBowI (by simp only [List.size_toArray]; first | exact hl0.out | exact huA0.out | exact huB0.out | exact huC0.out | exact huS.out | exact huI.out | exact huH.out) ?_) | (with_reducible refine wpList_loadG F rfl rfl rfl (by first | exact m0 | exact m1 | exact m2 | exact m3 | exact m4 | exact m5 | exact m6 | exact m7 | exact m8 | exact m9 | exact m10 | exact m11 | exact m12 | exact m13 | exact m14 | exact m15 | exact m16 | exact m17) Try.underlying40 rfl uinfoBowL (by simp only [List.size_toArray]; first | exact hl0.out | exact huA0.out | exact huB0.out | exact huC0.out | exact huS.out | exact huI.out | exact huH.out) ?_)) | ((with_reducible refine at_loadV rfl rfl ?_); first | (with_reducible refine wpList_loadGG F rfl rfl (by first | exact m0 | exact m1 | exact m2 | exact m3 | exact m4 | exact m5 | exact m6 | exact m7 | exact m8 | exact m9 | exact m10 | exact m11 | exact m12 | exact m13 | exact m14 | exact m15 | exact m16 | exact m17) Try.underlying31 rfl uinfoBowI (by simp only [List.size_toArray]; first | exact hl0.out | exact huA0.out | exact huB0.out | exact huC0.out | exact huS.out | exact huI.out | exact huH.out) (by kernel_rfl) ?_)) | (go_at_call 17; ((with_reducible refine (eqU_Bow _ _ ar0 _ _ _ (F.layR (by first | exact m0 | exact m1 | exact m2 | exact m3 | exact m4 | exact m5 | exact m6 | exact m7 | exact m8 | exact m9 | exact m10 | exact m11 | exact m12 | exact m13 | exact m14 | exact m15 | exact m16 | exact m17)) (F.layR (by first | exact m0 | exact m1 | exact m2 | exact m3 | exact m4 | exact m5 | exact m6 | exact m7 | exact m8 | exact m9 | exact m10 | exact m11 | exact m12 | exact m13 | exact m14 | exact m15 | exact m16 | exact m17)) KR.out hzr).mono ?_); rintro e w7 ⟨rfl, hb7⟩; replace F := F.le hb7)) | (go_at_call 28; ((with_reducible refine (eqR _ _ _ _ xr1 nr1 _ hr1 (F.own (by first | exact m0 | exact m1 | exact m2 | exact m3 | exact m4 | exact m5 | exact m6 | exact m7 | exact m8 | exact m9 | exact m10 | exact m11 | exact m12 | exact m13 | exact m14 | exact m15 | exact m16 | exact m17)).rd (F.own (by first | exact m0 | exact m1 | exact m2 | exact m3 | exact m4 | exact m5 | exact m6 | exact m7 | exact m8 | exact m9 | exact m10 | exact m11 | exact m12 | exact m13 | exact m14 | exact m15 | exact m16 | exact m17)).rd).mono ?_); rintro e w7 ⟨rfl, dq7, rfl⟩; replace F := F.drewN dq7)))
  first | (refine wpAt0 F ?_; clear F; intro wN F) | (refine wpAtN F ?_; clear F; intro wN F)
  refine region_freeD (E := leX) (fun f _ w v => if f = 22 then ∃ (us : List Value) (B : Nat), v = .agg us.toArray ∧ RdL w B (cs0.map CD.cp) us else v = .bool true) (by kernel_rfl) (by kernel_rfl) ?_
  refine wpFreeD_loadG F rfl rfl rfl rfl (by first | exact m0 | exact m1 | exact m2 | exact m3 | exact m4 | exact m5 | exact m6 | exact m7 | exact m8 | exact m9 | exact m10 | exact m11 | exact m12 | exact m13 | exact m14 | exact m15 | exact m16 | exact m17) Try.underlying31 rfl uinfoBowI (by simp only [List.size_toArray]; exact huB0.out) ?_
  simp only [Act.put, List.setIfInBounds_toArray, List.set_cons_succ, List.set_cons_zero]
  refine wpFreeD_loadG F rfl rfl rfl rfl (by first | exact m0 | exact m1 | exact m2 | exact m3 | exact m4 | exact m5 | exact m6 | exact m7 | exact m8 | exact m9 | exact m10 | exact m11 | exact m12 | exact m13 | exact m14 | exact m15 | exact m16 | exact m17) Try.underlying40 rfl uinfoBowL (by simp only [List.size_toArray]; exact hl0.out) ?_
  simp only [Act.put, List.setIfInBounds_toArray, List.set_cons_succ, List.set_cons_zero]
  refine wpFreeD_callB rfl rfl Try.func22 (by kernel_rfl) (by kernel_rfl) (args := #[.agg vs0.toArray]) (by simp [Act.eval]) (fun v w1 w2 hw hv => by simp only [if_true] at hv ⊢; obtain ⟨u, B, h1, h2⟩ := hv; exact ⟨u, B, h1, h2.le hw⟩) (fun w1 hw1 _ => (toU_Bow _ cs0 vs0 w1 (Z0.out.le (le_trans (F.drewN _).below hw1)) K0.out hz0).mono ?_) ?_
  · rintro e w2 ⟨u, rfl, ho, hl⟩
    exact ⟨_, rfl, hl, by simp only [if_true]; exact ⟨u, _, rfl, ho.rd (fun _ hj => hj.2)⟩⟩
  rintro v ⟨_, _, _, hv⟩
  simp only [if_true] at hv
  obtain ⟨u0, Bu0, rfl, _⟩ := hv
  simp only [Act.put, List.setIfInBounds_toArray, List.set_cons_succ, List.set_cons_zero]
  refine wpFreeD_callB rfl rfl Try.func17 (by kernel_rfl) (by kernel_rfl) (args := #[.agg usB0.toArray, .agg u0.toArray]) (by simp [Act.eval]) (fun v w1 w2 hw hv => by simp only [show ¬ (17 = 22) by decide, if_false] at hv ⊢; exact hv) (fun w1 hw1 hbe => ?_) ?_
  · have hk := (hbe ⟨2, Ground.data⟩ (by simp) (by kernel_rfl)).2 rfl
    simp only [if_true] at hk
    obtain ⟨u', B', he, hr⟩ := hk
    obtain rfl : u0 = u' := by simpa using he
    refine (eqU_Bow _ _ (cs0.map CD.cp) _ _ _ (((F.drewN 1).le hw1).layR (by first | exact m0 | exact m1 | exact m2 | exact m3 | exact m4 | exact m5 | exact m6 | exact m7 | exact m8 | exact m9 | exact m10 | exact m11 | exact m12 | exact m13 | exact m14 | exact m15 | exact m16 | exact m17)) hr K0.out.cp (by rw [szL_cp]; exact hz0)).mono ?_
    rintro e w2 ⟨rfl, hl⟩
    exact ⟨_, rfl, hl, by simp only [show ¬ (17 = 22) by decide, if_false]⟩
  rintro v ⟨_, _, _, hv⟩
  simp only [show ¬ (17 = 22) by decide, if_false] at hv
  subst hv
  simp only [Act.put, List.setIfInBounds_toArray, List.set_cons_succ, List.set_cons_zero]
  refine wpFreeD_one rfl (.bool false) (fun w1 _ => by kernel_rfl) ?_
  simp only [Act.put, List.setIfInBounds_toArray, List.set_cons_succ, List.set_cons_zero]
  refine wpFreeD_nil (fun wR hwR _ => ?_)
  replace F := (F.drewN 1).le hwR
  clear hwR
  go_wp2_with (first | (((with_reducible refine listN F ?_); clear F; intro wN F)) | ((with_reducible refine at_loadU rfl rfl ?_); first | (with_reducible refine wpList_loadG F rfl rfl rfl (by first | exact m0 | exact m1 | exact m2 | exact m3 | exact m4 | exact m5 | exact m6 | exact m7 | exact m8 | exact m9 | exact m10 | exact m11 | exact m12 | exact m13 | exact m14 | exact m15 | exact m16 | exact m17) Try.underlying31 rfl uinfoBowI (by simp only [List.size_toArray]; first | exact hl0.out | exact huA0.out | exact huB0.out | exact huC0.out | exact huS.out | exact huI.out | exact huH.out) ?_) | (with_reducible refine wpList_loadG F rfl rfl rfl (by first | exact m0 | exact m1 | exact m2 | exact m3 | exact m4 | exact m5 | exact m6 | exact m7 | exact m8 | exact m9 | exact m10 | exact m11 | exact m12 | exact m13 | exact m14 | exact m15 | exact m16 | exact m17) Try.underlying40 rfl uinfoBowL (by simp only [List.size_toArray]; first | exact hl0.out | exact huA0.out | exact huB0.out | exact huC0.out | exact huS.out | exact huI.out | exact huH.out) ?_)) | ((with_reducible refine at_loadV rfl rfl ?_); first | (with_reducible refine wpList_loadGG F rfl rfl (by first | exact m0 | exact m1 | exact m2 | exact m3 | exact m4 | exact m5 | exact m6 | exact m7 | exact m8 | exact m9 | exact m10 | exact m11 | exact m12 | exact m13 | exact m14 | exact m15 | exact m16 | exact m17) Try.underlying31 rfl uinfoBowI (by simp only [List.size_toArray]; first | exact hl0.out | exact huA0.out | exact huB0.out | exact huC0.out | exact huS.out | exact huI.out | exact huH.out) (by kernel_rfl) ?_)))
  go_wp2_with (first | (((with_reducible refine listN F ?_); clear F; intro wN F)) | ((with_reducible refine at_loadU rfl rfl ?_); first | (with_reducible refine wpList_loadG F rfl rfl rfl (by first | exact m0 | exact m1 | exact m2 | exact m3 | exact m4 | exact m5 | exact m6 | exact m7 | exact m8 | exact m9 | exact m10 | exact m11 | exact m12 | exact m13 | exact m14 | exact m15 | exact m16 | exact m17) Try.underlying31 rfl uinfoBowI (by simp only [List.size_toArray]; first | exact hl0.out | exact huA0.out | exact huB0.out | exact huC0.out | exact huS.out | exact huI.out | exact huH.out) ?_) | (with_reducible refine wpList_loadG F rfl rfl rfl (by first | exact m0 | exact m1 | exact m2 | exact m3 | exact m4 | exact m5 | exact m6 | exact m7 | exact m8 | exact m9 | exact m10 | exact m11 | exact m12 | exact m13 | exact m14 | exact m15 | exact m16 | exact m17) Try.underlying40 rfl uinfoBowL (by simp only [List.size_toArray]; first | exact hl0.out | exact huA0.out | exact huB0.out | exact huC0.out | exact huS.out | exact huI.out | exact huH.out) ?_)) | ((with_reducible refine at_loadV rfl rfl ?_); first | (with_reducible refine wpList_loadGG F rfl rfl (by first | exact m0 | exact m1 | exact m2 | exact m3 | exact m4 | exact m5 | exact m6 | exact m7 | exact m8 | exact m9 | exact m10 | exact m11 | exact m12 | exact m13 | exact m14 | exact m15 | exact m16 | exact m17) Try.underlying31 rfl uinfoBowI (by simp only [List.size_toArray]; first | exact hl0.out | exact huA0.out | exact huB0.out | exact huC0.out | exact huS.out | exact huI.out | exact huH.out) (by kernel_rfl) ?_)) | (go_at_call 26; ((with_reducible refine (toR _ s1 x1 n1 _ (Z1.out.le F.below) hn1).mono ?_); rintro e w1 ⟨tD1, rfl, ho1, hl1⟩; replace F := F.own1 hl1 ho1; clear hl1 ho1)) | (go_at_call 28; ((with_reducible refine (eqR _ _ _ _ x1 n1 _ hn1 (F.own (by first | exact m0 | exact m1 | exact m2 | exact m3 | exact m4 | exact m5 | exact m6 | exact m7 | exact m8 | exact m9 | exact m10 | exact m11 | exact m12 | exact m13 | exact m14 | exact m15 | exact m16 | exact m17)).rd (F.own (by first | exact m0 | exact m1 | exact m2 | exact m3 | exact m4 | exact m5 | exact m6 | exact m7 | exact m8 | exact m9 | exact m10 | exact m11 | exact m12 | exact m13 | exact m14 | exact m15 | exact m16 | exact m17)).rd).mono ?_); rintro e w7 ⟨rfl, dq7, rfl⟩; replace F := F.drewN dq7)))
  first | ((with_reducible refine callAt0 F ?_); clear F; intro wN F) | ((with_reducible refine callAtN F ?_); clear F; intro wN F)
  refine (markU_Bow _ _ _ (1 : Int) _ K0.out.cp (by rw [← HN0.out]; exact hma0) (by omega) (by rw [← HN0.out]; omega) (F.lay (by first | exact m0 | exact m1 | exact m2 | exact m3 | exact m4 | exact m5 | exact m6 | exact m7 | exact m8 | exact m9 | exact m10 | exact m11 | exact m12 | exact m13 | exact m14 | exact m15 | exact m16 | exact m17))).mono ?_
  rintro e w4 ⟨rfl, hR, hU⟩
  rw [← HN0.out]
  (first | replace F := F.markAt 0 hR hU rfl | replace F := F.markAt 1 hR hU rfl | replace F := F.markAt 2 hR hU rfl | replace F := F.markAt 3 hR hU rfl | replace F := F.markAt 4 hR hU rfl | replace F := F.markAt 5 hR hU rfl | replace F := F.markAt 6 hR hU rfl | replace F := F.markAt 7 hR hU rfl | replace F := F.markAt 8 hR hU rfl | replace F := F.markAt 9 hR hU rfl | replace F := F.markAt 10 hR hU rfl | replace F := F.markAt 11 hR hU rfl | replace F := F.markAt 12 hR hU rfl | replace F := F.markAt 13 hR hU rfl | replace F := F.markAt 14 hR hU rfl | replace F := F.markAt 15 hR hU rfl | replace F := F.markAt 16 hR hU rfl | replace F := F.markAt 17 hR hU rfl)
  simp only [List.set_cons_succ, List.set_cons_zero] at F
  clear hR hU
  go_wp2_with (first | (((with_reducible refine listN F ?_); clear F; intro wN F)) | ((with_reducible refine at_loadU rfl rfl ?_); first | (with_reducible refine wpList_loadG F rfl rfl rfl (by first | exact m0 | exact m1 | exact m2 | exact m3 | exact m4 | exact m5 | exact m6 | exact m7 | exact m8 | exact m9 | exact m10 | exact m11 | exact m12 | exact m13 | exact m14 | exact m15 | exact m16 | exact m17) Try.underlying31 rfl uinfoBowI (by simp only [List.size_toArray]; first | exact hl0.out | exact huA0.out | exact huB0.out | exact huC0.out | exact huS.out | exact huI.out | exact huH.out) ?_) | (with_reducible refine wpList_loadG F rfl rfl rfl (by first | exact m0 | exact m1 | exact m2 | exact m3 | exact m4 | exact m5 | exact m6 | exact m7 | exact m8 | exact m9 | exact m10 | exact m11 | exact m12 | exact m13 | exact m14 | exact m15 | exact m16 | exact m17) Try.underlying40 rfl uinfoBowL (by simp only [List.size_toArray]; first | exact hl0.out | exact huA0.out | exact huB0.out | exact huC0.out | exact huS.out | exact huI.out | exact huH.out) ?_)) | ((with_reducible refine at_loadV rfl rfl ?_); first | (with_reducible refine wpList_loadGG F rfl rfl (by first | exact m0 | exact m1 | exact m2 | exact m3 | exact m4 | exact m5 | exact m6 | exact m7 | exact m8 | exact m9 | exact m10 | exact m11 | exact m12 | exact m13 | exact m14 | exact m15 | exact m16 | exact m17) Try.underlying31 rfl uinfoBowI (by simp only [List.size_toArray]; first | exact hl0.out | exact huA0.out | exact huB0.out | exact huC0.out | exact huS.out | exact huI.out | exact huH.out) (by kernel_rfl) ?_)))
  first | ((with_reducible refine callAt0 F ?_); clear F; intro wN F) | ((with_reducible refine callAtN F ?_); clear F; intro wN F)
  refine (markR _ _ _ x1 n1 ((1 : Int) + (na0 : Int)) _ hn1 (by omega) (by omega) (F.own (by first | exact m0 | exact m1 | exact m2 | exact m3 | exact m4 | exact m5 | exact m6 | exact m7 | exact m8 | exact m9 | exact m10 | exact m11 | exact m12 | exact m13 | exact m14 | exact m15 | exact m16 | exact m17))).mono ?_
  rintro e w4 ⟨rfl, hR, hU, _⟩
  (first | replace F := F.mark0 hR hU | replace F := F.mark1 hR hU | replace F := F.mark2 hR hU | replace F := F.mark3 hR hU | replace F := F.mark4 hR hU | replace F := F.mark5 hR hU | replace F := F.mark6 hR hU | replace F := F.mark7 hR hU | replace F := F.mark8 hR hU | replace F := F.mark9 hR hU | replace F := F.mark10 hR hU | replace F := F.mark11 hR hU | replace F := F.mark12 hR hU | replace F := F.mark13 hR hU | replace F := F.mark14 hR hU | replace F := F.mark15 hR hU | replace F := F.mark16 hR hU)
  clear hR hU
  go_wp2_with (first | (((with_reducible refine listN F ?_); clear F; intro wN F)) | ((with_reducible refine at_store rfl ?_); first | (refine wpList_storeG F rfl rfl rfl rfl rfl (by simp only [List.size_toArray]; rw [huB0.out]; exact uinfoBowI) (by simp only [List.size_toArray]; rw [huB0.out]; rfl) (by exact hoB0.out) ?_; clear F; intro W F zW; clear zW) | (refine wpList_storeG F rfl rfl rfl rfl rfl (by simp only [List.size_toArray]; rw [huS.out]; exact uinfoBowI) (by simp only [List.size_toArray]; rw [huS.out]; rfl) (by exact hoS.out) ?_; clear F; intro W F zW; clear zW) | (refine wpList_storeG F rfl rfl rfl rfl rfl (by simp only [List.size_toArray]; rw [huI.out]; exact uinfoBowI) (by simp only [List.size_toArray]; rw [huI.out]; rfl) (by exact hoI.out) ?_; clear F; intro W F zW; clear zW) | (refine wpList_storeG F rfl rfl rfl rfl rfl (by simp only [List.size_toArray]; rw [huH.out]; exact uinfoBowI) (by simp only [List.size_toArray]; rw [huH.out]; rfl) (by exact hoH.out) ?_; clear F; intro W F zW; clear zW) | (refine wpList_storeG F rfl rfl rfl rfl rfl (by simp only [List.size_toArray]; rw [huA0.out]; exact uinfoBowI) (by simp only [List.size_toArray]; rw [huA0.out]; rfl) (by exact hoA0.out) ?_; clear F; intro W F zW; clear zW)) | ((with_reducible refine at_loadU rfl rfl ?_); first | (with_reducible refine wpList_loadG F rfl rfl rfl (by first | exact m0 | exact m1 | exact m2 | exact m3 | exact m4 | exact m5 | exact m6 | exact m7 | exact m8 | exact m9 | exact m10 | exact m11 | exact m12 | exact m13 | exact m14 | exact m15 | exact m16 | exact m17) Try.underlying31 rfl uinfoBowI (by simp only [List.size_toArray]; first | exact hl0.out | exact huA0.out | exact huB0.out | exact huC0.out | exact huS.out | exact huI.out | exact huH.out) ?_) | (with_reducible refine wpList_loadG F rfl rfl rfl (by first | exact m0 | exact m1 | exact m2 | exact m3 | exact m4 | exact m5 | exact m6 | exact m7 | exact m8 | exact m9 | exact m10 | exact m11 | exact m12 | exact m13 | exact m14 | exact m15 | exact m16 | exact m17) Try.underlying40 rfl uinfoBowL (by simp only [List.size_toArray]; first | exact hl0.out | exact huA0.out | exact huB0.out | exact huC0.out | exact huS.out | exact huI.out | exact huH.out) ?_)) | ((with_reducible refine at_loadV rfl rfl ?_); first | (with_reducible refine wpList_loadGG F rfl rfl (by first | exact m0 | exact m1 | exact m2 | exact m3 | exact m4 | exact m5 | exact m6 | exact m7 | exact m8 | exact m9 | exact m10 | exact m11 | exact m12 | exact m13 | exact m14 | exact m15 | exact m16 | exact m17) Try.underlying31 rfl uinfoBowI (by simp only [List.size_toArray]; first | exact hl0.out | exact huA0.out | exact huB0.out | exact huC0.out | exact huS.out | exact huI.out | exact huH.out) (by kernel_rfl) ?_)) | (go_at_call 17; ((with_reducible refine (eqU_Bow _ _ ar0 _ _ _ (F.layR (by first | exact m0 | exact m1 | exact m2 | exact m3 | exact m4 | exact m5 | exact m6 | exact m7 | exact m8 | exact m9 | exact m10 | exact m11 | exact m12 | exact m13 | exact m14 | exact m15 | exact m16 | exact m17)) (F.layR (by first | exact m0 | exact m1 | exact m2 | exact m3 | exact m4 | exact m5 | exact m6 | exact m7 | exact m8 | exact m9 | exact m10 | exact m11 | exact m12 | exact m13 | exact m14 | exact m15 | exact m16 | exact m17)) KR.out hzr).mono ?_); rintro e w7 ⟨rfl, hb7⟩; replace F := F.le hb7)) | (go_at_call 28; ((with_reducible refine (eqR _ _ _ _ xr1 nr1 _ hr1 (F.own (by first | exact m0 | exact m1 | exact m2 | exact m3 | exact m4 | exact m5 | exact m6 | exact m7 | exact m8 | exact m9 | exact m10 | exact m11 | exact m12 | exact m13 | exact m14 | exact m15 | exact m16 | exact m17)).rd (F.own (by first | exact m0 | exact m1 | exact m2 | exact m3 | exact m4 | exact m5 | exact m6 | exact m7 | exact m8 | exact m9 | exact m10 | exact m11 | exact m12 | exact m13 | exact m14 | exact m15 | exact m16 | exact m17)).rd).mono ?_); rintro e w7 ⟨rfl, dq7, rfl⟩; replace F := F.drewN dq7)))
  first | ((with_reducible refine callAt0 F ?_); clear F; intro wN F) | ((with_reducible refine callAtN F ?_); clear F; intro wN F)
  refine (markU_Bow _ _ _ (1 : Int) _ KR.out (by rw [← HB0.out]; exact hmr) (by omega) (by rw [← HB0.out]; omega) (F.lay (by first | exact m0 | exact m1 | exact m2 | exact m3 | exact m4 | exact m5 | exact m6 | exact m7 | exact m8 | exact m9 | exact m10 | exact m11 | exact m12 | exact m13 | exact m14 | exact m15 | exact m16 | exact m17))).mono ?_
  rintro e w5 ⟨rfl, hR, hU⟩
  rw [← HB0.out]
  (first | replace F := F.markAt 0 hR hU rfl | replace F := F.markAt 1 hR hU rfl | replace F := F.markAt 2 hR hU rfl | replace F := F.markAt 3 hR hU rfl | replace F := F.markAt 4 hR hU rfl | replace F := F.markAt 5 hR hU rfl | replace F := F.markAt 6 hR hU rfl | replace F := F.markAt 7 hR hU rfl | replace F := F.markAt 8 hR hU rfl | replace F := F.markAt 9 hR hU rfl | replace F := F.markAt 10 hR hU rfl | replace F := F.markAt 11 hR hU rfl | replace F := F.markAt 12 hR hU rfl | replace F := F.markAt 13 hR hU rfl | replace F := F.markAt 14 hR hU rfl | replace F := F.markAt 15 hR hU rfl | replace F := F.markAt 16 hR hU rfl | replace F := F.markAt 17 hR hU rfl)
  simp only [List.set_cons_succ, List.set_cons_zero] at F
  clear hR hU
  go_wp2_with (first | (((with_reducible refine listN F ?_); clear F; intro wN F)) | ((with_reducible refine at_loadU rfl rfl ?_); first | (with_reducible refine wpList_loadG F rfl rfl rfl (by first | exact m0 | exact m1 | exact m2 | exact m3 | exact m4 | exact m5 | exact m6 | exact m7 | exact m8 | exact m9 | exact m10 | exact m11 | exact m12 | exact m13 | exact m14 | exact m15 | exact m16 | exact m17) Try.underlying31 rfl uinfoBowI (by simp only [List.size_toArray]; first | exact hl0.out | exact huA0.out | exact huB0.out | exact huC0.out | exact huS.out | exact huI.out | exact huH.out) ?_) | (with_reducible refine wpList_loadG F rfl rfl rfl (by first | exact m0 | exact m1 | exact m2 | exact m3 | exact m4 | exact m5 | exact m6 | exact m7 | exact m8 | exact m9 | exact m10 | exact m11 | exact m12 | exact m13 | exact m14 | exact m15 | exact m16 | exact m17) Try.underlying40 rfl uinfoBowL (by simp only [List.size_toArray]; first | exact hl0.out | exact huA0.out | exact huB0.out | exact huC0.out | exact huS.out | exact huI.out | exact huH.out) ?_)) | ((with_reducible refine at_loadV rfl rfl ?_); first | (with_reducible refine wpList_loadGG F rfl rfl (by first | exact m0 | exact m1 | exact m2 | exact m3 | exact m4 | exact m5 | exact m6 | exact m7 | exact m8 | exact m9 | exact m10 | exact m11 | exact m12 | exact m13 | exact m14 | exact m15 | exact m16 | exact m17) Try.underlying31 rfl uinfoBowI (by simp only [List.size_toArray]; first | exact hl0.out | exact huA0.out | exact huB0.out | exact huC0.out | exact huS.out | exact huI.out | exact huH.out) (by kernel_rfl) ?_)))
  first | ((with_reducible refine callAt0 F ?_); clear F; intro wN F) | ((with_reducible refine callAtN F ?_); clear F; intro wN F)
  refine (markR _ _ _ xr1 nr1 ((1 : Int) + (nb0 : Int)) _ hr1 (by omega) (by omega) (F.own (by first | exact m0 | exact m1 | exact m2 | exact m3 | exact m4 | exact m5 | exact m6 | exact m7 | exact m8 | exact m9 | exact m10 | exact m11 | exact m12 | exact m13 | exact m14 | exact m15 | exact m16 | exact m17))).mono ?_
  rintro e w5 ⟨rfl, hR, hU, _⟩
  (first | replace F := F.mark0 hR hU | replace F := F.mark1 hR hU | replace F := F.mark2 hR hU | replace F := F.mark3 hR hU | replace F := F.mark4 hR hU | replace F := F.mark5 hR hU | replace F := F.mark6 hR hU | replace F := F.mark7 hR hU | replace F := F.mark8 hR hU | replace F := F.mark9 hR hU | replace F := F.mark10 hR hU | replace F := F.mark11 hR hU | replace F := F.mark12 hR hU | replace F := F.mark13 hR hU | replace F := F.mark14 hR hU | replace F := F.mark15 hR hU | replace F := F.mark16 hR hU)
  clear hR hU
  go_wp2_with (first | (((with_reducible refine listN F ?_); clear F; intro wN F)) | ((with_reducible refine at_loadU rfl rfl ?_); first | (with_reducible refine wpList_loadG F rfl rfl rfl (by first | exact m0 | exact m1 | exact m2 | exact m3 | exact m4 | exact m5 | exact m6 | exact m7 | exact m8 | exact m9 | exact m10 | exact m11 | exact m12 | exact m13 | exact m14 | exact m15 | exact m16 | exact m17) Try.underlying31 rfl uinfoBowI (by simp only [List.size_toArray]; first | exact hl0.out | exact huA0.out | exact huB0.out | exact huC0.out | exact huS.out | exact huI.out | exact huH.out) ?_) | (with_reducible refine wpList_loadG F rfl rfl rfl (by first | exact m0 | exact m1 | exact m2 | exact m3 | exact m4 | exact m5 | exact m6 | exact m7 | exact m8 | exact m9 | exact m10 | exact m11 | exact m12 | exact m13 | exact m14 | exact m15 | exact m16 | exact m17) Try.underlying40 rfl uinfoBowL (by simp only [List.size_toArray]; first | exact hl0.out | exact huA0.out | exact huB0.out | exact huC0.out | exact huS.out | exact huI.out | exact huH.out) ?_)) | ((with_reducible refine at_loadV rfl rfl ?_); first | (with_reducible refine wpList_loadGG F rfl rfl (by first | exact m0 | exact m1 | exact m2 | exact m3 | exact m4 | exact m5 | exact m6 | exact m7 | exact m8 | exact m9 | exact m10 | exact m11 | exact m12 | exact m13 | exact m14 | exact m15 | exact m16 | exact m17) Try.underlying31 rfl uinfoBowI (by simp only [List.size_toArray]; first | exact hl0.out | exact huA0.out | exact huB0.out | exact huC0.out | exact huS.out | exact huI.out | exact huH.out) (by kernel_rfl) ?_)) | (go_at_call 19; ((with_reducible refine (heldU_Bow _ ar0 _ (1 : Int) _ KR.out (by rw [← HB0.out]; exact hmr) (by omega) (by rw [← HB0.out]; omega) (F.layR (by first | exact m0 | exact m1 | exact m2 | exact m3 | exact m4 | exact m5 | exact m6 | exact m7 | exact m8 | exact m9 | exact m10 | exact m11 | exact m12 | exact m13 | exact m14 | exact m15 | exact m16 | exact m17))).mono ?_); rintro e w6 ⟨rfl, hb6⟩; rw [← HB0.out]; replace F := F.le hb6)) | (go_at_call 30; ((with_reducible refine (heldR _ _ nr1 ((1 : Int) + (nb0 : Int)) _ hr1 (by omega) (by omega) (F.own (by first | exact m0 | exact m1 | exact m2 | exact m3 | exact m4 | exact m5 | exact m6 | exact m7 | exact m8 | exact m9 | exact m10 | exact m11 | exact m12 | exact m13 | exact m14 | exact m15 | exact m16 | exact m17)).rd).mono ?_); rintro e w6 ⟨rfl, rfl⟩; skip)) | (go_at_call 22; ((with_reducible refine (toU_Bow _ cs0 vs0 _ (Z0.out.le F.below) K0.out hz0).mono ?_); rintro e w1 ⟨usC0, rfl, ho, hl⟩; have huC0 : Hid (usC0.length = 12) := ho.1.trans ((List.length_map ..).trans K0.out.1); have hoC0 := hid ho.all_one; replace F := F.lay1 hl ho; clear ho hl)) | (go_at_call 26; ((with_reducible refine (toR _ s1 x1 n1 _ (Z1.out.le F.below) hn1).mono ?_); rintro e w1 ⟨tC1, rfl, ho1, hl1⟩; replace F := F.own1 hl1 ho1; clear hl1 ho1)))
  first | ((with_reducible refine callAt0 F ?_); clear F; intro wN F) | ((with_reducible refine callAtN F ?_); clear F; intro wN F)
  refine (HI.out _ _ _ _ _ (F.layN (by first | exact m0 | exact m1 | exact m2 | exact m3 | exact m4 | exact m5 | exact m6 | exact m7 | exact m8 | exact m9 | exact m10 | exact m11 | exact m12 | exact m13 | exact m14 | exact m15 | exact m16 | exact m17)) (F.own (by first | exact m0 | exact m1 | exact m2 | exact m3 | exact m4 | exact m5 | exact m6 | exact m7 | exact m8 | exact m9 | exact m10 | exact m11 | exact m12 | exact m13 | exact m14 | exact m15 | exact m16 | exact m17)).rd).mono ?_
  rintro e wH ⟨usH, vH1, qH, rfl, oTH, hlH, oH1, gH1, gH2⟩
  have huH : Hid (usH.length = 12) := oTH.1.trans KR.out.1
  have hoH := hid oTH.all_one
  replace F := F.lay2 hlH oTH oH1 gH1 gH2
  clear hlH gH1 gH2 oTH oH1
  go_wp2_with (first | (((with_reducible refine listN F ?_); clear F; intro wN F)) | ((with_reducible refine at_store rfl ?_); first | (refine wpList_storeG F rfl rfl rfl rfl rfl (by simp only [List.size_toArray]; rw [huB0.out]; exact uinfoBowI) (by simp only [List.size_toArray]; rw [huB0.out]; rfl) (by exact hoB0.out) ?_; clear F; intro W F zW; clear zW) | (refine wpList_storeG F rfl rfl rfl rfl rfl (by simp only [List.size_toArray]; rw [huS.out]; exact uinfoBowI) (by simp only [List.size_toArray]; rw [huS.out]; rfl) (by exact hoS.out) ?_; clear F; intro W F zW; clear zW) | (refine wpList_storeG F rfl rfl rfl rfl rfl (by simp only [List.size_toArray]; rw [huI.out]; exact uinfoBowI) (by simp only [List.size_toArray]; rw [huI.out]; rfl) (by exact hoI.out) ?_; clear F; intro W F zW; clear zW) | (refine wpList_storeG F rfl rfl rfl rfl rfl (by simp only [List.size_toArray]; rw [huH.out]; exact uinfoBowI) (by simp only [List.size_toArray]; rw [huH.out]; rfl) (by exact hoH.out) ?_; clear F; intro W F zW; clear zW) | (refine wpList_storeG F rfl rfl rfl rfl rfl (by simp only [List.size_toArray]; rw [huA0.out]; exact uinfoBowI) (by simp only [List.size_toArray]; rw [huA0.out]; rfl) (by exact hoA0.out) ?_; clear F; intro W F zW; clear zW)) | ((with_reducible refine at_loadU rfl rfl ?_); first | (with_reducible refine wpList_loadG F rfl rfl rfl (by first | exact m0 | exact m1 | exact m2 | exact m3 | exact m4 | exact m5 | exact m6 | exact m7 | exact m8 | exact m9 | exact m10 | exact m11 | exact m12 | exact m13 | exact m14 | exact m15 | exact m16 | exact m17) Try.underlying31 rfl uinfoBowI (by simp only [List.size_toArray]; first | exact hl0.out | exact huA0.out | exact huB0.out | exact huC0.out | exact huS.out | exact huI.out | exact huH.out) ?_) | (with_reducible refine wpList_loadG F rfl rfl rfl (by first | exact m0 | exact m1 | exact m2 | exact m3 | exact m4 | exact m5 | exact m6 | exact m7 | exact m8 | exact m9 | exact m10 | exact m11 | exact m12 | exact m13 | exact m14 | exact m15 | exact m16 | exact m17) Try.underlying40 rfl uinfoBowL (by simp only [List.size_toArray]; first | exact hl0.out | exact huA0.out | exact huB0.out | exact huC0.out | exact huS.out | exact huI.out | exact huH.out) ?_)) | ((with_reducible refine at_loadV rfl rfl ?_); first | (with_reducible refine wpList_loadGG F rfl rfl (by first | exact m0 | exact m1 | exact m2 | exact m3 | exact m4 | exact m5 | exact m6 | exact m7 | exact m8 | exact m9 | exact m10 | exact m11 | exact m12 | exact m13 | exact m14 | exact m15 | exact m16 | exact m17) Try.underlying31 rfl uinfoBowI (by simp only [List.size_toArray]; first | exact hl0.out | exact huA0.out | exact huB0.out | exact huC0.out | exact huS.out | exact huI.out | exact huH.out) (by kernel_rfl) ?_)) | (go_at_call 17; ((with_reducible refine (eqU_Bow _ _ ar0 _ _ _ (F.layR (by first | exact m0 | exact m1 | exact m2 | exact m3 | exact m4 | exact m5 | exact m6 | exact m7 | exact m8 | exact m9 | exact m10 | exact m11 | exact m12 | exact m13 | exact m14 | exact m15 | exact m16 | exact m17)) (F.layR (by first | exact m0 | exact m1 | exact m2 | exact m3 | exact m4 | exact m5 | exact m6 | exact m7 | exact m8 | exact m9 | exact m10 | exact m11 | exact m12 | exact m13 | exact m14 | exact m15 | exact m16 | exact m17)) KR.out hzr).mono ?_); rintro e w7 ⟨rfl, hb7⟩; replace F := F.le hb7)) | (go_at_call 28; ((with_reducible refine (eqR _ _ _ _ xr1 nr1 _ hr1 (F.own (by first | exact m0 | exact m1 | exact m2 | exact m3 | exact m4 | exact m5 | exact m6 | exact m7 | exact m8 | exact m9 | exact m10 | exact m11 | exact m12 | exact m13 | exact m14 | exact m15 | exact m16 | exact m17)).rd (F.own (by first | exact m0 | exact m1 | exact m2 | exact m3 | exact m4 | exact m5 | exact m6 | exact m7 | exact m8 | exact m9 | exact m10 | exact m11 | exact m12 | exact m13 | exact m14 | exact m15 | exact m16 | exact m17)).rd).mono ?_); rintro e w7 ⟨rfl, dq7, rfl⟩; replace F := F.drewN dq7)) | (go_at_call 19; ((with_reducible refine (heldU_Bow _ ar0 _ (1 : Int) _ KR.out (by rw [← HB0.out]; exact hmr) (by omega) (by rw [← HB0.out]; omega) (F.layR (by first | exact m0 | exact m1 | exact m2 | exact m3 | exact m4 | exact m5 | exact m6 | exact m7 | exact m8 | exact m9 | exact m10 | exact m11 | exact m12 | exact m13 | exact m14 | exact m15 | exact m16 | exact m17))).mono ?_); rintro e w6 ⟨rfl, hb6⟩; rw [← HB0.out]; replace F := F.le hb6)) | (go_at_call 30; ((with_reducible refine (heldR _ _ nr1 ((1 : Int) + (nb0 : Int)) _ hr1 (by omega) (by omega) (F.own (by first | exact m0 | exact m1 | exact m2 | exact m3 | exact m4 | exact m5 | exact m6 | exact m7 | exact m8 | exact m9 | exact m10 | exact m11 | exact m12 | exact m13 | exact m14 | exact m15 | exact m16 | exact m17)).rd).mono ?_); rintro e w6 ⟨rfl, rfl⟩; skip)))
  go_ret
  first | exact ⟨rfl, F.below⟩ | exact ⟨rfl, below_drewN F.below _⟩
set_option maxRecDepth 100000 in
set_option maxHeartbeats 4000000 in
theorem large1 (cs0 : List CD) (vs0 : List Value) (s1 : Value) (x1 : Nat → Nat) (n1 : Nat) (w : World) (z0 : RdL w w.heap.size cs0 vs0) (k0 : ShOkL shBow cs0) (z1 : RdS w w.heap.size s1 x1 n1)  (hg : ¬ n1 ≤ 1048576) :
    Calls Try.prog 5 #[.agg vs0.toArray, s1] w fun e w' => e = .returned (.bool true) ∧ Below w.heap.size w w' := by
  have Z0 := hid z0; have K0 := hid k0; have hl0 : Hid (vs0.length = 12) := z0.1.trans k0.1; clear z0 k0
  have Z1 := hid z1; have hs1 := z1.small; clear z1
  have hm1 : (1048576 : Int) < n1 := by omega
  have F := Frg.nil w
  replace F := F.box 40 vs0.toArray
  go_enter Try.func5, Try.ntmps5
  go_wp2_with (first | (((with_reducible refine listN F ?_); clear F; intro wN F)) | ((with_reducible refine at_loadU rfl rfl ?_); first | (with_reducible refine wpList_loadG F rfl rfl rfl (by first | exact m0 | exact m1 | exact m2 | exact m3 | exact m4 | exact m5 | exact m6 | exact m7 | exact m8 | exact m9 | exact m10 | exact m11 | exact m12 | exact m13 | exact m14 | exact m15 | exact m16 | exact m17) Try.underlying31 rfl uinfoBowI (by simp only [List.size_toArray]; first | exact hl0.out | exact huA0.out | exact huB0.out | exact huC0.out | exact huS.out | exact huI.out | exact huH.out) ?_) | (with_reducible refine wpList_loadG F rfl rfl rfl (by first | exact m0 | exact m1 | exact m2 | exact m3 | exact m4 | exact m5 | exact m6 | exact m7 | exact m8 | exact m9 | exact m10 | exact m11 | exact m12 | exact m13 | exact m14 | exact m15 | exact m16 | exact m17) Try.underlying40 rfl uinfoBowL (by simp only [List.size_toArray]; first | exact hl0.out | exact huA0.out | exact huB0.out | exact huC0.out | exact huS.out | exact huI.out | exact huH.out) ?_)) | ((with_reducible refine at_loadV rfl rfl ?_); first | (with_reducible refine wpList_loadGG F rfl rfl (by first | exact m0 | exact m1 | exact m2 | exact m3 | exact m4 | exact m5 | exact m6 | exact m7 | exact m8 | exact m9 | exact m10 | exact m11 | exact m12 | exact m13 | exact m14 | exact m15 | exact m16 | exact m17) Try.underlying31 rfl uinfoBowI (by simp only [List.size_toArray]; first | exact hl0.out | exact huA0.out | exact huB0.out | exact huC0.out | exact huS.out | exact huI.out | exact huH.out) (by kernel_rfl) ?_)) | (with_reducible refine wpList_lenR rfl rfl rfl Try.underlying23 Z1.out ?_))
  go_ret
  first | exact ⟨rfl, F.below⟩ | exact ⟨rfl, below_drewN F.below _⟩
set_option maxRecDepth 100000 in
set_option maxHeartbeats 4000000 in
theorem large0 (cs0 : List CD) (vs0 : List Value) (s1 : Value) (x1 : Nat → Nat) (n1 : Nat) (w : World) (z0 : RdL w w.heap.size cs0 vs0) (k0 : ShOkL shBow cs0) (z1 : RdS w w.heap.size s1 x1 n1) (g1 : n1 ≤ 1048576) (hg : ¬ szL cs0 ≤ 1048576) :
    Calls Try.prog 5 #[.agg vs0.toArray, s1] w fun e w' => e = .returned (.bool true) ∧ Below w.heap.size w w' := by
  have Z0 := hid z0; have K0 := hid k0; have hl0 : Hid (vs0.length = 12) := z0.1.trans k0.1; clear z0 k0
  have Z1 := hid z1; have hs1 := z1.small; clear z1
  have hm1 : ¬ (1048576 : Int) < n1 := by omega
  have hn0 : (1048576 : Int) - (szL cs0 : Nat) < 0 := by omega
  have F := Frg.nil w
  replace F := F.box 40 vs0.toArray
  go_enter Try.func5, Try.ntmps5
  go_wp2_with (first | (((with_reducible refine listN F ?_); clear F; intro wN F)) | ((with_reducible refine at_loadU rfl rfl ?_); first | (with_reducible refine wpList_loadG F rfl rfl rfl (by first | exact m0 | exact m1 | exact m2 | exact m3 | exact m4 | exact m5 | exact m6 | exact m7 | exact m8 | exact m9 | exact m10 | exact m11 | exact m12 | exact m13 | exact m14 | exact m15 | exact m16 | exact m17) Try.underlying31 rfl uinfoBowI (by simp only [List.size_toArray]; first | exact hl0.out | exact huA0.out | exact huB0.out | exact huC0.out | exact huS.out | exact huI.out | exact huH.out) ?_) | (with_reducible refine wpList_loadG F rfl rfl rfl (by first | exact m0 | exact m1 | exact m2 | exact m3 | exact m4 | exact m5 | exact m6 | exact m7 | exact m8 | exact m9 | exact m10 | exact m11 | exact m12 | exact m13 | exact m14 | exact m15 | exact m16 | exact m17) Try.underlying40 rfl uinfoBowL (by simp only [List.size_toArray]; first | exact hl0.out | exact huA0.out | exact huB0.out | exact huC0.out | exact huS.out | exact huI.out | exact huH.out) ?_)) | ((with_reducible refine at_loadV rfl rfl ?_); first | (with_reducible refine wpList_loadGG F rfl rfl (by first | exact m0 | exact m1 | exact m2 | exact m3 | exact m4 | exact m5 | exact m6 | exact m7 | exact m8 | exact m9 | exact m10 | exact m11 | exact m12 | exact m13 | exact m14 | exact m15 | exact m16 | exact m17) Try.underlying31 rfl uinfoBowI (by simp only [List.size_toArray]; first | exact hl0.out | exact huA0.out | exact huB0.out | exact huC0.out | exact huS.out | exact huI.out | exact huH.out) (by kernel_rfl) ?_)) | (with_reducible refine wpList_lenR rfl rfl rfl Try.underlying23 Z1.out ?_) | (go_at_call 20; ((with_reducible refine (szU_Bow _ cs0 vs0 (1048576 : Int) (-1 : Int) _ (Z0.out.le F.below) K0.out (by omega) (by omega) (lessBy_neg hn0)).mono ?_); rintro e w1 ⟨rfl, hb1⟩; replace F := F.le hb1)))
  go_ret
  first | exact ⟨rfl, F.below⟩ | exact ⟨rfl, below_drewN F.below _⟩
theorem walk (cs0 : List CD) (vs0 : List Value) (s1 : Value) (y1 : Nat → Nat) (n1 : Nat) (w : World) (k0 : HasShL shBow cs0) (z0 : RdL w w.heap.size cs0 vs0) (z1 : SlIn w s1 y1 n1) :
    Calls Try.prog 5 #[.agg vs0.toArray, s1] w fun e w' => e = .returned (.bool true) ∧ Below w.heap.size w w' := by
  by_cases g1 : n1 ≤ 1048576
  · skip
    by_cases g0 : szL cs0 ≤ 1048576
    · skip
      obtain ⟨ar0, xr1, nr1, ar2, kr, hzr, hr1, hS, hI⟩ := both_PlayBow cs0 (fun i => can .f32 (y1 i)) n1 k0
      exact core cs0 vs0 s1 (fun i => can .f32 (y1 i)) n1 ar0 xr1 nr1 ar2 w z0 k0.ok g0 z1.rd g1 kr hzr hr1 hS hI
    · exact large0 cs0 vs0 s1 (fun i => can .f32 (y1 i)) n1 w z0 k0.ok z1.rd g1 g0
  · exact large1 cs0 vs0 s1 (fun i => can .f32 (y1 i)) n1 w z0 k0.ok z1.rd  g1
end Go.Proofs.Ytgjdmoenobacgaa.fnExactPlayBow
