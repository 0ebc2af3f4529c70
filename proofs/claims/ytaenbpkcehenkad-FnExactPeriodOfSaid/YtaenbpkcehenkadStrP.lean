/- 'PeriodOf' of both. -/
import Derived.Test.YtaenbpkcehenkadStrV
namespace Go.Fk
open Go Go.RowKit
def perW (n ta db : Nat) : Nat := fop .add .f32 (fop .add .f32 (floatOfInt .f32 (n : Int)) (fop .quo .f32 (fop .sub .f32 1065353216 ta) (fop .add .f32 1065353216 ta))) db
def perV (b : Bool) (n ta db : Nat) : Nat := match b with | true => perW n ta db | false => 0
def perC (b : Bool) : Int := match b with | true => 0 | false => 1
theorem okStr_ring {n : Nat} {k tk : Int} {ta tb tc tx ty : Nat} {dk : Int} {da db dc dx dy l : Nat} (h : okStr n k tk ta tb tc tx ty dk da db dc dx dy l = true) : okRing n k = true := by
  unfold okStr at h; rw [Bool.and_eq_true] at h; exact h.1
theorem per_of {n ta db r1 r2 r3 r4 r : Nat} (h1 : can .f32 r1 = fop .sub .f32 1065353216 ta) (h2 : can .f32 r2 = fop .add .f32 1065353216 ta) (h3 : can .f32 r3 = fop .quo .f32 r1 r2) (h4 : can .f32 r4 = fop .add .f32 (floatOfInt .f32 (n : Int)) r3) (hr : can .f32 r = fop .add .f32 r4 db) : can .f32 r = perW n ta db := by
  rw [hr]
  exact fop_congr (h4.trans ((fop_congr rfl (h3.trans ((fop_congr (h1.trans (can_fop _ _ _ _).symm) (h2.trans (can_fop _ _ _ _).symm)).trans (can_fop _ _ _ _).symm))).trans (can_fop _ _ _ _).symm)) rfl
end Go.Fk
namespace Go.Proofs.Ytaenbpkcehenkad
open Go.RowKit Go.Fk
set_option maxRecDepth 100000 in
set_option maxHeartbeats 2000000 in
theorem s_PeriodOfR (B : Nat) (s : Value) (x : Nat → Nat) (n : Nat) (k tk : Int) (ta tb tc tx ty : Nat) (dk : Int) (da db dc dx dy l : Nat) (w : World) (hs : RdS w B s x n) (hk : (Lit.int .i64 k).wf = true) : Calls Try.prog 10 #[.agg #[s, .int .i64 k, .int .i64 tk, .float .f32 ta, .float .f32 tb, .float .f32 tc, .float .f32 tx, .float .f32 ty, .int .i64 dk, .float .f32 da, .float .f32 db, .float .f32 dc, .float .f32 dx, .float .f32 dy, .float .f32 l]] w (Out_fi (perV (okStr n k tk ta tb tc tx ty dk da db dc dx dy l) n ta db) (perC (okStr n k tk ta tb tc tx ty dk da db dc dx dy l)) w) := by
  have HV := hid (fun (w' : World) (g : Nat) (hl : le w w') (R : Row w' g 38 #[s, .int .i64 k, .int .i64 tk, .float .f32 ta, .float .f32 tb, .float .f32 tc, .float .f32 tx, .float .f32 ty, .int .i64 dk, .float .f32 da, .float .f32 db, .float .f32 dc, .float .f32 dx, .float .f32 dy, .float .f32 l]) => s_l03Ok B s x n k tk ta tb tc tx ty dk da db dc dx dy l g w' (hs.le hl) R hk)
  have F := (Frg.nil w).box 38 #[s, .int .i64 k, .int .i64 tk, .float .f32 ta, .float .f32 tb, .float .f32 tc, .float .f32 tx, .float .f32 ty, .int .i64 dk, .float .f32 da, .float .f32 db, .float .f32 dc, .float .f32 dx, .float .f32 dy, .float .f32 l]
  have F0 := hid F.below
  cases hv : okStr n k tk ta tb tc tx ty dk da db dc dx dy l
  · rw [hv] at HV
    clear hs hv hk
    go_enter Try.func10, Try.ntmps10
    go_wp2_with (first | (go_at_call 52; ((with_reducible refine (HV.out _ _ F.below (F.row m0)).mono ?_); rintro e w1 ⟨rfl, q, rfl⟩; replace F := F.drewN q; have c0 := (F.row m0).cell? 0; have c3 := (F.row m0).cell? 3; have c10 := (F.row m0).cell? 10)))
    go_ret2
    exact ⟨_, rfl, by show can .f32 0 = 0; decide, by first | exact F.below | exact (F.drewN _).below | exact le_trans F0.out (le_drewN _ _)⟩
  · rw [hv] at HV
    obtain ⟨a, cap, y, rfl, hc, hm, hx⟩ := hs.raw (okRing_iff.1 (okStr_ring hv)).1
    unfold maxLen at hm
    clear hx
    clear hs hv hk
    go_enter Try.func10, Try.ntmps10
    go_wp2_with (first | (go_at_call 52; ((with_reducible refine (HV.out _ _ F.below (F.row m0)).mono ?_); rintro e w1 ⟨rfl, q, rfl⟩; replace F := F.drewN q; have c0 := (F.row m0).cell? 0; have c3 := (F.row m0).cell? 3; have c10 := (F.row m0).cell? 10)) | (with_reducible refine wpList_farith rfl rfl rfl rfl rfl ?_; intro r nn hr hf))
    have h1 := ‹Hid (can .f32 _ = fop .sub .f32 1065353216 ta)›
    have h2 := ‹Hid (can .f32 _ = fop .add .f32 1065353216 ta)›
    have h3 := ‹Hid (can .f32 _ = fop .quo .f32 _ _)›
    have h4 := ‹Hid (can .f32 _ = fop .add .f32 (floatOfInt .f32 (n : Int)) _)›
    go_ret2
    exact ⟨_, rfl, per_of h1.out h2.out h3.out h4.out hr.out, by first | exact F.below | exact (F.drewN _).below | exact le_trans F0.out (le_drewN _ _)⟩
set_option maxRecDepth 100000 in
set_option maxHeartbeats 2000000 in
theorem i_PeriodOfR (B : Nat) (s : Value) (x : Nat → Nat) (n : Nat) (k tk : Int) (ta tb tc tx ty : Nat) (dk : Int) (da db dc dx dy l : Nat) (w : World) (hs : RdS w B s x n) (hf : fits .f32 ta ∧ fits .f32 tb ∧ fits .f32 tc ∧ fits .f32 tx ∧ fits .f32 ty) (hg : fits .f32 da ∧ fits .f32 db ∧ fits .f32 dc ∧ fits .f32 dx ∧ fits .f32 dy) (hl2 : fits .f32 l) : Calls Try.prog 12 #[.agg #[s, .int .i64 k, .int .i64 tk, .float .f32 ta, .float .f32 tb, .float .f32 tc, .float .f32 tx, .float .f32 ty, .int .i64 dk, .float .f32 da, .float .f32 db, .float .f32 dc, .float .f32 dx, .float .f32 dy, .float .f32 l]] w (Out_fi (perV (okStr n k tk ta tb tc tx ty dk da db dc dx dy l) n ta db) (perC (okStr n k tk ta tb tc tx ty dk da db dc dx dy l)) w) := by
  have HV := hid (fun (w' : World) (hl : le w w') => i_ValidStringR B s x n k tk ta tb tc tx ty dk da db dc dx dy l w' (hs.le hl) hf hg hl2)
  have F := (Frg.nil w).box 38 #[s, .int .i64 k, .int .i64 tk, .float .f32 ta, .float .f32 tb, .float .f32 tc, .float .f32 tx, .float .f32 ty, .int .i64 dk, .float .f32 da, .float .f32 db, .float .f32 dc, .float .f32 dx, .float .f32 dy, .float .f32 l]
  have F0 := hid F.below
  cases hv : okStr n k tk ta tb tc tx ty dk da db dc dx dy l
  · rw [hv] at HV
    clear hs hv hf hg hl2
    go_enter Try.func12, Try.ntmps12
    go_wp2_with (first | ((with_reducible refine at_loadU rfl rfl ?_); (with_reducible refine wpList_loadG F rfl rfl rfl m0 Try.underlying38 rfl infoStr rfl ?_)) | (go_at_call 55; ((with_reducible refine (HV.out _ F.below).mono ?_); rintro e w1 ⟨rfl, hl⟩; replace F := F.le hl; clear hl; have c0 := (F.row m0).cell? 0; have c3 := (F.row m0).cell? 3; have c10 := (F.row m0).cell? 10)))
    go_ret2
    exact ⟨_, rfl, by show can .f32 0 = 0; decide, by first | exact F.below | exact (F.drewN _).below | exact le_trans F0.out (le_drewN _ _)⟩
  · rw [hv] at HV
    obtain ⟨a, cap, y, rfl, hc, hm, hx⟩ := hs.raw (okRing_iff.1 (okStr_ring hv)).1
    unfold maxLen at hm
    clear hx
    clear hs hv hf hg hl2
    go_enter Try.func12, Try.ntmps12
    go_wp2_with (first | ((with_reducible refine at_loadU rfl rfl ?_); (with_reducible refine wpList_loadG F rfl rfl rfl m0 Try.underlying38 rfl infoStr rfl ?_)) | (go_at_call 55; ((with_reducible refine (HV.out _ F.below).mono ?_); rintro e w1 ⟨rfl, hl⟩; replace F := F.le hl; clear hl; have c0 := (F.row m0).cell? 0; have c3 := (F.row m0).cell? 3; have c10 := (F.row m0).cell? 10)) | (with_reducible refine wpList_farith rfl rfl rfl rfl rfl ?_; intro r nn hr hf))
    have h1 := ‹Hid (can .f32 _ = fop .sub .f32 1065353216 ta)›
    have h2 := ‹Hid (can .f32 _ = fop .add .f32 1065353216 ta)›
    have h3 := ‹Hid (can .f32 _ = fop .quo .f32 _ _)›
    have h4 := ‹Hid (can .f32 _ = fop .add .f32 (floatOfInt .f32 (n : Int)) _)›
    go_ret2
    exact ⟨_, rfl, per_of h1.out h2.out h3.out h4.out hr.out, by first | exact F.below | exact (F.drewN _).below | exact le_trans F0.out (le_drewN _ _)⟩
theorem both_PeriodOf (x : Nat → Nat) (n : Nat) (k tk : Int) (ta tb tc tx ty : Nat) (dk : Int) (da db dc dx dy l : Nat) (hw : (Lit.int .i64 k).wf = true ∧ (Lit.int .i64 tk).wf = true ∧ fits .f32 ta ∧ fits .f32 tb ∧ fits .f32 tc ∧ fits .f32 tx ∧ fits .f32 ty ∧ (Lit.int .i64 dk).wf = true ∧ fits .f32 da ∧ fits .f32 db ∧ fits .f32 dc ∧ fits .f32 dx ∧ fits .f32 dy ∧ fits .f32 l) : ∃ (v : Nat) (c : Int), (∀ (w : World) (B : Nat) (u : Value), RdS w B u x n → Calls Try.prog 10 #[.agg #[u, .int .i64 k, .int .i64 tk, .float .f32 ta, .float .f32 tb, .float .f32 tc, .float .f32 tx, .float .f32 ty, .int .i64 dk, .float .f32 da, .float .f32 db, .float .f32 dc, .float .f32 dx, .float .f32 dy, .float .f32 l]] w (Out_fi v c w)) ∧ (∀ (w : World) (B : Nat) (u : Value), RdS w B u x n → Calls Try.prog 12 #[.agg #[u, .int .i64 k, .int .i64 tk, .float .f32 ta, .float .f32 tb, .float .f32 tc, .float .f32 tx, .float .f32 ty, .int .i64 dk, .float .f32 da, .float .f32 db, .float .f32 dc, .float .f32 dx, .float .f32 dy, .float .f32 l]] w (Out_fi v c w)) := by
  obtain ⟨hk, _, h1, h2, h3, h4, h5, _, g1, g2, g3, g4, g5, hl⟩ := hw
  exact ⟨_, _, fun w B u h => s_PeriodOfR B u x n k tk ta tb tc tx ty dk da db dc dx dy l w h hk, fun w B u h => i_PeriodOfR B u x n k tk ta tb tc tx ty dk da db dc dx dy l w h ⟨h1, h2, h3, h4, h5⟩ ⟨g1, g2, g3, g4, g5⟩ hl⟩
end Go.Proofs.Ytaenbpkcehenkad
