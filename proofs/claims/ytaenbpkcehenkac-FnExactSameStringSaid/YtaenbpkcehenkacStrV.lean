/- 'ValidString' of both. -/
import Derived.Test.YtaenbpkcehenkacHStr
import Derived.Test.YtaenbpkcehenkacRingX
import Derived.Test.YtaenbpkcehenkacModel
namespace Go.Fk
open Go Go.RowKit
/-- Is a string valid? -/
def okStr (n : Nat) (k tk : Int) (ta tb tc tx ty : Nat) (dk : Int) (da db dc dx dy l : Nat) : Bool := okRing n k && (okF tk ta tb tc tx ty && (decide (tk = 3) && (okF dk da db dc dx dy && (decide (dk = 2) && fin l))))
theorem inTune (s : Value) (k tk : Int) (ta tb tc tx ty : Nat) (dk : Int) (da db dc dx dy l : Nat) : FilIn #[s, .int .i64 k, .int .i64 tk, .float .f32 ta, .float .f32 tb, .float .f32 tc, .float .f32 tx, .float .f32 ty, .int .i64 dk, .float .f32 da, .float .f32 db, .float .f32 dc, .float .f32 dx, .float .f32 dy, .float .f32 l] 2 tk ta tb tc tx ty := ⟨rfl, rfl, rfl, rfl, rfl, rfl⟩
theorem inDamp (s : Value) (k tk : Int) (ta tb tc tx ty : Nat) (dk : Int) (da db dc dx dy l : Nat) : FilIn #[s, .int .i64 k, .int .i64 tk, .float .f32 ta, .float .f32 tb, .float .f32 tc, .float .f32 tx, .float .f32 ty, .int .i64 dk, .float .f32 da, .float .f32 db, .float .f32 dc, .float .f32 dx, .float .f32 dy, .float .f32 l] 8 dk da db dc dx dy := ⟨rfl, rfl, rfl, rfl, rfl, rfl⟩
end Go.Fk
namespace Go.Proofs.Ytaenbpkcehenkac
open Go.RowKit Go.Fk
set_option maxRecDepth 100000 in
set_option maxHeartbeats 2000000 in
theorem s_l03Ok (B : Nat) (s : Value) (x : Nat → Nat) (n : Nat) (k tk : Int) (ta tb tc tx ty : Nat) (dk : Int) (da db dc dx dy l : Nat) (g : Nat) (w : World) (hs : RdS w B s x n) (R : Row w g 31 #[s, .int .i64 k, .int .i64 tk, .float .f32 ta, .float .f32 tb, .float .f32 tc, .float .f32 tx, .float .f32 ty, .int .i64 dk, .float .f32 da, .float .f32 db, .float .f32 dc, .float .f32 dx, .float .f32 dy, .float .f32 l]) (hk : (Lit.int .i64 k).wf = true) :
    Calls Try.prog 63 #[.pointer (some ⟨g, 0, none⟩)] w fun e w' => e = .returned (.bool (okStr n k tk ta tb tc tx ty dk da db dc dx dy l)) ∧ ∃ m, w' = w.drewN m := by
  have G0 := s_l02RingR B s x n k g 0 w hs (R.cell? 0) (R.cell? 1) hk
  have G1 := fun (w1 : World) (R1 : Row w1 g 31 #[s, .int .i64 k, .int .i64 tk, .float .f32 ta, .float .f32 tb, .float .f32 tc, .float .f32 tx, .float .f32 ty, .int .i64 dk, .float .f32 da, .float .f32 db, .float .f32 dc, .float .f32 dx, .float .f32 dy, .float .f32 l]) => s_OkAt tk ta tb tc tx ty g 2 w1 ((inTune s k tk ta tb tc tx ty dk da db dc dx dy l).at R1)
  have G3 := fun (w1 : World) (R1 : Row w1 g 31 #[s, .int .i64 k, .int .i64 tk, .float .f32 ta, .float .f32 tb, .float .f32 tc, .float .f32 tx, .float .f32 ty, .int .i64 dk, .float .f32 da, .float .f32 db, .float .f32 dc, .float .f32 dx, .float .f32 dy, .float .f32 l]) => s_OkAt dk da db dc dx dy g 8 w1 ((inDamp s k tk ta tb tc tx ty dk da db dc dx dy l).at R1)
  have G5 := fun (w1 : World) => s_l01Finite l w1
  have c2 := R.cell? 2
  have c8 := R.cell? 8
  have c14 := R.cell? 14
  have RR := hid R
  clear hs R hk
  cases h1 : okRing n k
  · have HZ : Hid (okStr n k tk ta tb tc tx ty dk da db dc dx dy l = false) := by unfold Hid okStr; simp only [h1, Bool.and_true, Bool.and_false, Bool.true_and, Bool.false_and]
    rw [h1] at G0; have H0 := hid G0; clear G0
    clear h1
    clear G1
    clear G3
    clear G5
    go_enter Try.func63, Try.ntmps63
    go_wp2_with (first | (go_at_call 97; ((with_reducible refine (H0.out).mono ?_); rintro e w1 ⟨rfl, rfl⟩)) | (go_at_call 98; ((with_reducible refine (H1.out _ (by first | exact RR.out | exact RR.out.drewN _)).mono ?_); rintro e w1 ⟨rfl, n1, rfl⟩)) | (go_at_call 98; ((with_reducible refine (H3.out _ (by first | exact RR.out | exact RR.out.drewN _)).mono ?_); rintro e w1 ⟨rfl, n1, rfl⟩)) | (go_at_call 75; ((with_reducible refine (H5.out _).mono ?_); rintro e w1 ⟨rfl, n1, rfl⟩)))
    go_ret
    exact ⟨ret_b HZ.out.symm, by first | exact ⟨_, rfl⟩ | exact ⟨0, rfl⟩⟩
  · skip
    cases h2 : okF tk ta tb tc tx ty
    · have HZ : Hid (okStr n k tk ta tb tc tx ty dk da db dc dx dy l = false) := by unfold Hid okStr; simp only [h1, h2, Bool.and_true, Bool.and_false, Bool.true_and, Bool.false_and]
      rw [h1] at G0; have H0 := hid G0; clear G0
      rw [h2] at G1; have H1 := hid G1; clear G1
      clear h1 h2
      clear G3
      clear G5
      go_enter Try.func63, Try.ntmps63
      go_wp2_with (first | (go_at_call 97; ((with_reducible refine (H0.out).mono ?_); rintro e w1 ⟨rfl, rfl⟩)) | (go_at_call 98; ((with_reducible refine (H1.out _ (by first | exact RR.out | exact RR.out.drewN _)).mono ?_); rintro e w1 ⟨rfl, n1, rfl⟩)) | (go_at_call 98; ((with_reducible refine (H3.out _ (by first | exact RR.out | exact RR.out.drewN _)).mono ?_); rintro e w1 ⟨rfl, n1, rfl⟩)) | (go_at_call 75; ((with_reducible refine (H5.out _).mono ?_); rintro e w1 ⟨rfl, n1, rfl⟩)))
      go_ret
      exact ⟨ret_b HZ.out.symm, by first | exact ⟨_, rfl⟩ | exact ⟨0, rfl⟩⟩
    · skip
      cases h3 : decide (tk = 3)
      · have HZ : Hid (okStr n k tk ta tb tc tx ty dk da db dc dx dy l = false) := by unfold Hid okStr; simp only [h1, h2, h3, Bool.and_true, Bool.and_false, Bool.true_and, Bool.false_and]
        rw [h1] at G0; have H0 := hid G0; clear G0
        rw [h2] at G1; have H1 := hid G1; clear G1
        have e3 : ¬ tk = 3 := of_decide_eq_false h3
        clear h1 h2 h3
        clear G3
        clear G5
        go_enter Try.func63, Try.ntmps63
        go_wp2_with (first | (go_at_call 97; ((with_reducible refine (H0.out).mono ?_); rintro e w1 ⟨rfl, rfl⟩)) | (go_at_call 98; ((with_reducible refine (H1.out _ (by first | exact RR.out | exact RR.out.drewN _)).mono ?_); rintro e w1 ⟨rfl, n1, rfl⟩)) | (go_at_call 98; ((with_reducible refine (H3.out _ (by first | exact RR.out | exact RR.out.drewN _)).mono ?_); rintro e w1 ⟨rfl, n1, rfl⟩)) | (go_at_call 75; ((with_reducible refine (H5.out _).mono ?_); rintro e w1 ⟨rfl, n1, rfl⟩)))
        go_ret
        exact ⟨ret_b HZ.out.symm, by first | exact ⟨_, rfl⟩ | exact ⟨0, rfl⟩⟩
      · skip
        cases h4 : okF dk da db dc dx dy
        · have HZ : Hid (okStr n k tk ta tb tc tx ty dk da db dc dx dy l = false) := by unfold Hid okStr; simp only [h1, h2, h3, h4, Bool.and_true, Bool.and_false, Bool.true_and, Bool.false_and]
          rw [h1] at G0; have H0 := hid G0; clear G0
          rw [h2] at G1; have H1 := hid G1; clear G1
          have e3 : (tk == 3) = true := by simpa using h3
          rw [h4] at G3; have H3 := hid G3; clear G3
          clear h1 h2 h3 h4
          clear G5
          go_enter Try.func63, Try.ntmps63
          go_wp2_with (first | (go_at_call 97; ((with_reducible refine (H0.out).mono ?_); rintro e w1 ⟨rfl, rfl⟩)) | (go_at_call 98; ((with_reducible refine (H1.out _ (by first | exact RR.out | exact RR.out.drewN _)).mono ?_); rintro e w1 ⟨rfl, n1, rfl⟩)) | (go_at_call 98; ((with_reducible refine (H3.out _ (by first | exact RR.out | exact RR.out.drewN _)).mono ?_); rintro e w1 ⟨rfl, n1, rfl⟩)) | (go_at_call 75; ((with_reducible refine (H5.out _).mono ?_); rintro e w1 ⟨rfl, n1, rfl⟩)))
          go_ret
          exact ⟨ret_b HZ.out.symm, by first | exact ⟨_, rfl⟩ | exact ⟨0, rfl⟩⟩
        · skip
          cases h5 : decide (dk = 2)
          · have HZ : Hid (okStr n k tk ta tb tc tx ty dk da db dc dx dy l = false) := by unfold Hid okStr; simp only [h1, h2, h3, h4, h5, Bool.and_true, Bool.and_false, Bool.true_and, Bool.false_and]
            rw [h1] at G0; have H0 := hid G0; clear G0
            rw [h2] at G1; have H1 := hid G1; clear G1
            have e3 : (tk == 3) = true := by simpa using h3
            rw [h4] at G3; have H3 := hid G3; clear G3
            have e5 : ¬ dk = 2 := of_decide_eq_false h5
            clear h1 h2 h3 h4 h5
            clear G5
            go_enter Try.func63, Try.ntmps63
            go_wp2_with (first | (go_at_call 97; ((with_reducible refine (H0.out).mono ?_); rintro e w1 ⟨rfl, rfl⟩)) | (go_at_call 98; ((with_reducible refine (H1.out _ (by first | exact RR.out | exact RR.out.drewN _)).mono ?_); rintro e w1 ⟨rfl, n1, rfl⟩)) | (go_at_call 98; ((with_reducible refine (H3.out _ (by first | exact RR.out | exact RR.out.drewN _)).mono ?_); rintro e w1 ⟨rfl, n1, rfl⟩)) | (go_at_call 75; ((with_reducible refine (H5.out _).mono ?_); rintro e w1 ⟨rfl, n1, rfl⟩)))
            go_ret
            exact ⟨ret_b HZ.out.symm, by first | exact ⟨_, rfl⟩ | exact ⟨0, rfl⟩⟩
          · skip
            cases h6 : fin l
            · have HZ : Hid (okStr n k tk ta tb tc tx ty dk da db dc dx dy l = false) := by unfold Hid okStr; simp only [h1, h2, h3, h4, h5, h6, Bool.and_true, Bool.and_false, Bool.true_and, Bool.false_and]
              rw [h1] at G0; have H0 := hid G0; clear G0
              rw [h2] at G1; have H1 := hid G1; clear G1
              have e3 : (tk == 3) = true := by simpa using h3
              rw [h4] at G3; have H3 := hid G3; clear G3
              have e5 : (dk == 2) = true := by simpa using h5
              rw [h6] at G5; have H5 := hid G5; clear G5
              clear h1 h2 h3 h4 h5 h6
              go_enter Try.func63, Try.ntmps63
              go_wp2_with (first | (go_at_call 97; ((with_reducible refine (H0.out).mono ?_); rintro e w1 ⟨rfl, rfl⟩)) | (go_at_call 98; ((with_reducible refine (H1.out _ (by first | exact RR.out | exact RR.out.drewN _)).mono ?_); rintro e w1 ⟨rfl, n1, rfl⟩)) | (go_at_call 98; ((with_reducible refine (H3.out _ (by first | exact RR.out | exact RR.out.drewN _)).mono ?_); rintro e w1 ⟨rfl, n1, rfl⟩)) | (go_at_call 75; ((with_reducible refine (H5.out _).mono ?_); rintro e w1 ⟨rfl, n1, rfl⟩)))
              go_ret
              exact ⟨ret_b HZ.out.symm, by first | exact ⟨_, rfl⟩ | exact ⟨0, rfl⟩⟩
            · skip
              have HZ : Hid (okStr n k tk ta tb tc tx ty dk da db dc dx dy l = true) := by unfold Hid okStr; simp only [h1, h2, h3, h4, h5, h6, Bool.and_true, Bool.and_false, Bool.true_and, Bool.false_and]
              rw [h1] at G0; have H0 := hid G0; clear G0
              rw [h2] at G1; have H1 := hid G1; clear G1
              have e3 : (tk == 3) = true := by simpa using h3
              rw [h4] at G3; have H3 := hid G3; clear G3
              have e5 : (dk == 2) = true := by simpa using h5
              rw [h6] at G5; have H5 := hid G5; clear G5
              clear h1 h2 h3 h4 h5 h6
              go_enter Try.func63, Try.ntmps63
              go_wp2_with (first | (go_at_call 97; ((with_reducible refine (H0.out).mono ?_); rintro e w1 ⟨rfl, rfl⟩)) | (go_at_call 98; ((with_reducible refine (H1.out _ (by first | exact RR.out | exact RR.out.drewN _)).mono ?_); rintro e w1 ⟨rfl, n1, rfl⟩)) | (go_at_call 98; ((with_reducible refine (H3.out _ (by first | exact RR.out | exact RR.out.drewN _)).mono ?_); rintro e w1 ⟨rfl, n1, rfl⟩)) | (go_at_call 75; ((with_reducible refine (H5.out _).mono ?_); rintro e w1 ⟨rfl, n1, rfl⟩)))
              go_ret
              exact ⟨ret_b HZ.out.symm, by first | exact ⟨_, rfl⟩ | exact ⟨0, rfl⟩⟩
set_option maxRecDepth 100000 in
theorem s_ValidStringR (B : Nat) (s : Value) (x : Nat → Nat) (n : Nat) (k tk : Int) (ta tb tc tx ty : Nat) (dk : Int) (da db dc dx dy l : Nat) (w : World) (hs : RdS w B s x n) (hk : (Lit.int .i64 k).wf = true) :
    Calls Try.prog 21 #[.agg #[s, .int .i64 k, .int .i64 tk, .float .f32 ta, .float .f32 tb, .float .f32 tc, .float .f32 tx, .float .f32 ty, .int .i64 dk, .float .f32 da, .float .f32 db, .float .f32 dc, .float .f32 dx, .float .f32 dy, .float .f32 l]] w (Out_b (okStr n k tk ta tb tc tx ty dk da db dc dx dy l) w) := by
  have F := (Frg.nil w).box 31 #[s, .int .i64 k, .int .i64 tk, .float .f32 ta, .float .f32 tb, .float .f32 tc, .float .f32 tx, .float .f32 ty, .int .i64 dk, .float .f32 da, .float .f32 db, .float .f32 dc, .float .f32 dx, .float .f32 dy, .float .f32 l]
  have HS := hid hs; have HK := hid hk; clear hs hk
  go_enter Try.func21, Try.ntmps21
  go_wp2_with (go_at_call 63; ((with_reducible refine (s_l03Ok B s x n k tk ta tb tc tx ty dk da db dc dx dy l _ _ (HS.out.le F.below) (F.row m0) HK.out).mono ?_); rintro e w1 ⟨rfl, m, rfl⟩))
  go_ret
  exact ⟨rfl, (F.drewN _).below⟩
set_option maxRecDepth 100000 in
set_option maxHeartbeats 2000000 in
theorem i_ValidStringR (B : Nat) (s : Value) (x : Nat → Nat) (n : Nat) (k tk : Int) (ta tb tc tx ty : Nat) (dk : Int) (da db dc dx dy l : Nat) (w : World) (hs : RdS w B s x n) (hf : fits .f32 ta ∧ fits .f32 tb ∧ fits .f32 tc ∧ fits .f32 tx ∧ fits .f32 ty) (hg : fits .f32 da ∧ fits .f32 db ∧ fits .f32 dc ∧ fits .f32 dx ∧ fits .f32 dy) (hl : fits .f32 l) :
    Calls Try.prog 23 #[.agg #[s, .int .i64 k, .int .i64 tk, .float .f32 ta, .float .f32 tb, .float .f32 tc, .float .f32 tx, .float .f32 ty, .int .i64 dk, .float .f32 da, .float .f32 db, .float .f32 dc, .float .f32 dx, .float .f32 dy, .float .f32 l]] w (Out_b (okStr n k tk ta tb tc tx ty dk da db dc dx dy l) w) := by
  have G0 := fun (w1 : World) (h : le w w1) => i_ValidRingR B s x n k w1 (hs.le h)
  have G1 := fun (w1 : World) => i_ValidFilter tk ta tb tc tx ty w1 hf
  have G3 := fun (w1 : World) => i_ValidFilter dk da db dc dx dy w1 hg
  have G5 := fun (w1 : World) => i_isFinite l w1 hl
  have F := (Frg.nil w).box 31 #[s, .int .i64 k, .int .i64 tk, .float .f32 ta, .float .f32 tb, .float .f32 tc, .float .f32 tx, .float .f32 ty, .int .i64 dk, .float .f32 da, .float .f32 db, .float .f32 dc, .float .f32 dx, .float .f32 dy, .float .f32 l]
  clear hs hf hg hl
  cases h1 : okRing n k
  · have HZ : Hid (okStr n k tk ta tb tc tx ty dk da db dc dx dy l = false) := by unfold Hid okStr; simp only [h1, Bool.and_true, Bool.and_false, Bool.true_and, Bool.false_and]
    rw [h1] at G0; have H0 := hid G0; clear G0
    clear h1
    clear G1
    clear G3
    clear G5
    have c2 := (F.row m0).cell? 2; have c8 := (F.row m0).cell? 8; have c14 := (F.row m0).cell? 14
    go_enter Try.func23, Try.ntmps23
    go_wp2_with (first | ((with_reducible refine at_loadU rfl rfl ?_); first | (with_reducible refine wpList_loadGP F rfl rfl rfl m0 Try.underlying25 rfl [s, .int .i64 k] (strRing s k tk ta tb tc tx ty dk da db dc dx dy l) infoRing rfl ?_) | (with_reducible refine wpList_loadGP F rfl rfl rfl m0 Try.underlying29 rfl [.int .i64 tk, .float .f32 ta, .float .f32 tb, .float .f32 tc, .float .f32 tx, .float .f32 ty] (strTune s k tk ta tb tc tx ty dk da db dc dx dy l) infoFil rfl ?_) | (with_reducible refine wpList_loadGP F rfl rfl rfl m0 Try.underlying29 rfl [.int .i64 dk, .float .f32 da, .float .f32 db, .float .f32 dc, .float .f32 dx, .float .f32 dy] (strDamp s k tk ta tb tc tx ty dk da db dc dx dy l) infoFil rfl ?_)) | ((with_reducible refine at_loadV rfl rfl ?_); first | (with_reducible refine wpList_loadGPG F rfl rfl m0 Try.underlying25 rfl [s, .int .i64 k] (strRing s k tk ta tb tc tx ty dk da db dc dx dy l) infoRing rfl (by kernel_rfl) ?_) | (with_reducible refine wpList_loadGPG F rfl rfl m0 Try.underlying29 rfl [.int .i64 tk, .float .f32 ta, .float .f32 tb, .float .f32 tc, .float .f32 tx, .float .f32 ty] (strTune s k tk ta tb tc tx ty dk da db dc dx dy l) infoFil rfl (by kernel_rfl) ?_) | (with_reducible refine wpList_loadGPG F rfl rfl m0 Try.underlying29 rfl [.int .i64 dk, .float .f32 da, .float .f32 db, .float .f32 dc, .float .f32 dx, .float .f32 dy] (strDamp s k tk ta tb tc tx ty dk da db dc dx dy l) infoFil rfl (by kernel_rfl) ?_)) | (go_at_call 66; ((with_reducible refine (H0.out _ F.below).mono ?_); rintro e w1 ⟨rfl, hl⟩; replace F := F.le hl; clear hl; clear c2 c8 c14; have c2 := (F.row m0).cell? 2; have c8 := (F.row m0).cell? 8; have c14 := (F.row m0).cell? 14)) | (go_at_call 67; ((with_reducible refine (H1.out _).mono ?_); rintro e w1 ⟨rfl, hl⟩; replace F := F.le hl; clear hl; clear c2 c8 c14; have c2 := (F.row m0).cell? 2; have c8 := (F.row m0).cell? 8; have c14 := (F.row m0).cell? 14)) | (go_at_call 67; ((with_reducible refine (H3.out _).mono ?_); rintro e w1 ⟨rfl, hl⟩; replace F := F.le hl; clear hl; clear c2 c8 c14; have c2 := (F.row m0).cell? 2; have c8 := (F.row m0).cell? 8; have c14 := (F.row m0).cell? 14)) | (go_at_call 68; ((with_reducible refine (H5.out _).mono ?_); rintro e w1 ⟨rfl, rfl⟩)))
    go_ret
    exact ⟨ret_b HZ.out.symm, F.below⟩
  · skip
    cases h3 : decide (tk = 3)
    · have HZ : Hid (okStr n k tk ta tb tc tx ty dk da db dc dx dy l = false) := by unfold Hid okStr; simp only [h1, h3, Bool.and_true, Bool.and_false, Bool.true_and, Bool.false_and]
      rw [h1] at G0; have H0 := hid G0; clear G0
      have e3 : ¬ tk = 3 := of_decide_eq_false h3
      clear h1 h3
      clear G1
      clear G3
      clear G5
      have c2 := (F.row m0).cell? 2; have c8 := (F.row m0).cell? 8; have c14 := (F.row m0).cell? 14
      go_enter Try.func23, Try.ntmps23
      go_wp2_with (first | ((with_reducible refine at_loadU rfl rfl ?_); first | (with_reducible refine wpList_loadGP F rfl rfl rfl m0 Try.underlying25 rfl [s, .int .i64 k] (strRing s k tk ta tb tc tx ty dk da db dc dx dy l) infoRing rfl ?_) | (with_reducible refine wpList_loadGP F rfl rfl rfl m0 Try.underlying29 rfl [.int .i64 tk, .float .f32 ta, .float .f32 tb, .float .f32 tc, .float .f32 tx, .float .f32 ty] (strTune s k tk ta tb tc tx ty dk da db dc dx dy l) infoFil rfl ?_) | (with_reducible refine wpList_loadGP F rfl rfl rfl m0 Try.underlying29 rfl [.int .i64 dk, .float .f32 da, .float .f32 db, .float .f32 dc, .float .f32 dx, .float .f32 dy] (strDamp s k tk ta tb tc tx ty dk da db dc dx dy l) infoFil rfl ?_)) | ((with_reducible refine at_loadV rfl rfl ?_); first | (with_reducible refine wpList_loadGPG F rfl rfl m0 Try.underlying25 rfl [s, .int .i64 k] (strRing s k tk ta tb tc tx ty dk da db dc dx dy l) infoRing rfl (by kernel_rfl) ?_) | (with_reducible refine wpList_loadGPG F rfl rfl m0 Try.underlying29 rfl [.int .i64 tk, .float .f32 ta, .float .f32 tb, .float .f32 tc, .float .f32 tx, .float .f32 ty] (strTune s k tk ta tb tc tx ty dk da db dc dx dy l) infoFil rfl (by kernel_rfl) ?_) | (with_reducible refine wpList_loadGPG F rfl rfl m0 Try.underlying29 rfl [.int .i64 dk, .float .f32 da, .float .f32 db, .float .f32 dc, .float .f32 dx, .float .f32 dy] (strDamp s k tk ta tb tc tx ty dk da db dc dx dy l) infoFil rfl (by kernel_rfl) ?_)) | (go_at_call 66; ((with_reducible refine (H0.out _ F.below).mono ?_); rintro e w1 ⟨rfl, hl⟩; replace F := F.le hl; clear hl; clear c2 c8 c14; have c2 := (F.row m0).cell? 2; have c8 := (F.row m0).cell? 8; have c14 := (F.row m0).cell? 14)) | (go_at_call 67; ((with_reducible refine (H1.out _).mono ?_); rintro e w1 ⟨rfl, hl⟩; replace F := F.le hl; clear hl; clear c2 c8 c14; have c2 := (F.row m0).cell? 2; have c8 := (F.row m0).cell? 8; have c14 := (F.row m0).cell? 14)) | (go_at_call 67; ((with_reducible refine (H3.out _).mono ?_); rintro e w1 ⟨rfl, hl⟩; replace F := F.le hl; clear hl; clear c2 c8 c14; have c2 := (F.row m0).cell? 2; have c8 := (F.row m0).cell? 8; have c14 := (F.row m0).cell? 14)) | (go_at_call 68; ((with_reducible refine (H5.out _).mono ?_); rintro e w1 ⟨rfl, rfl⟩)))
      go_ret
      exact ⟨ret_b HZ.out.symm, F.below⟩
    · skip
      cases h2 : okF tk ta tb tc tx ty
      · have HZ : Hid (okStr n k tk ta tb tc tx ty dk da db dc dx dy l = false) := by unfold Hid okStr; simp only [h1, h3, h2, Bool.and_true, Bool.and_false, Bool.true_and, Bool.false_and]
        rw [h1] at G0; have H0 := hid G0; clear G0
        have e3 : (tk == 3) = true := by simpa using h3
        rw [h2] at G1; have H1 := hid G1; clear G1
        clear h1 h3 h2
        clear G3
        clear G5
        have c2 := (F.row m0).cell? 2; have c8 := (F.row m0).cell? 8; have c14 := (F.row m0).cell? 14
        go_enter Try.func23, Try.ntmps23
        go_wp2_with (first | ((with_reducible refine at_loadU rfl rfl ?_); first | (with_reducible refine wpList_loadGP F rfl rfl rfl m0 Try.underlying25 rfl [s, .int .i64 k] (strRing s k tk ta tb tc tx ty dk da db dc dx dy l) infoRing rfl ?_) | (with_reducible refine wpList_loadGP F rfl rfl rfl m0 Try.underlying29 rfl [.int .i64 tk, .float .f32 ta, .float .f32 tb, .float .f32 tc, .float .f32 tx, .float .f32 ty] (strTune s k tk ta tb tc tx ty dk da db dc dx dy l) infoFil rfl ?_) | (with_reducible refine wpList_loadGP F rfl rfl rfl m0 Try.underlying29 rfl [.int .i64 dk, .float .f32 da, .float .f32 db, .float .f32 dc, .float .f32 dx, .float .f32 dy] (strDamp s k tk ta tb tc tx ty dk da db dc dx dy l) infoFil rfl ?_)) | ((with_reducible refine at_loadV rfl rfl ?_); first | (with_reducible refine wpList_loadGPG F rfl rfl m0 Try.underlying25 rfl [s, .int .i64 k] (strRing s k tk ta tb tc tx ty dk da db dc dx dy l) infoRing rfl (by kernel_rfl) ?_) | (with_reducible refine wpList_loadGPG F rfl rfl m0 Try.underlying29 rfl [.int .i64 tk, .float .f32 ta, .float .f32 tb, .float .f32 tc, .float .f32 tx, .float .f32 ty] (strTune s k tk ta tb tc tx ty dk da db dc dx dy l) infoFil rfl (by kernel_rfl) ?_) | (with_reducible refine wpList_loadGPG F rfl rfl m0 Try.underlying29 rfl [.int .i64 dk, .float .f32 da, .float .f32 db, .float .f32 dc, .float .f32 dx, .float .f32 dy] (strDamp s k tk ta tb tc tx ty dk da db dc dx dy l) infoFil rfl (by kernel_rfl) ?_)) | (go_at_call 66; ((with_reducible refine (H0.out _ F.below).mono ?_); rintro e w1 ⟨rfl, hl⟩; replace F := F.le hl; clear hl; clear c2 c8 c14; have c2 := (F.row m0).cell? 2; have c8 := (F.row m0).cell? 8; have c14 := (F.row m0).cell? 14)) | (go_at_call 67; ((with_reducible refine (H1.out _).mono ?_); rintro e w1 ⟨rfl, hl⟩; replace F := F.le hl; clear hl; clear c2 c8 c14; have c2 := (F.row m0).cell? 2; have c8 := (F.row m0).cell? 8; have c14 := (F.row m0).cell? 14)) | (go_at_call 67; ((with_reducible refine (H3.out _).mono ?_); rintro e w1 ⟨rfl, hl⟩; replace F := F.le hl; clear hl; clear c2 c8 c14; have c2 := (F.row m0).cell? 2; have c8 := (F.row m0).cell? 8; have c14 := (F.row m0).cell? 14)) | (go_at_call 68; ((with_reducible refine (H5.out _).mono ?_); rintro e w1 ⟨rfl, rfl⟩)))
        go_ret
        exact ⟨ret_b HZ.out.symm, F.below⟩
      · skip
        cases h5 : decide (dk = 2)
        · have HZ : Hid (okStr n k tk ta tb tc tx ty dk da db dc dx dy l = false) := by unfold Hid okStr; simp only [h1, h3, h2, h5, Bool.and_true, Bool.and_false, Bool.true_and, Bool.false_and]
          rw [h1] at G0; have H0 := hid G0; clear G0
          have e3 : (tk == 3) = true := by simpa using h3
          rw [h2] at G1; have H1 := hid G1; clear G1
          have e5 : ¬ dk = 2 := of_decide_eq_false h5
          clear h1 h3 h2 h5
          clear G3
          clear G5
          have c2 := (F.row m0).cell? 2; have c8 := (F.row m0).cell? 8; have c14 := (F.row m0).cell? 14
          go_enter Try.func23, Try.ntmps23
          go_wp2_with (first | ((with_reducible refine at_loadU rfl rfl ?_); first | (with_reducible refine wpList_loadGP F rfl rfl rfl m0 Try.underlying25 rfl [s, .int .i64 k] (strRing s k tk ta tb tc tx ty dk da db dc dx dy l) infoRing rfl ?_) | (with_reducible refine wpList_loadGP F rfl rfl rfl m0 Try.underlying29 rfl [.int .i64 tk, .float .f32 ta, .float .f32 tb, .float .f32 tc, .float .f32 tx, .float .f32 ty] (strTune s k tk ta tb tc tx ty dk da db dc dx dy l) infoFil rfl ?_) | (with_reducible refine wpList_loadGP F rfl rfl rfl m0 Try.underlying29 rfl [.int .i64 dk, .float .f32 da, .float .f32 db, .float .f32 dc, .float .f32 dx, .float .f32 dy] (strDamp s k tk ta tb tc tx ty dk da db dc dx dy l) infoFil rfl ?_)) | ((with_reducible refine at_loadV rfl rfl ?_); first | (with_reducible refine wpList_loadGPG F rfl rfl m0 Try.underlying25 rfl [s, .int .i64 k] (strRing s k tk ta tb tc tx ty dk da db dc dx dy l) infoRing rfl (by kernel_rfl) ?_) | (with_reducible refine wpList_loadGPG F rfl rfl m0 Try.underlying29 rfl [.int .i64 tk, .float .f32 ta, .float .f32 tb, .float .f32 tc, .float .f32 tx, .float .f32 ty] (strTune s k tk ta tb tc tx ty dk da db dc dx dy l) infoFil rfl (by kernel_rfl) ?_) | (with_reducible refine wpList_loadGPG F rfl rfl m0 Try.underlying29 rfl [.int .i64 dk, .float .f32 da, .float .f32 db, .float .f32 dc, .float .f32 dx, .float .f32 dy] (strDamp s k tk ta tb tc tx ty dk da db dc dx dy l) infoFil rfl (by kernel_rfl) ?_)) | (go_at_call 66; ((with_reducible refine (H0.out _ F.below).mono ?_); rintro e w1 ⟨rfl, hl⟩; replace F := F.le hl; clear hl; clear c2 c8 c14; have c2 := (F.row m0).cell? 2; have c8 := (F.row m0).cell? 8; have c14 := (F.row m0).cell? 14)) | (go_at_call 67; ((with_reducible refine (H1.out _).mono ?_); rintro e w1 ⟨rfl, hl⟩; replace F := F.le hl; clear hl; clear c2 c8 c14; have c2 := (F.row m0).cell? 2; have c8 := (F.row m0).cell? 8; have c14 := (F.row m0).cell? 14)) | (go_at_call 67; ((with_reducible refine (H3.out _).mono ?_); rintro e w1 ⟨rfl, hl⟩; replace F := F.le hl; clear hl; clear c2 c8 c14; have c2 := (F.row m0).cell? 2; have c8 := (F.row m0).cell? 8; have c14 := (F.row m0).cell? 14)) | (go_at_call 68; ((with_reducible refine (H5.out _).mono ?_); rintro e w1 ⟨rfl, rfl⟩)))
          go_ret
          exact ⟨ret_b HZ.out.symm, F.below⟩
        · skip
          cases h4 : okF dk da db dc dx dy
          · have HZ : Hid (okStr n k tk ta tb tc tx ty dk da db dc dx dy l = false) := by unfold Hid okStr; simp only [h1, h3, h2, h5, h4, Bool.and_true, Bool.and_false, Bool.true_and, Bool.false_and]
            rw [h1] at G0; have H0 := hid G0; clear G0
            have e3 : (tk == 3) = true := by simpa using h3
            rw [h2] at G1; have H1 := hid G1; clear G1
            have e5 : (dk == 2) = true := by simpa using h5
            rw [h4] at G3; have H3 := hid G3; clear G3
            clear h1 h3 h2 h5 h4
            clear G5
            have c2 := (F.row m0).cell? 2; have c8 := (F.row m0).cell? 8; have c14 := (F.row m0).cell? 14
            go_enter Try.func23, Try.ntmps23
            go_wp2_with (first | ((with_reducible refine at_loadU rfl rfl ?_); first | (with_reducible refine wpList_loadGP F rfl rfl rfl m0 Try.underlying25 rfl [s, .int .i64 k] (strRing s k tk ta tb tc tx ty dk da db dc dx dy l) infoRing rfl ?_) | (with_reducible refine wpList_loadGP F rfl rfl rfl m0 Try.underlying29 rfl [.int .i64 tk, .float .f32 ta, .float .f32 tb, .float .f32 tc, .float .f32 tx, .float .f32 ty] (strTune s k tk ta tb tc tx ty dk da db dc dx dy l) infoFil rfl ?_) | (with_reducible refine wpList_loadGP F rfl rfl rfl m0 Try.underlying29 rfl [.int .i64 dk, .float .f32 da, .float .f32 db, .float .f32 dc, .float .f32 dx, .float .f32 dy] (strDamp s k tk ta tb tc tx ty dk da db dc dx dy l) infoFil rfl ?_)) | ((with_reducible refine at_loadV rfl rfl ?_); first | (with_reducible refine wpList_loadGPG F rfl rfl m0 Try.underlying25 rfl [s, .int .i64 k] (strRing s k tk ta tb tc tx ty dk da db dc dx dy l) infoRing rfl (by kernel_rfl) ?_) | (with_reducible refine wpList_loadGPG F rfl rfl m0 Try.underlying29 rfl [.int .i64 tk, .float .f32 ta, .float .f32 tb, .float .f32 tc, .float .f32 tx, .float .f32 ty] (strTune s k tk ta tb tc tx ty dk da db dc dx dy l) infoFil rfl (by kernel_rfl) ?_) | (with_reducible refine wpList_loadGPG F rfl rfl m0 Try.underlying29 rfl [.int .i64 dk, .float .f32 da, .float .f32 db, .float .f32 dc, .float .f32 dx, .float .f32 dy] (strDamp s k tk ta tb tc tx ty dk da db dc dx dy l) infoFil rfl (by kernel_rfl) ?_)) | (go_at_call 66; ((with_reducible refine (H0.out _ F.below).mono ?_); rintro e w1 ⟨rfl, hl⟩; replace F := F.le hl; clear hl; clear c2 c8 c14; have c2 := (F.row m0).cell? 2; have c8 := (F.row m0).cell? 8; have c14 := (F.row m0).cell? 14)) | (go_at_call 67; ((with_reducible refine (H1.out _).mono ?_); rintro e w1 ⟨rfl, hl⟩; replace F := F.le hl; clear hl; clear c2 c8 c14; have c2 := (F.row m0).cell? 2; have c8 := (F.row m0).cell? 8; have c14 := (F.row m0).cell? 14)) | (go_at_call 67; ((with_reducible refine (H3.out _).mono ?_); rintro e w1 ⟨rfl, hl⟩; replace F := F.le hl; clear hl; clear c2 c8 c14; have c2 := (F.row m0).cell? 2; have c8 := (F.row m0).cell? 8; have c14 := (F.row m0).cell? 14)) | (go_at_call 68; ((with_reducible refine (H5.out _).mono ?_); rintro e w1 ⟨rfl, rfl⟩)))
            go_ret
            exact ⟨ret_b HZ.out.symm, F.below⟩
          · skip
            cases h6 : fin l
            · have HZ : Hid (okStr n k tk ta tb tc tx ty dk da db dc dx dy l = false) := by unfold Hid okStr; simp only [h1, h3, h2, h5, h4, h6, Bool.and_true, Bool.and_false, Bool.true_and, Bool.false_and]
              rw [h1] at G0; have H0 := hid G0; clear G0
              have e3 : (tk == 3) = true := by simpa using h3
              rw [h2] at G1; have H1 := hid G1; clear G1
              have e5 : (dk == 2) = true := by simpa using h5
              rw [h4] at G3; have H3 := hid G3; clear G3
              rw [h6] at G5; have H5 := hid G5; clear G5
              clear h1 h3 h2 h5 h4 h6
              have c2 := (F.row m0).cell? 2; have c8 := (F.row m0).cell? 8; have c14 := (F.row m0).cell? 14
              go_enter Try.func23, Try.ntmps23
              go_wp2_with (first | ((with_reducible refine at_loadU rfl rfl ?_); first | (with_reducible refine wpList_loadGP F rfl rfl rfl m0 Try.underlying25 rfl [s, .int .i64 k] (strRing s k tk ta tb tc tx ty dk da db dc dx dy l) infoRing rfl ?_) | (with_reducible refine wpList_loadGP F rfl rfl rfl m0 Try.underlying29 rfl [.int .i64 tk, .float .f32 ta, .float .f32 tb, .float .f32 tc, .float .f32 tx, .float .f32 ty] (strTune s k tk ta tb tc tx ty dk da db dc dx dy l) infoFil rfl ?_) | (with_reducible refine wpList_loadGP F rfl rfl rfl m0 Try.underlying29 rfl [.int .i64 dk, .float .f32 da, .float .f32 db, .float .f32 dc, .float .f32 dx, .float .f32 dy] (strDamp s k tk ta tb tc tx ty dk da db dc dx dy l) infoFil rfl ?_)) | ((with_reducible refine at_loadV rfl rfl ?_); first | (with_reducible refine wpList_loadGPG F rfl rfl m0 Try.underlying25 rfl [s, .int .i64 k] (strRing s k tk ta tb tc tx ty dk da db dc dx dy l) infoRing rfl (by kernel_rfl) ?_) | (with_reducible refine wpList_loadGPG F rfl rfl m0 Try.underlying29 rfl [.int .i64 tk, .float .f32 ta, .float .f32 tb, .float .f32 tc, .float .f32 tx, .float .f32 ty] (strTune s k tk ta tb tc tx ty dk da db dc dx dy l) infoFil rfl (by kernel_rfl) ?_) | (with_reducible refine wpList_loadGPG F rfl rfl m0 Try.underlying29 rfl [.int .i64 dk, .float .f32 da, .float .f32 db, .float .f32 dc, .float .f32 dx, .float .f32 dy] (strDamp s k tk ta tb tc tx ty dk da db dc dx dy l) infoFil rfl (by kernel_rfl) ?_)) | (go_at_call 66; ((with_reducible refine (H0.out _ F.below).mono ?_); rintro e w1 ⟨rfl, hl⟩; replace F := F.le hl; clear hl; clear c2 c8 c14; have c2 := (F.row m0).cell? 2; have c8 := (F.row m0).cell? 8; have c14 := (F.row m0).cell? 14)) | (go_at_call 67; ((with_reducible refine (H1.out _).mono ?_); rintro e w1 ⟨rfl, hl⟩; replace F := F.le hl; clear hl; clear c2 c8 c14; have c2 := (F.row m0).cell? 2; have c8 := (F.row m0).cell? 8; have c14 := (F.row m0).cell? 14)) | (go_at_call 67; ((with_reducible refine (H3.out _).mono ?_); rintro e w1 ⟨rfl, hl⟩; replace F := F.le hl; clear hl; clear c2 c8 c14; have c2 := (F.row m0).cell? 2; have c8 := (F.row m0).cell? 8; have c14 := (F.row m0).cell? 14)) | (go_at_call 68; ((with_reducible refine (H5.out _).mono ?_); rintro e w1 ⟨rfl, rfl⟩)))
              go_ret
              exact ⟨ret_b HZ.out.symm, F.below⟩
            · skip
              have HZ : Hid (okStr n k tk ta tb tc tx ty dk da db dc dx dy l = true) := by unfold Hid okStr; simp only [h1, h3, h2, h5, h4, h6, Bool.and_true, Bool.and_false, Bool.true_and, Bool.false_and]
              rw [h1] at G0; have H0 := hid G0; clear G0
              have e3 : (tk == 3) = true := by simpa using h3
              rw [h2] at G1; have H1 := hid G1; clear G1
              have e5 : (dk == 2) = true := by simpa using h5
              rw [h4] at G3; have H3 := hid G3; clear G3
              rw [h6] at G5; have H5 := hid G5; clear G5
              clear h1 h3 h2 h5 h4 h6
              have c2 := (F.row m0).cell? 2; have c8 := (F.row m0).cell? 8; have c14 := (F.row m0).cell? 14
              go_enter Try.func23, Try.ntmps23
              go_wp2_with (first | ((with_reducible refine at_loadU rfl rfl ?_); first | (with_reducible refine wpList_loadGP F rfl rfl rfl m0 Try.underlying25 rfl [s, .int .i64 k] (strRing s k tk ta tb tc tx ty dk da db dc dx dy l) infoRing rfl ?_) | (with_reducible refine wpList_loadGP F rfl rfl rfl m0 Try.underlying29 rfl [.int .i64 tk, .float .f32 ta, .float .f32 tb, .float .f32 tc, .float .f32 tx, .float .f32 ty] (strTune s k tk ta tb tc tx ty dk da db dc dx dy l) infoFil rfl ?_) | (with_reducible refine wpList_loadGP F rfl rfl rfl m0 Try.underlying29 rfl [.int .i64 dk, .float .f32 da, .float .f32 db, .float .f32 dc, .float .f32 dx, .float .f32 dy] (strDamp s k tk ta tb tc tx ty dk da db dc dx dy l) infoFil rfl ?_)) | ((with_reducible refine at_loadV rfl rfl ?_); first | (with_reducible refine wpList_loadGPG F rfl rfl m0 Try.underlying25 rfl [s, .int .i64 k] (strRing s k tk ta tb tc tx ty dk da db dc dx dy l) infoRing rfl (by kernel_rfl) ?_) | (with_reducible refine wpList_loadGPG F rfl rfl m0 Try.underlying29 rfl [.int .i64 tk, .float .f32 ta, .float .f32 tb, .float .f32 tc, .float .f32 tx, .float .f32 ty] (strTune s k tk ta tb tc tx ty dk da db dc dx dy l) infoFil rfl (by kernel_rfl) ?_) | (with_reducible refine wpList_loadGPG F rfl rfl m0 Try.underlying29 rfl [.int .i64 dk, .float .f32 da, .float .f32 db, .float .f32 dc, .float .f32 dx, .float .f32 dy] (strDamp s k tk ta tb tc tx ty dk da db dc dx dy l) infoFil rfl (by kernel_rfl) ?_)) | (go_at_call 66; ((with_reducible refine (H0.out _ F.below).mono ?_); rintro e w1 ⟨rfl, hl⟩; replace F := F.le hl; clear hl; clear c2 c8 c14; have c2 := (F.row m0).cell? 2; have c8 := (F.row m0).cell? 8; have c14 := (F.row m0).cell? 14)) | (go_at_call 67; ((with_reducible refine (H1.out _).mono ?_); rintro e w1 ⟨rfl, hl⟩; replace F := F.le hl; clear hl; clear c2 c8 c14; have c2 := (F.row m0).cell? 2; have c8 := (F.row m0).cell? 8; have c14 := (F.row m0).cell? 14)) | (go_at_call 67; ((with_reducible refine (H3.out _).mono ?_); rintro e w1 ⟨rfl, hl⟩; replace F := F.le hl; clear hl; clear c2 c8 c14; have c2 := (F.row m0).cell? 2; have c8 := (F.row m0).cell? 8; have c14 := (F.row m0).cell? 14)) | (go_at_call 68; ((with_reducible refine (H5.out _).mono ?_); rintro e w1 ⟨rfl, rfl⟩)))
              go_ret
              exact ⟨ret_b HZ.out.symm, F.below⟩
theorem both_ValidString (x : Nat → Nat) (n : Nat) (k tk : Int) (ta tb tc tx ty : Nat) (dk : Int) (da db dc dx dy l : Nat) (hw : (Lit.int .i64 k).wf = true ∧ (Lit.int .i64 tk).wf = true ∧ fits .f32 ta ∧ fits .f32 tb ∧ fits .f32 tc ∧ fits .f32 tx ∧ fits .f32 ty ∧ (Lit.int .i64 dk).wf = true ∧ fits .f32 da ∧ fits .f32 db ∧ fits .f32 dc ∧ fits .f32 dx ∧ fits .f32 dy ∧ fits .f32 l) : ∃ r : Bool, (∀ (w : World) (B : Nat) (u : Value), RdS w B u x n → Calls Try.prog 21 #[.agg #[u, .int .i64 k, .int .i64 tk, .float .f32 ta, .float .f32 tb, .float .f32 tc, .float .f32 tx, .float .f32 ty, .int .i64 dk, .float .f32 da, .float .f32 db, .float .f32 dc, .float .f32 dx, .float .f32 dy, .float .f32 l]] w (Out_b r w)) ∧ (∀ (w : World) (B : Nat) (u : Value), RdS w B u x n → Calls Try.prog 23 #[.agg #[u, .int .i64 k, .int .i64 tk, .float .f32 ta, .float .f32 tb, .float .f32 tc, .float .f32 tx, .float .f32 ty, .int .i64 dk, .float .f32 da, .float .f32 db, .float .f32 dc, .float .f32 dx, .float .f32 dy, .float .f32 l]] w (Out_b r w)) := by
  obtain ⟨hk, _, h1, h2, h3, h4, h5, _, g1, g2, g3, g4, g5, hl⟩ := hw
  exact ⟨_, fun w B u h => s_ValidStringR B u x n k tk ta tb tc tx ty dk da db dc dx dy l w h hk, fun w B u h => i_ValidStringR B u x n k tk ta tb tc tx ty dk da db dc dx dy l w h ⟨h1, h2, h3, h4, h5⟩ ⟨g1, g2, g3, g4, g5⟩ hl⟩
end Go.Proofs.Ytaenbpkcehenkac
