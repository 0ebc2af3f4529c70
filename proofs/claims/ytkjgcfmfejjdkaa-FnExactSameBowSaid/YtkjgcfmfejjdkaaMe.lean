/- Texts of the walk, laid in one file. -/
import Derived.Test.YtkjgcfmfejjdkaaMd
set_option linter.unusedVariables false
set_option linter.unusedSimpArgs false
/- 'SameBow' of both. -/
namespace Go.Fk
open Go Go.RowKit
def sameFl (k : Int) (a b c x y : Nat) (k' : Int) (a' b' c' x' y' : Nat) : Bool := (k == k') && (eqRow (tri a b c) (tri a' b' c') 3 && eqRow (duo x y) (duo x' y') 2)
theorem same_two (m o m1 o1 : Nat) : sameS (two m o) (two m1 o1) 2 2 = (sameB m m1 && sameB o o1) := by
  rw [sameS_eq]
  simp [eqRow, two, List.range_succ, sameB_can]
def sameBow (x y : Nat → Nat) (nx ny : Nat) (j k : Int) (fk : Int) (a b c p q : Nat) (m o : Nat) (xZ yZ : Nat → Nat) (nxZ nyZ : Nat) (jZ kZ : Int) (fkZ : Int) (aZ bZ cZ pZ qZ : Nat) (mZ oZ : Nat) : Bool := (sameRgs (rg2 x y nx ny j k) (rg2 xZ yZ nxZ nyZ jZ kZ) 2 2 && sameFl fk a b c p q fkZ aZ bZ cZ pZ qZ && sameB m mZ && sameB o oZ)
end Go.Fk
namespace Go.Proofs.Ytkjgcfmfejjdkaa
open Go.RowKit Go.Fk
set_option maxRecDepth 100000 in
set_option maxHeartbeats 4000000 in
theorem i_EqualFilBow (fk : Int) (a b c p q : Nat) (fkZ : Int) (aZ bZ cZ pZ qZ : Nat) (g g1 : Nat) (w : World) (R : Row w g 40 #[.int .i64 fk, .float .f32 a, .float .f32 b, .float .f32 c, .float .f32 p, .float .f32 q]) (R1 : Row w g1 40 #[.int .i64 fkZ, .float .f32 aZ, .float .f32 bZ, .float .f32 cZ, .float .f32 pZ, .float .f32 qZ]) : Calls Try.prog 120 #[.slice (some ⟨g, 0, none⟩) 1 1, .slice (some ⟨g1, 0, none⟩) 1 1, .func (.func 121) #[] #[]] w fun e w' => e = .returned (.bool (sameFl fk a b c p q fkZ aZ bZ cZ pZ qZ)) ∧ le w w' := by
  have HR := hid (fun (w1 : World) (h : le w w1) => R.le h); have HR1 := hid (fun (w1 : World) (h : le w w1) => R1.le h)
  have HS0 := hid (fun (w' : World) => i_SameFilter fk a b c p q fkZ aZ bZ cZ pZ qZ w')
  clear R R1
  go_enter Try.func120, Try.ntmps120
  go_wp2
  go_loopw [17] (fun i wr => ∃ n : Nat, n ≤ 1 ∧ i = .int .i64 n ∧ Hid ((0 < n → sameFl fk a b c p q fkZ aZ bZ cZ pZ qZ = true)) ∧ Hid (le w wr)) (fun i _ => 1 - (intOf i).toNat)
  case atStart => exact ⟨0, by omega, rfl, fun h => absurd h (by omega), le_refl _⟩
  case round =>
    obtain ⟨n, hn, rfl, HP, HL⟩ := hrel
    rename_i wr _
    have F := Frg.nil wr
    match n, hn with
    | 0, _ =>
      rcases bool_ft (sameFl fk a b c p q fkZ aZ bZ cZ pZ qZ) with h | h
      · have E : Hid ((sameFl fk a b c p q fkZ aZ bZ cZ pZ qZ) = false) := by show _ = _; simp [h]
        unfold sameFl at h
        rw [h] at HS0
        clear h
        go_wp2_with (first | ((with_reducible refine listN F ?_); clear F; intro wN F) | (with_reducible refine wpList_indexW0 (i := 0) rfl rfl rfl rfl Try.underlying124 uinfoFilterI (by decide) ?_) | (go_at_call 121; ((with_reducible refine (HS0.out _).mono ?_); rintro e w1 ⟨rfl, hl⟩; (first | replace F := F.le hl | replace F := (F.box _ _).le hl | replace F := ((F.box _ _).box _ _).le hl); clear hl)) | ((with_reducible refine at_load rfl ?_); first | (with_reducible refine wpList_loadW rfl rfl rfl [.int .i64 fk, .float .f32 a, .float .f32 b, .float .f32 c, .float .f32 p, .float .f32 q] (Row.at_part (HR.out _ (le_trans HL.out (by first | exact F.below | exact (F.box _ _).below))) (filAtBow0 fk a b c p q)) Try.underlying40 rfl uinfoFilterI rfl ?_) | (with_reducible refine wpList_loadW rfl rfl rfl [.int .i64 fkZ, .float .f32 aZ, .float .f32 bZ, .float .f32 cZ, .float .f32 pZ, .float .f32 qZ] (Row.at_part (HR1.out _ (le_trans HL.out (by first | exact F.below | exact (F.box _ _).below))) (filAtBow0 fkZ aZ bZ cZ pZ qZ)) Try.underlying40 rfl uinfoFilterI rfl ?_) | (with_reducible refine wpList_loadG F rfl rfl rfl (by first | exact m0 | exact m1 | exact m2) Try.underlying40 rfl uinfoFilterI rfl ?_) | (with_reducible refine wpList_loadG ((F.box _ _).box _ _) rfl rfl rfl (by first | exact m0 | exact m1 | exact m2) Try.underlying40 rfl uinfoFilterI rfl ?_)))
        go_ret
        exact ⟨ret_b E.out.symm, le_trans HL.out F.below⟩
      · have hh := hid h
        unfold sameFl at h
        rw [h] at HS0
        clear h
        go_wp2_with (first | ((with_reducible refine listN F ?_); clear F; intro wN F) | (with_reducible refine wpList_indexW0 (i := 0) rfl rfl rfl rfl Try.underlying124 uinfoFilterI (by decide) ?_) | (go_at_call 121; ((with_reducible refine (HS0.out _).mono ?_); rintro e w1 ⟨rfl, hl⟩; (first | replace F := F.le hl | replace F := (F.box _ _).le hl | replace F := ((F.box _ _).box _ _).le hl); clear hl)) | ((with_reducible refine at_load rfl ?_); first | (with_reducible refine wpList_loadW rfl rfl rfl [.int .i64 fk, .float .f32 a, .float .f32 b, .float .f32 c, .float .f32 p, .float .f32 q] (Row.at_part (HR.out _ (le_trans HL.out (by first | exact F.below | exact (F.box _ _).below))) (filAtBow0 fk a b c p q)) Try.underlying40 rfl uinfoFilterI rfl ?_) | (with_reducible refine wpList_loadW rfl rfl rfl [.int .i64 fkZ, .float .f32 aZ, .float .f32 bZ, .float .f32 cZ, .float .f32 pZ, .float .f32 qZ] (Row.at_part (HR1.out _ (le_trans HL.out (by first | exact F.below | exact (F.box _ _).below))) (filAtBow0 fkZ aZ bZ cZ pZ qZ)) Try.underlying40 rfl uinfoFilterI rfl ?_) | (with_reducible refine wpList_loadG F rfl rfl rfl (by first | exact m0 | exact m1 | exact m2) Try.underlying40 rfl uinfoFilterI rfl ?_) | (with_reducible refine wpList_loadG ((F.box _ _).box _ _) rfl rfl rfl (by first | exact m0 | exact m1 | exact m2) Try.underlying40 rfl uinfoFilterI rfl ?_)))
        go_roundw
        case rel => exact ⟨1, by omega, by go_num, fun _ => hh.out, le_trans HL.out F.below⟩
        case measure => simp [intOf]
    | 1, _ =>
      have E : Hid ((sameFl fk a b c p q fkZ aZ bZ cZ pZ qZ) = true) := by show _ = _; simp [HP.out (by omega)]
      go_wp2
      go_ret
      exact ⟨ret_b E.out.symm, HL.out⟩
set_option maxRecDepth 100000 in
set_option maxHeartbeats 4000000 in
theorem i_samePartsBow (x y : Nat → Nat) (nx ny : Nat) (j k : Int) (fk : Int) (a b c p q : Nat) (m o : Nat) (xZ yZ : Nat → Nat) (nxZ nyZ : Nat) (jZ kZ : Int) (fkZ : Int) (aZ bZ cZ pZ qZ : Nat) (mZ oZ : Nat) (B BZ : Nat) (s t sZ tZ : Value) (w : World) (hs : (slT x nx).RdN w B s) (ht : (slT y ny).RdN w B t) (wf : (Lit.int .i64 j).wf = true ∧ (Lit.int .i64 k).wf = true) (hf : (fits .f32 a ∧ fits .f32 b ∧ fits .f32 c ∧ fits .f32 p ∧ fits .f32 q ∧ fits .f32 m ∧ fits .f32 o)) (hsZ : (slT xZ nxZ).RdN w BZ sZ) (htZ : (slT yZ nyZ).RdN w BZ tZ) (wfZ : (Lit.int .i64 jZ).wf = true ∧ (Lit.int .i64 kZ).wf = true) (hfZ : (fits .f32 aZ ∧ fits .f32 bZ ∧ fits .f32 cZ ∧ fits .f32 pZ ∧ fits .f32 qZ ∧ fits .f32 mZ ∧ fits .f32 oZ)) :
    Calls Try.prog 88 #[.iface 42 (.agg #[s, .int .i64 j, t, .int .i64 k, .int .i64 fk, .float .f32 a, .float .f32 b, .float .f32 c, .float .f32 p, .float .f32 q, .float .f32 m, .float .f32 o]), .iface 42 (.agg #[sZ, .int .i64 jZ, tZ, .int .i64 kZ, .int .i64 fkZ, .float .f32 aZ, .float .f32 bZ, .float .f32 cZ, .float .f32 pZ, .float .f32 qZ, .float .f32 mZ, .float .f32 oZ])] w (Out_b (sameBow x y nx ny j k fk a b c p q m o xZ yZ nxZ nyZ jZ kZ fkZ aZ bZ cZ pZ qZ mZ oZ) w) := by
  obtain ⟨fa, fb, fc, fp, fq, fm, fo⟩ := hf
  obtain ⟨faZ, fbZ, fcZ, fpZ, fqZ, fmZ, foZ⟩ := hfZ
  obtain ⟨wj, wk⟩ := wf
  obtain ⟨wjZ, wkZ⟩ := wfZ
  have HRG := hid (fun (gA gB : Nat) (w' : World) (h : le w w') (R : Row w' gA 36 #[s, .int .i64 j, t, .int .i64 k]) (R1 : Row w' gB 36 #[sZ, .int .i64 jZ, tZ, .int .i64 kZ]) => i_EqualRings _ _ _ _ _ _ 2 2 w' (rg2_rd (hs.le h) (ht.le h) wj wk R) (rg2_rd (hsZ.le h) (htZ.le h) wjZ wkZ R1) (rg2_ok x y nx ny j k) (rg2_ok xZ yZ nxZ nyZ jZ kZ))
  have HN := hid (fun (gA gB : Nat) (w' : World) (R : Row w' gA 22 #[.float .f32 m, .float .f32 o]) (R1 : Row w' gB 22 #[.float .f32 mZ, .float .f32 oZ]) => i_EqualFuncR (gA + 1) (gB + 1) (.slice (some ⟨gA, 0, none⟩) 2 2) (.slice (some ⟨gB, 0, none⟩) 2 2) (two m o) (two mZ oZ) 2 2 w' (two_rd fm fo R) (two_rd fmZ foZ R1))
  have HFL := hid (fun (gA gB : Nat) (w' : World) R R1 => i_EqualFilBow fk a b c p q fkZ aZ bZ cZ pZ qZ gA gB w' R R1)
  have HF := hid (fun (w' : World) => i_filtersBow s t j k fk a b c p q m o w'); have HFZ := hid (fun (w' : World) => i_filtersBow sZ tZ jZ kZ fkZ aZ bZ cZ pZ qZ mZ oZ w')
  have HR := hid (fun (w' : World) => i_ringsBow s t j k fk a b c p q m o w'); have HRZ := hid (fun (w' : World) => i_ringsBow sZ tZ jZ kZ fkZ aZ bZ cZ pZ qZ mZ oZ w')
  have HM := hid (fun (w' : World) => i_numbersBow s t j k fk a b c p q m o w'); have HMZ := hid (fun (w' : World) => i_numbersBow sZ tZ jZ kZ fkZ aZ bZ cZ pZ qZ mZ oZ w')
  clear hs ht hsZ htZ wj wk wjZ wkZ fa faZ fb fbZ fc fcZ fp fpZ fq fqZ fm fmZ fo foZ
  change Calls _ _ _ _ (Out_b (sameRgs (rg2 x y nx ny j k) (rg2 xZ yZ nxZ nyZ jZ kZ) 2 2 && sameFl fk a b c p q fkZ aZ bZ cZ pZ qZ && sameB m mZ && sameB o oZ) w)
  rw [show (sameRgs (rg2 x y nx ny j k) (rg2 xZ yZ nxZ nyZ jZ kZ) 2 2 && sameFl fk a b c p q fkZ aZ bZ cZ pZ qZ && sameB m mZ && sameB o oZ) = (sameS (two m o) (two mZ oZ) 2 2 && (sameFl fk a b c p q fkZ aZ bZ cZ pZ qZ) && sameRgs (rg2 x y nx ny j k) (rg2 xZ yZ nxZ nyZ jZ kZ) 2 2) by rw [same_two]; cases sameB m mZ <;> cases sameB o oZ <;> cases sameRgs (rg2 x y nx ny j k) (rg2 xZ yZ nxZ nyZ jZ kZ) 2 2 <;> cases sameFl fk a b c p q fkZ aZ bZ cZ pZ qZ <;> rfl]
  have F := Frg.nil w
  rcases bool_ft (sameS (two m o) (two mZ oZ) 2 2) with h | h
  · rw [h] at HN ⊢
    clear h
    go_enter Try.func88, Try.ntmps88
    go_wp2_with (first | ((with_reducible refine listN F ?_); clear F; intro wN F) | (go_at_call 160; first | ((with_reducible refine (HF.out _).mono ?_); rintro e w1 ⟨g0, rfl, hg, hr, hl⟩; replace F := F.rowS hl hg hr; clear hg hr hl) | ((with_reducible refine (HFZ.out _).mono ?_); rintro e w1 ⟨g1, rfl, hg, hr, hl⟩; replace F := F.rowS hl hg hr; clear hg hr hl)) | (go_at_call 162; first | ((with_reducible refine (HR.out _).mono ?_); rintro e w1 ⟨g0, rfl, hg, hr, hl⟩; replace F := F.rowS hl hg hr; clear hg hr hl) | ((with_reducible refine (HRZ.out _).mono ?_); rintro e w1 ⟨g1, rfl, hg, hr, hl⟩; replace F := F.rowS hl hg hr; clear hg hr hl)) | (go_at_call 161; first | ((with_reducible refine (HM.out _).mono ?_); rintro e w1 ⟨g0, rfl, hg, hr, hl⟩; replace F := F.rowS hl hg hr; clear hg hr hl) | ((with_reducible refine (HMZ.out _).mono ?_); rintro e w1 ⟨g1, rfl, hg, hr, hl⟩; replace F := F.rowS hl hg hr; clear hg hr hl)) | (go_at_call 118; ((with_reducible refine (HN.out _ _ _ (F.row (by first | exact m0 | exact m1 | exact m2 | exact m3 | exact m4 | exact m5)) (F.row (by first | exact m0 | exact m1 | exact m2 | exact m3 | exact m4 | exact m5))).mono ?_); rintro e w1 ⟨rfl, rfl⟩)) | (go_at_call 120; ((with_reducible refine (HFL.out _ _ _ (F.row (by first | exact m0 | exact m1 | exact m2 | exact m3 | exact m4 | exact m5)) (F.row (by first | exact m0 | exact m1 | exact m2 | exact m3 | exact m4 | exact m5))).mono ?_); rintro e w1 ⟨rfl, hl⟩; replace F := F.le hl; clear hl)) | (go_at_call 122; ((with_reducible refine (HRG.out _ _ _ F.below (F.row (by first | exact m0 | exact m1 | exact m2 | exact m3 | exact m4 | exact m5)) (F.row (by first | exact m0 | exact m1 | exact m2 | exact m3 | exact m4 | exact m5))).mono ?_); rintro e w1 ⟨rfl, hl⟩; replace F := F.le hl; clear hl)))
    go_ret
    exact ⟨ret_b (by simp), F.below⟩
  rw [h] at HN ⊢
  clear h
  rcases bool_ft (sameFl fk a b c p q fkZ aZ bZ cZ pZ qZ) with h | h
  · rw [h] at HFL ⊢
    clear h
    go_enter Try.func88, Try.ntmps88
    go_wp2_with (first | ((with_reducible refine listN F ?_); clear F; intro wN F) | (go_at_call 160; first | ((with_reducible refine (HF.out _).mono ?_); rintro e w1 ⟨g0, rfl, hg, hr, hl⟩; replace F := F.rowS hl hg hr; clear hg hr hl) | ((with_reducible refine (HFZ.out _).mono ?_); rintro e w1 ⟨g1, rfl, hg, hr, hl⟩; replace F := F.rowS hl hg hr; clear hg hr hl)) | (go_at_call 162; first | ((with_reducible refine (HR.out _).mono ?_); rintro e w1 ⟨g0, rfl, hg, hr, hl⟩; replace F := F.rowS hl hg hr; clear hg hr hl) | ((with_reducible refine (HRZ.out _).mono ?_); rintro e w1 ⟨g1, rfl, hg, hr, hl⟩; replace F := F.rowS hl hg hr; clear hg hr hl)) | (go_at_call 161; first | ((with_reducible refine (HM.out _).mono ?_); rintro e w1 ⟨g0, rfl, hg, hr, hl⟩; replace F := F.rowS hl hg hr; clear hg hr hl) | ((with_reducible refine (HMZ.out _).mono ?_); rintro e w1 ⟨g1, rfl, hg, hr, hl⟩; replace F := F.rowS hl hg hr; clear hg hr hl)) | (go_at_call 118; ((with_reducible refine (HN.out _ _ _ (F.row (by first | exact m0 | exact m1 | exact m2 | exact m3 | exact m4 | exact m5)) (F.row (by first | exact m0 | exact m1 | exact m2 | exact m3 | exact m4 | exact m5))).mono ?_); rintro e w1 ⟨rfl, rfl⟩)) | (go_at_call 120; ((with_reducible refine (HFL.out _ _ _ (F.row (by first | exact m0 | exact m1 | exact m2 | exact m3 | exact m4 | exact m5)) (F.row (by first | exact m0 | exact m1 | exact m2 | exact m3 | exact m4 | exact m5))).mono ?_); rintro e w1 ⟨rfl, hl⟩; replace F := F.le hl; clear hl)) | (go_at_call 122; ((with_reducible refine (HRG.out _ _ _ F.below (F.row (by first | exact m0 | exact m1 | exact m2 | exact m3 | exact m4 | exact m5)) (F.row (by first | exact m0 | exact m1 | exact m2 | exact m3 | exact m4 | exact m5))).mono ?_); rintro e w1 ⟨rfl, hl⟩; replace F := F.le hl; clear hl)))
    go_ret
    exact ⟨ret_b (by simp), F.below⟩
  rw [h] at HFL ⊢
  clear h
  go_enter Try.func88, Try.ntmps88
  go_wp2_with (first | ((with_reducible refine listN F ?_); clear F; intro wN F) | (go_at_call 160; first | ((with_reducible refine (HF.out _).mono ?_); rintro e w1 ⟨g0, rfl, hg, hr, hl⟩; replace F := F.rowS hl hg hr; clear hg hr hl) | ((with_reducible refine (HFZ.out _).mono ?_); rintro e w1 ⟨g1, rfl, hg, hr, hl⟩; replace F := F.rowS hl hg hr; clear hg hr hl)) | (go_at_call 162; first | ((with_reducible refine (HR.out _).mono ?_); rintro e w1 ⟨g0, rfl, hg, hr, hl⟩; replace F := F.rowS hl hg hr; clear hg hr hl) | ((with_reducible refine (HRZ.out _).mono ?_); rintro e w1 ⟨g1, rfl, hg, hr, hl⟩; replace F := F.rowS hl hg hr; clear hg hr hl)) | (go_at_call 161; first | ((with_reducible refine (HM.out _).mono ?_); rintro e w1 ⟨g0, rfl, hg, hr, hl⟩; replace F := F.rowS hl hg hr; clear hg hr hl) | ((with_reducible refine (HMZ.out _).mono ?_); rintro e w1 ⟨g1, rfl, hg, hr, hl⟩; replace F := F.rowS hl hg hr; clear hg hr hl)) | (go_at_call 118; ((with_reducible refine (HN.out _ _ _ (F.row (by first | exact m0 | exact m1 | exact m2 | exact m3 | exact m4 | exact m5)) (F.row (by first | exact m0 | exact m1 | exact m2 | exact m3 | exact m4 | exact m5))).mono ?_); rintro e w1 ⟨rfl, rfl⟩)) | (go_at_call 120; ((with_reducible refine (HFL.out _ _ _ (F.row (by first | exact m0 | exact m1 | exact m2 | exact m3 | exact m4 | exact m5)) (F.row (by first | exact m0 | exact m1 | exact m2 | exact m3 | exact m4 | exact m5))).mono ?_); rintro e w1 ⟨rfl, hl⟩; replace F := F.le hl; clear hl)) | (go_at_call 122; ((with_reducible refine (HRG.out _ _ _ F.below (F.row (by first | exact m0 | exact m1 | exact m2 | exact m3 | exact m4 | exact m5)) (F.row (by first | exact m0 | exact m1 | exact m2 | exact m3 | exact m4 | exact m5))).mono ?_); rintro e w1 ⟨rfl, hl⟩; replace F := F.le hl; clear hl)))
  go_ret
  exact ⟨ret_b (by simp), F.below⟩
set_option maxRecDepth 100000 in
set_option maxHeartbeats 4000000 in
theorem i_SameBow (x y : Nat → Nat) (nx ny : Nat) (j k : Int) (fk : Int) (a b c p q : Nat) (m o : Nat) (xZ yZ : Nat → Nat) (nxZ nyZ : Nat) (jZ kZ : Int) (fkZ : Int) (aZ bZ cZ pZ qZ : Nat) (mZ oZ : Nat) (B BZ : Nat) (s t sZ tZ : Value) (w : World) (hs : (slT x nx).RdN w B s) (ht : (slT y ny).RdN w B t) (wf : (Lit.int .i64 j).wf = true ∧ (Lit.int .i64 k).wf = true) (hf : (fits .f32 a ∧ fits .f32 b ∧ fits .f32 c ∧ fits .f32 p ∧ fits .f32 q ∧ fits .f32 m ∧ fits .f32 o)) (hsZ : (slT xZ nxZ).RdN w BZ sZ) (htZ : (slT yZ nyZ).RdN w BZ tZ) (wfZ : (Lit.int .i64 jZ).wf = true ∧ (Lit.int .i64 kZ).wf = true) (hfZ : (fits .f32 aZ ∧ fits .f32 bZ ∧ fits .f32 cZ ∧ fits .f32 pZ ∧ fits .f32 qZ ∧ fits .f32 mZ ∧ fits .f32 oZ)) :
    Calls Try.prog 48 #[.agg #[s, .int .i64 j, t, .int .i64 k, .int .i64 fk, .float .f32 a, .float .f32 b, .float .f32 c, .float .f32 p, .float .f32 q, .float .f32 m, .float .f32 o], .agg #[sZ, .int .i64 jZ, tZ, .int .i64 kZ, .int .i64 fkZ, .float .f32 aZ, .float .f32 bZ, .float .f32 cZ, .float .f32 pZ, .float .f32 qZ, .float .f32 mZ, .float .f32 oZ]] w (Out_b (sameBow x y nx ny j k fk a b c p q m o xZ yZ nxZ nyZ jZ kZ fkZ aZ bZ cZ pZ qZ mZ oZ) w) := by
  have HV := hid (fun (w' : World) (hl : le w w') => i_samePartsBow x y nx ny j k fk a b c p q m o xZ yZ nxZ nyZ jZ kZ fkZ aZ bZ cZ pZ qZ mZ oZ B BZ s t sZ tZ w' (hs.le hl) (ht.le hl) wf hf (hsZ.le hl) (htZ.le hl) wfZ hfZ)
  have F := ((Frg.nil w).box 42 #[s, .int .i64 j, t, .int .i64 k, .int .i64 fk, .float .f32 a, .float .f32 b, .float .f32 c, .float .f32 p, .float .f32 q, .float .f32 m, .float .f32 o]).box 42 #[sZ, .int .i64 jZ, tZ, .int .i64 kZ, .int .i64 fkZ, .float .f32 aZ, .float .f32 bZ, .float .f32 cZ, .float .f32 pZ, .float .f32 qZ, .float .f32 mZ, .float .f32 oZ]
  simp only [World.size_alloc] at F
  clear hs ht wf hf hsZ htZ wfZ hfZ
  go_enter Try.func48, Try.ntmps48
  go_wp2_with (first | ((with_reducible refine listN F ?_); clear F; intro wN F) | ((with_reducible refine at_loadU rfl rfl ?_); (with_reducible refine wpList_loadG F rfl rfl rfl (by first | exact m0 | exact m1 | exact m2) Try.underlying42 rfl uinfoBowI rfl ?_)) | (go_at_call 88; ((with_reducible refine (HV.out _ F.below).mono ?_); rintro e w1 ⟨rfl, hl⟩; replace F := F.le hl; clear hl)))
  go_ret
  exact ⟨rfl, F.below⟩
set_option maxRecDepth 100000 in
set_option maxHeartbeats 4000000 in
theorem s_l05SameBow (x y : Nat → Nat) (nx ny : Nat) (j k : Int) (fk : Int) (a b c p q : Nat) (m o : Nat) (xZ yZ : Nat → Nat) (nxZ nyZ : Nat) (jZ kZ : Int) (fkZ : Int) (aZ bZ cZ pZ qZ : Nat) (mZ oZ : Nat) (B BZ : Nat) (s t sZ tZ : Value) (w : World) (g0 gZ : Nat) (RR : Row w g0 42 #[s, .int .i64 j, t, .int .i64 k, .int .i64 fk, .float .f32 a, .float .f32 b, .float .f32 c, .float .f32 p, .float .f32 q, .float .f32 m, .float .f32 o]) (RZ : Row w gZ 42 #[sZ, .int .i64 jZ, tZ, .int .i64 kZ, .int .i64 fkZ, .float .f32 aZ, .float .f32 bZ, .float .f32 cZ, .float .f32 pZ, .float .f32 qZ, .float .f32 mZ, .float .f32 oZ]) (hs : (slT x nx).RdN w B s) (ht : (slT y ny).RdN w B t) (wf : (Lit.int .i64 j).wf = true ∧ (Lit.int .i64 k).wf = true) (hf : (fits .f32 a ∧ fits .f32 b ∧ fits .f32 c ∧ fits .f32 p ∧ fits .f32 q ∧ fits .f32 m ∧ fits .f32 o)) (hsZ : (slT xZ nxZ).RdN w BZ sZ) (htZ : (slT yZ nyZ).RdN w BZ tZ) (wfZ : (Lit.int .i64 jZ).wf = true ∧ (Lit.int .i64 kZ).wf = true) (hfZ : (fits .f32 aZ ∧ fits .f32 bZ ∧ fits .f32 cZ ∧ fits .f32 pZ ∧ fits .f32 qZ ∧ fits .f32 mZ ∧ fits .f32 oZ)) :
    Calls Try.prog 87 #[.pointer (some ⟨g0, 0, none⟩), .pointer (some ⟨gZ, 0, none⟩)] w (Out_b (sameBow x y nx ny j k fk a b c p q m o xZ yZ nxZ nyZ jZ kZ fkZ aZ bZ cZ pZ qZ mZ oZ) w) := by
  obtain ⟨wj, wk⟩ := wf
  obtain ⟨wjZ, wkZ⟩ := wfZ
  have hRw := hid (fun (w1 : World) (h1 : le w w1) => RR.le h1); have hRz := hid (fun (w1 : World) (h1 : le w w1) => RZ.le h1)
  have HRG := hid (fun (gA gB : Nat) (w' : World) (h : le w w') (R : Row w' gA 36 #[s, .int .i64 j, t, .int .i64 k]) (R1 : Row w' gB 36 #[sZ, .int .i64 jZ, tZ, .int .i64 kZ]) => s_l04SameRings _ _ _ _ _ _ 2 2 w' (rg2_rd (hs.le h) (ht.le h) wj wk R) (rg2_rd (hsZ.le h) (htZ.le h) wjZ wkZ R1) (rg2_ok x y nx ny j k) (rg2_ok xZ yZ nxZ nyZ jZ kZ))
  have HF0 := hid (fun (w' : World) (hl : le w w') => s_l02SameAt fk a b c p q fkZ aZ bZ cZ pZ qZ g0 gZ 4 4 w' ⟨(hRw.out w' hl).cell? 4, fun i hi => by match i, hi with | 0, _ => exact (hRw.out w' hl).cell? 5 | 1, _ => exact (hRw.out w' hl).cell? 6 | 2, _ => exact (hRw.out w' hl).cell? 7, fun i hi => by match i, hi with | 0, _ => exact (hRw.out w' hl).cell? 8 | 1, _ => exact (hRw.out w' hl).cell? 9⟩ ⟨(hRz.out w' hl).cell? 4, fun i hi => by match i, hi with | 0, _ => exact (hRz.out w' hl).cell? 5 | 1, _ => exact (hRz.out w' hl).cell? 6 | 2, _ => exact (hRz.out w' hl).cell? 7, fun i hi => by match i, hi with | 0, _ => exact (hRz.out w' hl).cell? 8 | 1, _ => exact (hRz.out w' hl).cell? 9⟩)
  clear hs ht hsZ htZ wj wk wjZ wkZ RR RZ hf hfZ
  change Calls _ _ _ _ (Out_b (sameRgs (rg2 x y nx ny j k) (rg2 xZ yZ nxZ nyZ jZ kZ) 2 2 && sameFl fk a b c p q fkZ aZ bZ cZ pZ qZ && sameB m mZ && sameB o oZ) w)
  rcases bool_ft (sameRgs (rg2 x y nx ny j k) (rg2 xZ yZ nxZ nyZ jZ kZ) 2 2) with h0 | h0
  · have hc0 := hid h0
    have E := hid (show (sameRgs (rg2 x y nx ny j k) (rg2 xZ yZ nxZ nyZ jZ kZ) 2 2 && sameFl fk a b c p q fkZ aZ bZ cZ pZ qZ && sameB m mZ && sameB o oZ) = false by simp [h0])
    clear h0
    go_enter Try.func87, Try.ntmps87
    go_wp2_with fail
    refine region_freeD (E := leX) (fun f args _ v => if f = 115 then v = .bool false else if f = 116 then (args = #[.pointer (some ⟨g0, 4, none⟩), .pointer (some ⟨gZ, 4, none⟩)] → v = .bool false) else (args = #[.float .f32 m, .float .f32 mZ] → v = .bool (sameB m mZ)) ∧ (args = #[.float .f32 o, .float .f32 oZ] → v = .bool (sameB o oZ))) (by kernel_rfl) (by kernel_rfl) ?_
    refine wpFreeD_one rfl (.pointer (some ⟨g0, 0, none⟩)) (fun w1 _ => by kernel_rfl) ?_
    simp only [Act.put, List.setIfInBounds_toArray, List.set_cons_succ, List.set_cons_zero]
    refine wpFreeD_one rfl (.pointer (some ⟨g0, 0, none⟩)) (fun w1 _ => by kernel_rfl) ?_
    simp only [Act.put, List.setIfInBounds_toArray, List.set_cons_succ, List.set_cons_zero]
    refine wpFreeD_one rfl (.pointer (some ⟨g0, 0, none⟩)) (fun w1 _ => by kernel_rfl) ?_
    simp only [Act.put, List.setIfInBounds_toArray, List.set_cons_succ, List.set_cons_zero]
    refine wpFreeD_loadW rfl rfl rfl [s, .int .i64 j] (fun w1 h1 => Row.at_part (hRw.out w1 (le_trans (le_drewN _ _) h1)) (partBow_Neck (s) (.int .i64 j) (t) (.int .i64 k) (.int .i64 fk) (.float .f32 a) (.float .f32 b) (.float .f32 c) (.float .f32 p) (.float .f32 q) (.float .f32 m) (.float .f32 o))) Try.underlying36 rfl uinfoRingI rfl ?_
    simp only [Act.put, List.setIfInBounds_toArray, List.set_cons_succ, List.set_cons_zero]
    refine wpFreeD_one rfl (.pointer (some ⟨g0, 0, none⟩)) (fun w1 _ => by kernel_rfl) ?_
    simp only [Act.put, List.setIfInBounds_toArray, List.set_cons_succ, List.set_cons_zero]
    refine wpFreeD_one rfl (.pointer (some ⟨g0, 0, none⟩)) (fun w1 _ => by kernel_rfl) ?_
    simp only [Act.put, List.setIfInBounds_toArray, List.set_cons_succ, List.set_cons_zero]
    refine wpFreeD_one rfl (.pointer (some ⟨g0, 2, none⟩)) (fun w1 _ => by kernel_rfl) ?_
    simp only [Act.put, List.setIfInBounds_toArray, List.set_cons_succ, List.set_cons_zero]
    refine wpFreeD_loadW rfl rfl rfl [t, .int .i64 k] (fun w1 h1 => Row.at_part (hRw.out w1 (le_trans (le_drewN _ _) h1)) (partBow_Bridge (s) (.int .i64 j) (t) (.int .i64 k) (.int .i64 fk) (.float .f32 a) (.float .f32 b) (.float .f32 c) (.float .f32 p) (.float .f32 q) (.float .f32 m) (.float .f32 o))) Try.underlying36 rfl uinfoRingI rfl ?_
    simp only [Act.put, List.setIfInBounds_toArray, List.set_cons_succ, List.set_cons_zero]
    refine wpFreeD_madeW (by kernel_rfl) (fun b => .slice (some ⟨b, 0, none⟩) 2 2) 36 #[s, .int .i64 j, t, .int .i64 k] (fun w1 => by kernel_rfl) (fun bg0 => ?_)
    simp only [Act.put, List.setIfInBounds_toArray, List.set_cons_succ, List.set_cons_zero]
    refine wpFreeD_one rfl (.pointer (some ⟨gZ, 0, none⟩)) (fun w1 _ => by kernel_rfl) ?_
    simp only [Act.put, List.setIfInBounds_toArray, List.set_cons_succ, List.set_cons_zero]
    refine wpFreeD_one rfl (.pointer (some ⟨gZ, 0, none⟩)) (fun w1 _ => by kernel_rfl) ?_
    simp only [Act.put, List.setIfInBounds_toArray, List.set_cons_succ, List.set_cons_zero]
    refine wpFreeD_one rfl (.pointer (some ⟨gZ, 0, none⟩)) (fun w1 _ => by kernel_rfl) ?_
    simp only [Act.put, List.setIfInBounds_toArray, List.set_cons_succ, List.set_cons_zero]
    refine wpFreeD_loadW rfl rfl rfl [sZ, .int .i64 jZ] (fun w1 h1 => Row.at_part (hRz.out w1 (le_trans (le_drewN _ _) h1)) (partBow_Neck (sZ) (.int .i64 jZ) (tZ) (.int .i64 kZ) (.int .i64 fkZ) (.float .f32 aZ) (.float .f32 bZ) (.float .f32 cZ) (.float .f32 pZ) (.float .f32 qZ) (.float .f32 mZ) (.float .f32 oZ))) Try.underlying36 rfl uinfoRingI rfl ?_
    simp only [Act.put, List.setIfInBounds_toArray, List.set_cons_succ, List.set_cons_zero]
    refine wpFreeD_one rfl (.pointer (some ⟨gZ, 0, none⟩)) (fun w1 _ => by kernel_rfl) ?_
    simp only [Act.put, List.setIfInBounds_toArray, List.set_cons_succ, List.set_cons_zero]
    refine wpFreeD_one rfl (.pointer (some ⟨gZ, 0, none⟩)) (fun w1 _ => by kernel_rfl) ?_
    simp only [Act.put, List.setIfInBounds_toArray, List.set_cons_succ, List.set_cons_zero]
    refine wpFreeD_one rfl (.pointer (some ⟨gZ, 2, none⟩)) (fun w1 _ => by kernel_rfl) ?_
    simp only [Act.put, List.setIfInBounds_toArray, List.set_cons_succ, List.set_cons_zero]
    refine wpFreeD_loadW rfl rfl rfl [tZ, .int .i64 kZ] (fun w1 h1 => Row.at_part (hRz.out w1 (le_trans (le_drewN _ _) h1)) (partBow_Bridge (sZ) (.int .i64 jZ) (tZ) (.int .i64 kZ) (.int .i64 fkZ) (.float .f32 aZ) (.float .f32 bZ) (.float .f32 cZ) (.float .f32 pZ) (.float .f32 qZ) (.float .f32 mZ) (.float .f32 oZ))) Try.underlying36 rfl uinfoRingI rfl ?_
    simp only [Act.put, List.setIfInBounds_toArray, List.set_cons_succ, List.set_cons_zero]
    refine wpFreeD_madeW (by kernel_rfl) (fun b => .slice (some ⟨b, 0, none⟩) 2 2) 36 #[sZ, .int .i64 jZ, tZ, .int .i64 kZ] (fun w1 => by kernel_rfl) (fun bgZ => ?_)
    simp only [Act.put, List.setIfInBounds_toArray, List.set_cons_succ, List.set_cons_zero]
    refine wpFreeD_callW (by kernel_rfl) rfl Try.func115 (by kernel_rfl) (by kernel_rfl) (args := #[.slice (some ⟨bg0, 0, none⟩) 2 2, .slice (some ⟨bgZ, 0, none⟩) 2 2]) (by simp [Act.eval]) (fun v w1 w2 hw hv => hv) (fun w1 hw1 hbe => ?_) ?_
    · obtain ⟨b', e1, hrow⟩ := (hbe ⟨8, Ground.data⟩ (by simp) (by kernel_rfl)).1.1.1.1.1.1.1.1.1.2 rfl
      obtain rfl : bg0 = b' := by simpa using e1
      obtain ⟨b'', e2, hrow2⟩ := (hbe ⟨17, Ground.data⟩ (by simp) (by kernel_rfl)).2 rfl
      obtain rfl : bgZ = b'' := by simpa using e2
      refine (HRG.out bg0 bgZ w1 (le_trans (le_drewN _ _) hw1) hrow hrow2).mono ?_
      rintro e w2 ⟨rfl, hl⟩
      exact ⟨_, rfl, hl, by simp only [if_true]; rw [hc0.out]⟩
    rintro v ⟨_, _, _, hv⟩
    simp only [if_true] at hv
    subst hv
    simp only [Act.put, List.setIfInBounds_toArray, List.set_cons_succ, List.set_cons_zero]
    refine wpFreeD_one rfl (.bool false) (fun w1 _ => by kernel_rfl) ?_
    simp only [Act.put, List.setIfInBounds_toArray, List.set_cons_succ, List.set_cons_zero]
    refine wpFreeD_skip (by kernel_rfl) ?_
    simp only [Act.put, List.setIfInBounds_toArray, List.set_cons_succ, List.set_cons_zero]
    refine wpFreeD_skip (by kernel_rfl) ?_
    simp only [Act.put, List.setIfInBounds_toArray, List.set_cons_succ, List.set_cons_zero]
    refine wpFreeD_skip (by kernel_rfl) ?_
    simp only [Act.put, List.setIfInBounds_toArray, List.set_cons_succ, List.set_cons_zero]
    refine wpFreeD_skip (by kernel_rfl) ?_
    simp only [Act.put, List.setIfInBounds_toArray, List.set_cons_succ, List.set_cons_zero]
    refine wpFreeD_skip (by kernel_rfl) ?_
    simp only [Act.put, List.setIfInBounds_toArray, List.set_cons_succ, List.set_cons_zero]
    refine wpFreeD_skip (by kernel_rfl) ?_
    simp only [Act.put, List.setIfInBounds_toArray, List.set_cons_succ, List.set_cons_zero]
    refine wpFreeD_skip (by kernel_rfl) ?_
    simp only [Act.put, List.setIfInBounds_toArray, List.set_cons_succ, List.set_cons_zero]
    refine wpFreeD_one rfl (.bool false) (fun w1 _ => by kernel_rfl) ?_
    simp only [Act.put, List.setIfInBounds_toArray, List.set_cons_succ, List.set_cons_zero]
    refine wpFreeD_one rfl (.bool false) (fun w1 _ => by kernel_rfl) ?_
    simp only [Act.put, List.setIfInBounds_toArray, List.set_cons_succ, List.set_cons_zero]
    refine wpFreeD_skip (by kernel_rfl) ?_
    simp only [Act.put, List.setIfInBounds_toArray, List.set_cons_succ, List.set_cons_zero]
    refine wpFreeD_skip (by kernel_rfl) ?_
    simp only [Act.put, List.setIfInBounds_toArray, List.set_cons_succ, List.set_cons_zero]
    refine wpFreeD_skip (by kernel_rfl) ?_
    simp only [Act.put, List.setIfInBounds_toArray, List.set_cons_succ, List.set_cons_zero]
    refine wpFreeD_skip (by kernel_rfl) ?_
    simp only [Act.put, List.setIfInBounds_toArray, List.set_cons_succ, List.set_cons_zero]
    refine wpFreeD_skip (by kernel_rfl) ?_
    simp only [Act.put, List.setIfInBounds_toArray, List.set_cons_succ, List.set_cons_zero]
    refine wpFreeD_skip (by kernel_rfl) ?_
    simp only [Act.put, List.setIfInBounds_toArray, List.set_cons_succ, List.set_cons_zero]
    refine wpFreeD_skip (by kernel_rfl) ?_
    simp only [Act.put, List.setIfInBounds_toArray, List.set_cons_succ, List.set_cons_zero]
    refine wpFreeD_skip (by kernel_rfl) ?_
    simp only [Act.put, List.setIfInBounds_toArray, List.set_cons_succ, List.set_cons_zero]
    refine wpFreeD_skip (by kernel_rfl) ?_
    simp only [Act.put, List.setIfInBounds_toArray, List.set_cons_succ, List.set_cons_zero]
    refine wpFreeD_one rfl (.bool false) (fun w1 _ => by kernel_rfl) ?_
    simp only [Act.put, List.setIfInBounds_toArray, List.set_cons_succ, List.set_cons_zero]
    refine wpFreeD_one rfl (.bool false) (fun w1 _ => by kernel_rfl) ?_
    simp only [Act.put, List.setIfInBounds_toArray, List.set_cons_succ, List.set_cons_zero]
    refine wpFreeD_skip (by kernel_rfl) ?_
    simp only [Act.put, List.setIfInBounds_toArray, List.set_cons_succ, List.set_cons_zero]
    refine wpFreeD_skip (by kernel_rfl) ?_
    simp only [Act.put, List.setIfInBounds_toArray, List.set_cons_succ, List.set_cons_zero]
    refine wpFreeD_skip (by kernel_rfl) ?_
    simp only [Act.put, List.setIfInBounds_toArray, List.set_cons_succ, List.set_cons_zero]
    refine wpFreeD_skip (by kernel_rfl) ?_
    simp only [Act.put, List.setIfInBounds_toArray, List.set_cons_succ, List.set_cons_zero]
    refine wpFreeD_skip (by kernel_rfl) ?_
    simp only [Act.put, List.setIfInBounds_toArray, List.set_cons_succ, List.set_cons_zero]
    refine wpFreeD_skip (by kernel_rfl) ?_
    simp only [Act.put, List.setIfInBounds_toArray, List.set_cons_succ, List.set_cons_zero]
    refine wpFreeD_skip (by kernel_rfl) ?_
    simp only [Act.put, List.setIfInBounds_toArray, List.set_cons_succ, List.set_cons_zero]
    refine wpFreeD_skip (by kernel_rfl) ?_
    simp only [Act.put, List.setIfInBounds_toArray, List.set_cons_succ, List.set_cons_zero]
    refine wpFreeD_skip (by kernel_rfl) ?_
    simp only [Act.put, List.setIfInBounds_toArray, List.set_cons_succ, List.set_cons_zero]
    refine wpFreeD_one rfl (.bool false) (fun w1 _ => by kernel_rfl) ?_
    simp only [Act.put, List.setIfInBounds_toArray, List.set_cons_succ, List.set_cons_zero]
    refine wpFreeD_one rfl (.bool false) (fun w1 _ => by kernel_rfl) ?_
    simp only [Act.put, List.setIfInBounds_toArray, List.set_cons_succ, List.set_cons_zero]
    refine wpFreeD_nil (fun wR hwR _ => ?_)
    have HL := hid (le_trans (le_drewN _ _) hwR)
    clear hwR
    go_wp2
    go_ret
    exact ⟨ret_b E.out.symm, HL.out⟩
  · have hc0 := hid h0; clear h0
    rcases bool_ft (sameFl fk a b c p q fkZ aZ bZ cZ pZ qZ) with h1 | h1
    · have hc1 := hid h1
      have E := hid (show (sameRgs (rg2 x y nx ny j k) (rg2 xZ yZ nxZ nyZ jZ kZ) 2 2 && sameFl fk a b c p q fkZ aZ bZ cZ pZ qZ && sameB m mZ && sameB o oZ) = false by simp [h1])
      clear h1
      go_enter Try.func87, Try.ntmps87
      go_wp2_with fail
      refine region_freeD (E := leX) (fun f args _ v => if f = 115 then v = .bool true else if f = 116 then (args = #[.pointer (some ⟨g0, 4, none⟩), .pointer (some ⟨gZ, 4, none⟩)] → v = .bool false) else (args = #[.float .f32 m, .float .f32 mZ] → v = .bool (sameB m mZ)) ∧ (args = #[.float .f32 o, .float .f32 oZ] → v = .bool (sameB o oZ))) (by kernel_rfl) (by kernel_rfl) ?_
      refine wpFreeD_one rfl (.pointer (some ⟨g0, 0, none⟩)) (fun w1 _ => by kernel_rfl) ?_
      simp only [Act.put, List.setIfInBounds_toArray, List.set_cons_succ, List.set_cons_zero]
      refine wpFreeD_one rfl (.pointer (some ⟨g0, 0, none⟩)) (fun w1 _ => by kernel_rfl) ?_
      simp only [Act.put, List.setIfInBounds_toArray, List.set_cons_succ, List.set_cons_zero]
      refine wpFreeD_one rfl (.pointer (some ⟨g0, 0, none⟩)) (fun w1 _ => by kernel_rfl) ?_
      simp only [Act.put, List.setIfInBounds_toArray, List.set_cons_succ, List.set_cons_zero]
      refine wpFreeD_loadW rfl rfl rfl [s, .int .i64 j] (fun w1 h1 => Row.at_part (hRw.out w1 (le_trans (le_drewN _ _) h1)) (partBow_Neck (s) (.int .i64 j) (t) (.int .i64 k) (.int .i64 fk) (.float .f32 a) (.float .f32 b) (.float .f32 c) (.float .f32 p) (.float .f32 q) (.float .f32 m) (.float .f32 o))) Try.underlying36 rfl uinfoRingI rfl ?_
      simp only [Act.put, List.setIfInBounds_toArray, List.set_cons_succ, List.set_cons_zero]
      refine wpFreeD_one rfl (.pointer (some ⟨g0, 0, none⟩)) (fun w1 _ => by kernel_rfl) ?_
      simp only [Act.put, List.setIfInBounds_toArray, List.set_cons_succ, List.set_cons_zero]
      refine wpFreeD_one rfl (.pointer (some ⟨g0, 0, none⟩)) (fun w1 _ => by kernel_rfl) ?_
      simp only [Act.put, List.setIfInBounds_toArray, List.set_cons_succ, List.set_cons_zero]
      refine wpFreeD_one rfl (.pointer (some ⟨g0, 2, none⟩)) (fun w1 _ => by kernel_rfl) ?_
      simp only [Act.put, List.setIfInBounds_toArray, List.set_cons_succ, List.set_cons_zero]
      refine wpFreeD_loadW rfl rfl rfl [t, .int .i64 k] (fun w1 h1 => Row.at_part (hRw.out w1 (le_trans (le_drewN _ _) h1)) (partBow_Bridge (s) (.int .i64 j) (t) (.int .i64 k) (.int .i64 fk) (.float .f32 a) (.float .f32 b) (.float .f32 c) (.float .f32 p) (.float .f32 q) (.float .f32 m) (.float .f32 o))) Try.underlying36 rfl uinfoRingI rfl ?_
      simp only [Act.put, List.setIfInBounds_toArray, List.set_cons_succ, List.set_cons_zero]
      refine wpFreeD_madeW (by kernel_rfl) (fun b => .slice (some ⟨b, 0, none⟩) 2 2) 36 #[s, .int .i64 j, t, .int .i64 k] (fun w1 => by kernel_rfl) (fun bg0 => ?_)
      simp only [Act.put, List.setIfInBounds_toArray, List.set_cons_succ, List.set_cons_zero]
      refine wpFreeD_one rfl (.pointer (some ⟨gZ, 0, none⟩)) (fun w1 _ => by kernel_rfl) ?_
      simp only [Act.put, List.setIfInBounds_toArray, List.set_cons_succ, List.set_cons_zero]
      refine wpFreeD_one rfl (.pointer (some ⟨gZ, 0, none⟩)) (fun w1 _ => by kernel_rfl) ?_
      simp only [Act.put, List.setIfInBounds_toArray, List.set_cons_succ, List.set_cons_zero]
      refine wpFreeD_one rfl (.pointer (some ⟨gZ, 0, none⟩)) (fun w1 _ => by kernel_rfl) ?_
      simp only [Act.put, List.setIfInBounds_toArray, List.set_cons_succ, List.set_cons_zero]
      refine wpFreeD_loadW rfl rfl rfl [sZ, .int .i64 jZ] (fun w1 h1 => Row.at_part (hRz.out w1 (le_trans (le_drewN _ _) h1)) (partBow_Neck (sZ) (.int .i64 jZ) (tZ) (.int .i64 kZ) (.int .i64 fkZ) (.float .f32 aZ) (.float .f32 bZ) (.float .f32 cZ) (.float .f32 pZ) (.float .f32 qZ) (.float .f32 mZ) (.float .f32 oZ))) Try.underlying36 rfl uinfoRingI rfl ?_
      simp only [Act.put, List.setIfInBounds_toArray, List.set_cons_succ, List.set_cons_zero]
      refine wpFreeD_one rfl (.pointer (some ⟨gZ, 0, none⟩)) (fun w1 _ => by kernel_rfl) ?_
      simp only [Act.put, List.setIfInBounds_toArray, List.set_cons_succ, List.set_cons_zero]
      refine wpFreeD_one rfl (.pointer (some ⟨gZ, 0, none⟩)) (fun w1 _ => by kernel_rfl) ?_
      simp only [Act.put, List.setIfInBounds_toArray, List.set_cons_succ, List.set_cons_zero]
      refine wpFreeD_one rfl (.pointer (some ⟨gZ, 2, none⟩)) (fun w1 _ => by kernel_rfl) ?_
      simp only [Act.put, List.setIfInBounds_toArray, List.set_cons_succ, List.set_cons_zero]
      refine wpFreeD_loadW rfl rfl rfl [tZ, .int .i64 kZ] (fun w1 h1 => Row.at_part (hRz.out w1 (le_trans (le_drewN _ _) h1)) (partBow_Bridge (sZ) (.int .i64 jZ) (tZ) (.int .i64 kZ) (.int .i64 fkZ) (.float .f32 aZ) (.float .f32 bZ) (.float .f32 cZ) (.float .f32 pZ) (.float .f32 qZ) (.float .f32 mZ) (.float .f32 oZ))) Try.underlying36 rfl uinfoRingI rfl ?_
      simp only [Act.put, List.setIfInBounds_toArray, List.set_cons_succ, List.set_cons_zero]
      refine wpFreeD_madeW (by kernel_rfl) (fun b => .slice (some ⟨b, 0, none⟩) 2 2) 36 #[sZ, .int .i64 jZ, tZ, .int .i64 kZ] (fun w1 => by kernel_rfl) (fun bgZ => ?_)
      simp only [Act.put, List.setIfInBounds_toArray, List.set_cons_succ, List.set_cons_zero]
      refine wpFreeD_callW (by kernel_rfl) rfl Try.func115 (by kernel_rfl) (by kernel_rfl) (args := #[.slice (some ⟨bg0, 0, none⟩) 2 2, .slice (some ⟨bgZ, 0, none⟩) 2 2]) (by simp [Act.eval]) (fun v w1 w2 hw hv => hv) (fun w1 hw1 hbe => ?_) ?_
      · obtain ⟨b', e1, hrow⟩ := (hbe ⟨8, Ground.data⟩ (by simp) (by kernel_rfl)).1.1.1.1.1.1.1.1.1.2 rfl
        obtain rfl : bg0 = b' := by simpa using e1
        obtain ⟨b'', e2, hrow2⟩ := (hbe ⟨17, Ground.data⟩ (by simp) (by kernel_rfl)).2 rfl
        obtain rfl : bgZ = b'' := by simpa using e2
        refine (HRG.out bg0 bgZ w1 (le_trans (le_drewN _ _) hw1) hrow hrow2).mono ?_
        rintro e w2 ⟨rfl, hl⟩
        exact ⟨_, rfl, hl, by simp only [if_true]; rw [hc0.out]⟩
      rintro v ⟨_, _, _, hv⟩
      simp only [if_true] at hv
      subst hv
      simp only [Act.put, List.setIfInBounds_toArray, List.set_cons_succ, List.set_cons_zero]
      refine wpFreeD_one rfl (.bool true) (fun w1 _ => by kernel_rfl) ?_
      simp only [Act.put, List.setIfInBounds_toArray, List.set_cons_succ, List.set_cons_zero]
      refine wpFreeD_oneW (by kernel_rfl) (.pointer (some ⟨g0, 0, none⟩)) (fun w1 _ => by kernel_rfl) ?_
      simp only [Act.put, List.setIfInBounds_toArray, List.set_cons_succ, List.set_cons_zero]
      refine wpFreeD_oneW (by kernel_rfl) (.pointer (some ⟨g0, 0, none⟩)) (fun w1 _ => by kernel_rfl) ?_
      simp only [Act.put, List.setIfInBounds_toArray, List.set_cons_succ, List.set_cons_zero]
      refine wpFreeD_oneW (by kernel_rfl) (.pointer (some ⟨g0, 4, none⟩)) (fun w1 _ => by kernel_rfl) ?_
      simp only [Act.put, List.setIfInBounds_toArray, List.set_cons_succ, List.set_cons_zero]
      refine wpFreeD_oneW (by kernel_rfl) (.pointer (some ⟨gZ, 0, none⟩)) (fun w1 _ => by kernel_rfl) ?_
      simp only [Act.put, List.setIfInBounds_toArray, List.set_cons_succ, List.set_cons_zero]
      refine wpFreeD_oneW (by kernel_rfl) (.pointer (some ⟨gZ, 0, none⟩)) (fun w1 _ => by kernel_rfl) ?_
      simp only [Act.put, List.setIfInBounds_toArray, List.set_cons_succ, List.set_cons_zero]
      refine wpFreeD_oneW (by kernel_rfl) (.pointer (some ⟨gZ, 4, none⟩)) (fun w1 _ => by kernel_rfl) ?_
      simp only [Act.put, List.setIfInBounds_toArray, List.set_cons_succ, List.set_cons_zero]
      refine wpFreeD_callW (by kernel_rfl) rfl Try.func116 (by kernel_rfl) (by kernel_rfl) (args := #[.pointer (some ⟨g0, 4, none⟩), .pointer (some ⟨gZ, 4, none⟩)]) (by simp [Act.eval]) (fun v w1 w2 hw hv => hv) (fun w1 hw1 _ => (HF0.out w1 (le_trans (le_drewN _ _) hw1)).mono ?_) ?_
      · rintro e w2 ⟨rfl, q9, rfl⟩
        refine ⟨_, rfl, le_drewN _ _, ?_⟩
        have hcu := hc1.out
        unfold sameFl at hcu
        simp only [show ¬ (116 = 115) by decide, if_false, if_true]
        rw [hcu]
        exact fun _ => by first | rfl | trivial
      rintro v ⟨_, _, _, hv⟩
      simp only [show ¬ (116 = 115) by decide, if_false, if_true] at hv
      obtain rfl := hv (by first | rfl | trivial)
      simp only [Act.put, List.setIfInBounds_toArray, List.set_cons_succ, List.set_cons_zero]
      refine wpFreeD_one rfl (.bool false) (fun w1 _ => by kernel_rfl) ?_
      simp only [Act.put, List.setIfInBounds_toArray, List.set_cons_succ, List.set_cons_zero]
      refine wpFreeD_one rfl (.bool false) (fun w1 _ => by kernel_rfl) ?_
      simp only [Act.put, List.setIfInBounds_toArray, List.set_cons_succ, List.set_cons_zero]
      refine wpFreeD_skip (by kernel_rfl) ?_
      simp only [Act.put, List.setIfInBounds_toArray, List.set_cons_succ, List.set_cons_zero]
      refine wpFreeD_skip (by kernel_rfl) ?_
      simp only [Act.put, List.setIfInBounds_toArray, List.set_cons_succ, List.set_cons_zero]
      refine wpFreeD_skip (by kernel_rfl) ?_
      simp only [Act.put, List.setIfInBounds_toArray, List.set_cons_succ, List.set_cons_zero]
      refine wpFreeD_skip (by kernel_rfl) ?_
      simp only [Act.put, List.setIfInBounds_toArray, List.set_cons_succ, List.set_cons_zero]
      refine wpFreeD_skip (by kernel_rfl) ?_
      simp only [Act.put, List.setIfInBounds_toArray, List.set_cons_succ, List.set_cons_zero]
      refine wpFreeD_skip (by kernel_rfl) ?_
      simp only [Act.put, List.setIfInBounds_toArray, List.set_cons_succ, List.set_cons_zero]
      refine wpFreeD_skip (by kernel_rfl) ?_
      simp only [Act.put, List.setIfInBounds_toArray, List.set_cons_succ, List.set_cons_zero]
      refine wpFreeD_skip (by kernel_rfl) ?_
      simp only [Act.put, List.setIfInBounds_toArray, List.set_cons_succ, List.set_cons_zero]
      refine wpFreeD_skip (by kernel_rfl) ?_
      simp only [Act.put, List.setIfInBounds_toArray, List.set_cons_succ, List.set_cons_zero]
      refine wpFreeD_one rfl (.bool false) (fun w1 _ => by kernel_rfl) ?_
      simp only [Act.put, List.setIfInBounds_toArray, List.set_cons_succ, List.set_cons_zero]
      refine wpFreeD_one rfl (.bool false) (fun w1 _ => by kernel_rfl) ?_
      simp only [Act.put, List.setIfInBounds_toArray, List.set_cons_succ, List.set_cons_zero]
      refine wpFreeD_skip (by kernel_rfl) ?_
      simp only [Act.put, List.setIfInBounds_toArray, List.set_cons_succ, List.set_cons_zero]
      refine wpFreeD_skip (by kernel_rfl) ?_
      simp only [Act.put, List.setIfInBounds_toArray, List.set_cons_succ, List.set_cons_zero]
      refine wpFreeD_skip (by kernel_rfl) ?_
      simp only [Act.put, List.setIfInBounds_toArray, List.set_cons_succ, List.set_cons_zero]
      refine wpFreeD_skip (by kernel_rfl) ?_
      simp only [Act.put, List.setIfInBounds_toArray, List.set_cons_succ, List.set_cons_zero]
      refine wpFreeD_skip (by kernel_rfl) ?_
      simp only [Act.put, List.setIfInBounds_toArray, List.set_cons_succ, List.set_cons_zero]
      refine wpFreeD_skip (by kernel_rfl) ?_
      simp only [Act.put, List.setIfInBounds_toArray, List.set_cons_succ, List.set_cons_zero]
      refine wpFreeD_skip (by kernel_rfl) ?_
      simp only [Act.put, List.setIfInBounds_toArray, List.set_cons_succ, List.set_cons_zero]
      refine wpFreeD_skip (by kernel_rfl) ?_
      simp only [Act.put, List.setIfInBounds_toArray, List.set_cons_succ, List.set_cons_zero]
      refine wpFreeD_skip (by kernel_rfl) ?_
      simp only [Act.put, List.setIfInBounds_toArray, List.set_cons_succ, List.set_cons_zero]
      refine wpFreeD_one rfl (.bool false) (fun w1 _ => by kernel_rfl) ?_
      simp only [Act.put, List.setIfInBounds_toArray, List.set_cons_succ, List.set_cons_zero]
      refine wpFreeD_one rfl (.bool false) (fun w1 _ => by kernel_rfl) ?_
      simp only [Act.put, List.setIfInBounds_toArray, List.set_cons_succ, List.set_cons_zero]
      refine wpFreeD_nil (fun wR hwR _ => ?_)
      have HL := hid (le_trans (le_drewN _ _) hwR)
      clear hwR
      go_wp2
      go_ret
      exact ⟨ret_b E.out.symm, HL.out⟩
    · have hc1 := hid h1; clear h1
      rcases bool_ft (sameB m mZ) with h2 | h2
      · have hc2 := hid h2
        have E := hid (show (sameRgs (rg2 x y nx ny j k) (rg2 xZ yZ nxZ nyZ jZ kZ) 2 2 && sameFl fk a b c p q fkZ aZ bZ cZ pZ qZ && sameB m mZ && sameB o oZ) = false by simp [h2])
        clear h2
        go_enter Try.func87, Try.ntmps87
        go_wp2_with fail
        refine region_freeD (E := leX) (fun f args _ v => if f = 115 then v = .bool true else if f = 116 then (args = #[.pointer (some ⟨g0, 4, none⟩), .pointer (some ⟨gZ, 4, none⟩)] → v = .bool true) else (args = #[.float .f32 m, .float .f32 mZ] → v = .bool (sameB m mZ)) ∧ (args = #[.float .f32 o, .float .f32 oZ] → v = .bool (sameB o oZ))) (by kernel_rfl) (by kernel_rfl) ?_
        refine wpFreeD_one rfl (.pointer (some ⟨g0, 0, none⟩)) (fun w1 _ => by kernel_rfl) ?_
        simp only [Act.put, List.setIfInBounds_toArray, List.set_cons_succ, List.set_cons_zero]
        refine wpFreeD_one rfl (.pointer (some ⟨g0, 0, none⟩)) (fun w1 _ => by kernel_rfl) ?_
        simp only [Act.put, List.setIfInBounds_toArray, List.set_cons_succ, List.set_cons_zero]
        refine wpFreeD_one rfl (.pointer (some ⟨g0, 0, none⟩)) (fun w1 _ => by kernel_rfl) ?_
        simp only [Act.put, List.setIfInBounds_toArray, List.set_cons_succ, List.set_cons_zero]
        refine wpFreeD_loadW rfl rfl rfl [s, .int .i64 j] (fun w1 h1 => Row.at_part (hRw.out w1 (le_trans (le_drewN _ _) h1)) (partBow_Neck (s) (.int .i64 j) (t) (.int .i64 k) (.int .i64 fk) (.float .f32 a) (.float .f32 b) (.float .f32 c) (.float .f32 p) (.float .f32 q) (.float .f32 m) (.float .f32 o))) Try.underlying36 rfl uinfoRingI rfl ?_
        simp only [Act.put, List.setIfInBounds_toArray, List.set_cons_succ, List.set_cons_zero]
        refine wpFreeD_one rfl (.pointer (some ⟨g0, 0, none⟩)) (fun w1 _ => by kernel_rfl) ?_
        simp only [Act.put, List.setIfInBounds_toArray, List.set_cons_succ, List.set_cons_zero]
        refine wpFreeD_one rfl (.pointer (some ⟨g0, 0, none⟩)) (fun w1 _ => by kernel_rfl) ?_
        simp only [Act.put, List.setIfInBounds_toArray, List.set_cons_succ, List.set_cons_zero]
        refine wpFreeD_one rfl (.pointer (some ⟨g0, 2, none⟩)) (fun w1 _ => by kernel_rfl) ?_
        simp only [Act.put, List.setIfInBounds_toArray, List.set_cons_succ, List.set_cons_zero]
        refine wpFreeD_loadW rfl rfl rfl [t, .int .i64 k] (fun w1 h1 => Row.at_part (hRw.out w1 (le_trans (le_drewN _ _) h1)) (partBow_Bridge (s) (.int .i64 j) (t) (.int .i64 k) (.int .i64 fk) (.float .f32 a) (.float .f32 b) (.float .f32 c) (.float .f32 p) (.float .f32 q) (.float .f32 m) (.float .f32 o))) Try.underlying36 rfl uinfoRingI rfl ?_
        simp only [Act.put, List.setIfInBounds_toArray, List.set_cons_succ, List.set_cons_zero]
        refine wpFreeD_madeW (by kernel_rfl) (fun b => .slice (some ⟨b, 0, none⟩) 2 2) 36 #[s, .int .i64 j, t, .int .i64 k] (fun w1 => by kernel_rfl) (fun bg0 => ?_)
        simp only [Act.put, List.setIfInBounds_toArray, List.set_cons_succ, List.set_cons_zero]
        refine wpFreeD_one rfl (.pointer (some ⟨gZ, 0, none⟩)) (fun w1 _ => by kernel_rfl) ?_
        simp only [Act.put, List.setIfInBounds_toArray, List.set_cons_succ, List.set_cons_zero]
        refine wpFreeD_one rfl (.pointer (some ⟨gZ, 0, none⟩)) (fun w1 _ => by kernel_rfl) ?_
        simp only [Act.put, List.setIfInBounds_toArray, List.set_cons_succ, List.set_cons_zero]
        refine wpFreeD_one rfl (.pointer (some ⟨gZ, 0, none⟩)) (fun w1 _ => by kernel_rfl) ?_
        simp only [Act.put, List.setIfInBounds_toArray, List.set_cons_succ, List.set_cons_zero]
        refine wpFreeD_loadW rfl rfl rfl [sZ, .int .i64 jZ] (fun w1 h1 => Row.at_part (hRz.out w1 (le_trans (le_drewN _ _) h1)) (partBow_Neck (sZ) (.int .i64 jZ) (tZ) (.int .i64 kZ) (.int .i64 fkZ) (.float .f32 aZ) (.float .f32 bZ) (.float .f32 cZ) (.float .f32 pZ) (.float .f32 qZ) (.float .f32 mZ) (.float .f32 oZ))) Try.underlying36 rfl uinfoRingI rfl ?_
        simp only [Act.put, List.setIfInBounds_toArray, List.set_cons_succ, List.set_cons_zero]
        refine wpFreeD_one rfl (.pointer (some ⟨gZ, 0, none⟩)) (fun w1 _ => by kernel_rfl) ?_
        simp only [Act.put, List.setIfInBounds_toArray, List.set_cons_succ, List.set_cons_zero]
        refine wpFreeD_one rfl (.pointer (some ⟨gZ, 0, none⟩)) (fun w1 _ => by kernel_rfl) ?_
        simp only [Act.put, List.setIfInBounds_toArray, List.set_cons_succ, List.set_cons_zero]
        refine wpFreeD_one rfl (.pointer (some ⟨gZ, 2, none⟩)) (fun w1 _ => by kernel_rfl) ?_
        simp only [Act.put, List.setIfInBounds_toArray, List.set_cons_succ, List.set_cons_zero]
        refine wpFreeD_loadW rfl rfl rfl [tZ, .int .i64 kZ] (fun w1 h1 => Row.at_part (hRz.out w1 (le_trans (le_drewN _ _) h1)) (partBow_Bridge (sZ) (.int .i64 jZ) (tZ) (.int .i64 kZ) (.int .i64 fkZ) (.float .f32 aZ) (.float .f32 bZ) (.float .f32 cZ) (.float .f32 pZ) (.float .f32 qZ) (.float .f32 mZ) (.float .f32 oZ))) Try.underlying36 rfl uinfoRingI rfl ?_
        simp only [Act.put, List.setIfInBounds_toArray, List.set_cons_succ, List.set_cons_zero]
        refine wpFreeD_madeW (by kernel_rfl) (fun b => .slice (some ⟨b, 0, none⟩) 2 2) 36 #[sZ, .int .i64 jZ, tZ, .int .i64 kZ] (fun w1 => by kernel_rfl) (fun bgZ => ?_)
        simp only [Act.put, List.setIfInBounds_toArray, List.set_cons_succ, List.set_cons_zero]
        refine wpFreeD_callW (by kernel_rfl) rfl Try.func115 (by kernel_rfl) (by kernel_rfl) (args := #[.slice (some ⟨bg0, 0, none⟩) 2 2, .slice (some ⟨bgZ, 0, none⟩) 2 2]) (by simp [Act.eval]) (fun v w1 w2 hw hv => hv) (fun w1 hw1 hbe => ?_) ?_
        · obtain ⟨b', e1, hrow⟩ := (hbe ⟨8, Ground.data⟩ (by simp) (by kernel_rfl)).1.1.1.1.1.1.1.1.1.2 rfl
          obtain rfl : bg0 = b' := by simpa using e1
          obtain ⟨b'', e2, hrow2⟩ := (hbe ⟨17, Ground.data⟩ (by simp) (by kernel_rfl)).2 rfl
          obtain rfl : bgZ = b'' := by simpa using e2
          refine (HRG.out bg0 bgZ w1 (le_trans (le_drewN _ _) hw1) hrow hrow2).mono ?_
          rintro e w2 ⟨rfl, hl⟩
          exact ⟨_, rfl, hl, by simp only [if_true]; rw [hc0.out]⟩
        rintro v ⟨_, _, _, hv⟩
        simp only [if_true] at hv
        subst hv
        simp only [Act.put, List.setIfInBounds_toArray, List.set_cons_succ, List.set_cons_zero]
        refine wpFreeD_one rfl (.bool true) (fun w1 _ => by kernel_rfl) ?_
        simp only [Act.put, List.setIfInBounds_toArray, List.set_cons_succ, List.set_cons_zero]
        refine wpFreeD_oneW (by kernel_rfl) (.pointer (some ⟨g0, 0, none⟩)) (fun w1 _ => by kernel_rfl) ?_
        simp only [Act.put, List.setIfInBounds_toArray, List.set_cons_succ, List.set_cons_zero]
        refine wpFreeD_oneW (by kernel_rfl) (.pointer (some ⟨g0, 0, none⟩)) (fun w1 _ => by kernel_rfl) ?_
        simp only [Act.put, List.setIfInBounds_toArray, List.set_cons_succ, List.set_cons_zero]
        refine wpFreeD_oneW (by kernel_rfl) (.pointer (some ⟨g0, 4, none⟩)) (fun w1 _ => by kernel_rfl) ?_
        simp only [Act.put, List.setIfInBounds_toArray, List.set_cons_succ, List.set_cons_zero]
        refine wpFreeD_oneW (by kernel_rfl) (.pointer (some ⟨gZ, 0, none⟩)) (fun w1 _ => by kernel_rfl) ?_
        simp only [Act.put, List.setIfInBounds_toArray, List.set_cons_succ, List.set_cons_zero]
        refine wpFreeD_oneW (by kernel_rfl) (.pointer (some ⟨gZ, 0, none⟩)) (fun w1 _ => by kernel_rfl) ?_
        simp only [Act.put, List.setIfInBounds_toArray, List.set_cons_succ, List.set_cons_zero]
        refine wpFreeD_oneW (by kernel_rfl) (.pointer (some ⟨gZ, 4, none⟩)) (fun w1 _ => by kernel_rfl) ?_
        simp only [Act.put, List.setIfInBounds_toArray, List.set_cons_succ, List.set_cons_zero]
        refine wpFreeD_callW (by kernel_rfl) rfl Try.func116 (by kernel_rfl) (by kernel_rfl) (args := #[.pointer (some ⟨g0, 4, none⟩), .pointer (some ⟨gZ, 4, none⟩)]) (by simp [Act.eval]) (fun v w1 w2 hw hv => hv) (fun w1 hw1 _ => (HF0.out w1 (le_trans (le_drewN _ _) hw1)).mono ?_) ?_
        · rintro e w2 ⟨rfl, q9, rfl⟩
          refine ⟨_, rfl, le_drewN _ _, ?_⟩
          have hcu := hc1.out
          unfold sameFl at hcu
          simp only [show ¬ (116 = 115) by decide, if_false, if_true]
          rw [hcu]
          exact fun _ => by first | rfl | trivial
        rintro v ⟨_, _, _, hv⟩
        simp only [show ¬ (116 = 115) by decide, if_false, if_true] at hv
        obtain rfl := hv (by first | rfl | trivial)
        simp only [Act.put, List.setIfInBounds_toArray, List.set_cons_succ, List.set_cons_zero]
        refine wpFreeD_one rfl (.bool true) (fun w1 _ => by kernel_rfl) ?_
        simp only [Act.put, List.setIfInBounds_toArray, List.set_cons_succ, List.set_cons_zero]
        refine wpFreeD_one rfl (.bool true) (fun w1 _ => by kernel_rfl) ?_
        simp only [Act.put, List.setIfInBounds_toArray, List.set_cons_succ, List.set_cons_zero]
        refine wpFreeD_oneW (by kernel_rfl) (.pointer (some ⟨g0, 0, none⟩)) (fun w1 _ => by kernel_rfl) ?_
        simp only [Act.put, List.setIfInBounds_toArray, List.set_cons_succ, List.set_cons_zero]
        refine wpFreeD_oneW (by kernel_rfl) (.pointer (some ⟨g0, 0, none⟩)) (fun w1 _ => by kernel_rfl) ?_
        simp only [Act.put, List.setIfInBounds_toArray, List.set_cons_succ, List.set_cons_zero]
        refine wpFreeD_oneW (by kernel_rfl) (.pointer (some ⟨g0, 10, none⟩)) (fun w1 _ => by kernel_rfl) ?_
        simp only [Act.put, List.setIfInBounds_toArray, List.set_cons_succ, List.set_cons_zero]
        refine wpFreeD_load1W (by kernel_rfl) rfl rfl (p := ⟨g0, 10, none⟩) (fun w1 h1 => (hRw.out w1 (le_trans (le_drewN _ _) h1)).cell? 10) ukindFloat32 ?_
        simp only [Act.put, List.setIfInBounds_toArray, List.set_cons_succ, List.set_cons_zero]
        refine wpFreeD_oneW (by kernel_rfl) (.pointer (some ⟨gZ, 0, none⟩)) (fun w1 _ => by kernel_rfl) ?_
        simp only [Act.put, List.setIfInBounds_toArray, List.set_cons_succ, List.set_cons_zero]
        refine wpFreeD_oneW (by kernel_rfl) (.pointer (some ⟨gZ, 0, none⟩)) (fun w1 _ => by kernel_rfl) ?_
        simp only [Act.put, List.setIfInBounds_toArray, List.set_cons_succ, List.set_cons_zero]
        refine wpFreeD_oneW (by kernel_rfl) (.pointer (some ⟨gZ, 10, none⟩)) (fun w1 _ => by kernel_rfl) ?_
        simp only [Act.put, List.setIfInBounds_toArray, List.set_cons_succ, List.set_cons_zero]
        refine wpFreeD_load1W (by kernel_rfl) rfl rfl (p := ⟨gZ, 10, none⟩) (fun w1 h1 => (hRz.out w1 (le_trans (le_drewN _ _) h1)).cell? 10) ukindFloat32 ?_
        simp only [Act.put, List.setIfInBounds_toArray, List.set_cons_succ, List.set_cons_zero]
        refine wpFreeD_callW (by kernel_rfl) rfl Try.func117 (by kernel_rfl) (by kernel_rfl) (args := #[.float .f32 m, .float .f32 mZ]) (by simp [Act.eval]) (fun v w1 w2 hw hv => hv) (fun w1 hw1 _ => (s_l01Same m mZ w1).mono ?_) ?_
        · rintro e w2 ⟨rfl, rfl⟩
          refine ⟨_, rfl, le_refl _, ?_⟩
          simp only [show ¬ (117 = 115) by decide, show ¬ (117 = 116) by decide, if_false]
          exact ⟨fun _ => by first | rfl | trivial, fun h => by (try simp at h); first | (obtain ⟨h1, h2⟩ := h; subst h1 h2; first | rfl | exact congrArg Value.bool hc2.out | trivial) | simp_all⟩
        rintro v ⟨_, _, _, hv⟩
        simp only [show ¬ (117 = 115) by decide, show ¬ (117 = 116) by decide, if_false] at hv
        obtain rfl := hv.1 (by first | rfl | trivial)
        simp only [Act.put, List.setIfInBounds_toArray, List.set_cons_succ, List.set_cons_zero]
        rw [hc2.out]
        refine wpFreeD_one rfl (.bool false) (fun w1 _ => by kernel_rfl) ?_
        simp only [Act.put, List.setIfInBounds_toArray, List.set_cons_succ, List.set_cons_zero]
        refine wpFreeD_one rfl (.bool false) (fun w1 _ => by kernel_rfl) ?_
        simp only [Act.put, List.setIfInBounds_toArray, List.set_cons_succ, List.set_cons_zero]
        refine wpFreeD_skip (by kernel_rfl) ?_
        simp only [Act.put, List.setIfInBounds_toArray, List.set_cons_succ, List.set_cons_zero]
        refine wpFreeD_skip (by kernel_rfl) ?_
        simp only [Act.put, List.setIfInBounds_toArray, List.set_cons_succ, List.set_cons_zero]
        refine wpFreeD_skip (by kernel_rfl) ?_
        simp only [Act.put, List.setIfInBounds_toArray, List.set_cons_succ, List.set_cons_zero]
        refine wpFreeD_skip (by kernel_rfl) ?_
        simp only [Act.put, List.setIfInBounds_toArray, List.set_cons_succ, List.set_cons_zero]
        refine wpFreeD_skip (by kernel_rfl) ?_
        simp only [Act.put, List.setIfInBounds_toArray, List.set_cons_succ, List.set_cons_zero]
        refine wpFreeD_skip (by kernel_rfl) ?_
        simp only [Act.put, List.setIfInBounds_toArray, List.set_cons_succ, List.set_cons_zero]
        refine wpFreeD_skip (by kernel_rfl) ?_
        simp only [Act.put, List.setIfInBounds_toArray, List.set_cons_succ, List.set_cons_zero]
        refine wpFreeD_skip (by kernel_rfl) ?_
        simp only [Act.put, List.setIfInBounds_toArray, List.set_cons_succ, List.set_cons_zero]
        refine wpFreeD_skip (by kernel_rfl) ?_
        simp only [Act.put, List.setIfInBounds_toArray, List.set_cons_succ, List.set_cons_zero]
        refine wpFreeD_one rfl (.bool false) (fun w1 _ => by kernel_rfl) ?_
        simp only [Act.put, List.setIfInBounds_toArray, List.set_cons_succ, List.set_cons_zero]
        refine wpFreeD_one rfl (.bool false) (fun w1 _ => by kernel_rfl) ?_
        simp only [Act.put, List.setIfInBounds_toArray, List.set_cons_succ, List.set_cons_zero]
        refine wpFreeD_nil (fun wR hwR _ => ?_)
        have HL := hid (le_trans (le_drewN _ _) hwR)
        clear hwR
        go_wp2
        go_ret
        exact ⟨ret_b E.out.symm, HL.out⟩
      · have hc2 := hid h2; clear h2
        have E := hid (show (sameRgs (rg2 x y nx ny j k) (rg2 xZ yZ nxZ nyZ jZ kZ) 2 2 && sameFl fk a b c p q fkZ aZ bZ cZ pZ qZ && sameB m mZ && sameB o oZ) = sameB o oZ by simp [show sameRgs (rg2 x y nx ny j k) (rg2 xZ yZ nxZ nyZ jZ kZ) 2 2 = true from hc0.out, show sameFl fk a b c p q fkZ aZ bZ cZ pZ qZ = true from hc1.out, show sameB m mZ = true from hc2.out])
        go_enter Try.func87, Try.ntmps87
        go_wp2_with fail
        refine region_freeD (E := leX) (fun f args _ v => if f = 115 then v = .bool true else if f = 116 then (args = #[.pointer (some ⟨g0, 4, none⟩), .pointer (some ⟨gZ, 4, none⟩)] → v = .bool true) else (args = #[.float .f32 m, .float .f32 mZ] → v = .bool (sameB m mZ)) ∧ (args = #[.float .f32 o, .float .f32 oZ] → v = .bool (sameB o oZ))) (by kernel_rfl) (by kernel_rfl) ?_
        refine wpFreeD_one rfl (.pointer (some ⟨g0, 0, none⟩)) (fun w1 _ => by kernel_rfl) ?_
        simp only [Act.put, List.setIfInBounds_toArray, List.set_cons_succ, List.set_cons_zero]
        refine wpFreeD_one rfl (.pointer (some ⟨g0, 0, none⟩)) (fun w1 _ => by kernel_rfl) ?_
        simp only [Act.put, List.setIfInBounds_toArray, List.set_cons_succ, List.set_cons_zero]
        refine wpFreeD_one rfl (.pointer (some ⟨g0, 0, none⟩)) (fun w1 _ => by kernel_rfl) ?_
        simp only [Act.put, List.setIfInBounds_toArray, List.set_cons_succ, List.set_cons_zero]
        refine wpFreeD_loadW rfl rfl rfl [s, .int .i64 j] (fun w1 h1 => Row.at_part (hRw.out w1 (le_trans (le_drewN _ _) h1)) (partBow_Neck (s) (.int .i64 j) (t) (.int .i64 k) (.int .i64 fk) (.float .f32 a) (.float .f32 b) (.float .f32 c) (.float .f32 p) (.float .f32 q) (.float .f32 m) (.float .f32 o))) Try.underlying36 rfl uinfoRingI rfl ?_
        simp only [Act.put, List.setIfInBounds_toArray, List.set_cons_succ, List.set_cons_zero]
        refine wpFreeD_one rfl (.pointer (some ⟨g0, 0, none⟩)) (fun w1 _ => by kernel_rfl) ?_
        simp only [Act.put, List.setIfInBounds_toArray, List.set_cons_succ, List.set_cons_zero]
        refine wpFreeD_one rfl (.pointer (some ⟨g0, 0, none⟩)) (fun w1 _ => by kernel_rfl) ?_
        simp only [Act.put, List.setIfInBounds_toArray, List.set_cons_succ, List.set_cons_zero]
        refine wpFreeD_one rfl (.pointer (some ⟨g0, 2, none⟩)) (fun w1 _ => by kernel_rfl) ?_
        simp only [Act.put, List.setIfInBounds_toArray, List.set_cons_succ, List.set_cons_zero]
        refine wpFreeD_loadW rfl rfl rfl [t, .int .i64 k] (fun w1 h1 => Row.at_part (hRw.out w1 (le_trans (le_drewN _ _) h1)) (partBow_Bridge (s) (.int .i64 j) (t) (.int .i64 k) (.int .i64 fk) (.float .f32 a) (.float .f32 b) (.float .f32 c) (.float .f32 p) (.float .f32 q) (.float .f32 m) (.float .f32 o))) Try.underlying36 rfl uinfoRingI rfl ?_
        simp only [Act.put, List.setIfInBounds_toArray, List.set_cons_succ, List.set_cons_zero]
        refine wpFreeD_madeW (by kernel_rfl) (fun b => .slice (some ⟨b, 0, none⟩) 2 2) 36 #[s, .int .i64 j, t, .int .i64 k] (fun w1 => by kernel_rfl) (fun bg0 => ?_)
        simp only [Act.put, List.setIfInBounds_toArray, List.set_cons_succ, List.set_cons_zero]
        refine wpFreeD_one rfl (.pointer (some ⟨gZ, 0, none⟩)) (fun w1 _ => by kernel_rfl) ?_
        simp only [Act.put, List.setIfInBounds_toArray, List.set_cons_succ, List.set_cons_zero]
        refine wpFreeD_one rfl (.pointer (some ⟨gZ, 0, none⟩)) (fun w1 _ => by kernel_rfl) ?_
        simp only [Act.put, List.setIfInBounds_toArray, List.set_cons_succ, List.set_cons_zero]
        refine wpFreeD_one rfl (.pointer (some ⟨gZ, 0, none⟩)) (fun w1 _ => by kernel_rfl) ?_
        simp only [Act.put, List.setIfInBounds_toArray, List.set_cons_succ, List.set_cons_zero]
        refine wpFreeD_loadW rfl rfl rfl [sZ, .int .i64 jZ] (fun w1 h1 => Row.at_part (hRz.out w1 (le_trans (le_drewN _ _) h1)) (partBow_Neck (sZ) (.int .i64 jZ) (tZ) (.int .i64 kZ) (.int .i64 fkZ) (.float .f32 aZ) (.float .f32 bZ) (.float .f32 cZ) (.float .f32 pZ) (.float .f32 qZ) (.float .f32 mZ) (.float .f32 oZ))) Try.underlying36 rfl uinfoRingI rfl ?_
        simp only [Act.put, List.setIfInBounds_toArray, List.set_cons_succ, List.set_cons_zero]
        refine wpFreeD_one rfl (.pointer (some ⟨gZ, 0, none⟩)) (fun w1 _ => by kernel_rfl) ?_
        simp only [Act.put, List.setIfInBounds_toArray, List.set_cons_succ, List.set_cons_zero]
        refine wpFreeD_one rfl (.pointer (some ⟨gZ, 0, none⟩)) (fun w1 _ => by kernel_rfl) ?_
        simp only [Act.put, List.setIfInBounds_toArray, List.set_cons_succ, List.set_cons_zero]
        refine wpFreeD_one rfl (.pointer (some ⟨gZ, 2, none⟩)) (fun w1 _ => by kernel_rfl) ?_
        simp only [Act.put, List.setIfInBounds_toArray, List.set_cons_succ, List.set_cons_zero]
        refine wpFreeD_loadW rfl rfl rfl [tZ, .int .i64 kZ] (fun w1 h1 => Row.at_part (hRz.out w1 (le_trans (le_drewN _ _) h1)) (partBow_Bridge (sZ) (.int .i64 jZ) (tZ) (.int .i64 kZ) (.int .i64 fkZ) (.float .f32 aZ) (.float .f32 bZ) (.float .f32 cZ) (.float .f32 pZ) (.float .f32 qZ) (.float .f32 mZ) (.float .f32 oZ))) Try.underlying36 rfl uinfoRingI rfl ?_
        simp only [Act.put, List.setIfInBounds_toArray, List.set_cons_succ, List.set_cons_zero]
        refine wpFreeD_madeW (by kernel_rfl) (fun b => .slice (some ⟨b, 0, none⟩) 2 2) 36 #[sZ, .int .i64 jZ, tZ, .int .i64 kZ] (fun w1 => by kernel_rfl) (fun bgZ => ?_)
        simp only [Act.put, List.setIfInBounds_toArray, List.set_cons_succ, List.set_cons_zero]
        refine wpFreeD_callW (by kernel_rfl) rfl Try.func115 (by kernel_rfl) (by kernel_rfl) (args := #[.slice (some ⟨bg0, 0, none⟩) 2 2, .slice (some ⟨bgZ, 0, none⟩) 2 2]) (by simp [Act.eval]) (fun v w1 w2 hw hv => hv) (fun w1 hw1 hbe => ?_) ?_
        · obtain ⟨b', e1, hrow⟩ := (hbe ⟨8, Ground.data⟩ (by simp) (by kernel_rfl)).1.1.1.1.1.1.1.1.1.2 rfl
          obtain rfl : bg0 = b' := by simpa using e1
          obtain ⟨b'', e2, hrow2⟩ := (hbe ⟨17, Ground.data⟩ (by simp) (by kernel_rfl)).2 rfl
          obtain rfl : bgZ = b'' := by simpa using e2
          refine (HRG.out bg0 bgZ w1 (le_trans (le_drewN _ _) hw1) hrow hrow2).mono ?_
          rintro e w2 ⟨rfl, hl⟩
          exact ⟨_, rfl, hl, by simp only [if_true]; rw [hc0.out]⟩
        rintro v ⟨_, _, _, hv⟩
        simp only [if_true] at hv
        subst hv
        simp only [Act.put, List.setIfInBounds_toArray, List.set_cons_succ, List.set_cons_zero]
        refine wpFreeD_one rfl (.bool true) (fun w1 _ => by kernel_rfl) ?_
        simp only [Act.put, List.setIfInBounds_toArray, List.set_cons_succ, List.set_cons_zero]
        refine wpFreeD_oneW (by kernel_rfl) (.pointer (some ⟨g0, 0, none⟩)) (fun w1 _ => by kernel_rfl) ?_
        simp only [Act.put, List.setIfInBounds_toArray, List.set_cons_succ, List.set_cons_zero]
        refine wpFreeD_oneW (by kernel_rfl) (.pointer (some ⟨g0, 0, none⟩)) (fun w1 _ => by kernel_rfl) ?_
        simp only [Act.put, List.setIfInBounds_toArray, List.set_cons_succ, List.set_cons_zero]
        refine wpFreeD_oneW (by kernel_rfl) (.pointer (some ⟨g0, 4, none⟩)) (fun w1 _ => by kernel_rfl) ?_
        simp only [Act.put, List.setIfInBounds_toArray, List.set_cons_succ, List.set_cons_zero]
        refine wpFreeD_oneW (by kernel_rfl) (.pointer (some ⟨gZ, 0, none⟩)) (fun w1 _ => by kernel_rfl) ?_
        simp only [Act.put, List.setIfInBounds_toArray, List.set_cons_succ, List.set_cons_zero]
        refine wpFreeD_oneW (by kernel_rfl) (.pointer (some ⟨gZ, 0, none⟩)) (fun w1 _ => by kernel_rfl) ?_
        simp only [Act.put, List.setIfInBounds_toArray, List.set_cons_succ, List.set_cons_zero]
        refine wpFreeD_oneW (by kernel_rfl) (.pointer (some ⟨gZ, 4, none⟩)) (fun w1 _ => by kernel_rfl) ?_
        simp only [Act.put, List.setIfInBounds_toArray, List.set_cons_succ, List.set_cons_zero]
        refine wpFreeD_callW (by kernel_rfl) rfl Try.func116 (by kernel_rfl) (by kernel_rfl) (args := #[.pointer (some ⟨g0, 4, none⟩), .pointer (some ⟨gZ, 4, none⟩)]) (by simp [Act.eval]) (fun v w1 w2 hw hv => hv) (fun w1 hw1 _ => (HF0.out w1 (le_trans (le_drewN _ _) hw1)).mono ?_) ?_
        · rintro e w2 ⟨rfl, q9, rfl⟩
          refine ⟨_, rfl, le_drewN _ _, ?_⟩
          have hcu := hc1.out
          unfold sameFl at hcu
          simp only [show ¬ (116 = 115) by decide, if_false, if_true]
          rw [hcu]
          exact fun _ => by first | rfl | trivial
        rintro v ⟨_, _, _, hv⟩
        simp only [show ¬ (116 = 115) by decide, if_false, if_true] at hv
        obtain rfl := hv (by first | rfl | trivial)
        simp only [Act.put, List.setIfInBounds_toArray, List.set_cons_succ, List.set_cons_zero]
        refine wpFreeD_one rfl (.bool true) (fun w1 _ => by kernel_rfl) ?_
        simp only [Act.put, List.setIfInBounds_toArray, List.set_cons_succ, List.set_cons_zero]
        refine wpFreeD_one rfl (.bool true) (fun w1 _ => by kernel_rfl) ?_
        simp only [Act.put, List.setIfInBounds_toArray, List.set_cons_succ, List.set_cons_zero]
        refine wpFreeD_oneW (by kernel_rfl) (.pointer (some ⟨g0, 0, none⟩)) (fun w1 _ => by kernel_rfl) ?_
        simp only [Act.put, List.setIfInBounds_toArray, List.set_cons_succ, List.set_cons_zero]
        refine wpFreeD_oneW (by kernel_rfl) (.pointer (some ⟨g0, 0, none⟩)) (fun w1 _ => by kernel_rfl) ?_
        simp only [Act.put, List.setIfInBounds_toArray, List.set_cons_succ, List.set_cons_zero]
        refine wpFreeD_oneW (by kernel_rfl) (.pointer (some ⟨g0, 10, none⟩)) (fun w1 _ => by kernel_rfl) ?_
        simp only [Act.put, List.setIfInBounds_toArray, List.set_cons_succ, List.set_cons_zero]
        refine wpFreeD_load1W (by kernel_rfl) rfl rfl (p := ⟨g0, 10, none⟩) (fun w1 h1 => (hRw.out w1 (le_trans (le_drewN _ _) h1)).cell? 10) ukindFloat32 ?_
        simp only [Act.put, List.setIfInBounds_toArray, List.set_cons_succ, List.set_cons_zero]
        refine wpFreeD_oneW (by kernel_rfl) (.pointer (some ⟨gZ, 0, none⟩)) (fun w1 _ => by kernel_rfl) ?_
        simp only [Act.put, List.setIfInBounds_toArray, List.set_cons_succ, List.set_cons_zero]
        refine wpFreeD_oneW (by kernel_rfl) (.pointer (some ⟨gZ, 0, none⟩)) (fun w1 _ => by kernel_rfl) ?_
        simp only [Act.put, List.setIfInBounds_toArray, List.set_cons_succ, List.set_cons_zero]
        refine wpFreeD_oneW (by kernel_rfl) (.pointer (some ⟨gZ, 10, none⟩)) (fun w1 _ => by kernel_rfl) ?_
        simp only [Act.put, List.setIfInBounds_toArray, List.set_cons_succ, List.set_cons_zero]
        refine wpFreeD_load1W (by kernel_rfl) rfl rfl (p := ⟨gZ, 10, none⟩) (fun w1 h1 => (hRz.out w1 (le_trans (le_drewN _ _) h1)).cell? 10) ukindFloat32 ?_
        simp only [Act.put, List.setIfInBounds_toArray, List.set_cons_succ, List.set_cons_zero]
        refine wpFreeD_callW (by kernel_rfl) rfl Try.func117 (by kernel_rfl) (by kernel_rfl) (args := #[.float .f32 m, .float .f32 mZ]) (by simp [Act.eval]) (fun v w1 w2 hw hv => hv) (fun w1 hw1 _ => (s_l01Same m mZ w1).mono ?_) ?_
        · rintro e w2 ⟨rfl, rfl⟩
          refine ⟨_, rfl, le_refl _, ?_⟩
          simp only [show ¬ (117 = 115) by decide, show ¬ (117 = 116) by decide, if_false]
          exact ⟨fun _ => by first | rfl | trivial, fun h => by (try simp at h); first | (obtain ⟨h1, h2⟩ := h; subst h1 h2; first | rfl | exact congrArg Value.bool hc2.out | trivial) | simp_all⟩
        rintro v ⟨_, _, _, hv⟩
        simp only [show ¬ (117 = 115) by decide, show ¬ (117 = 116) by decide, if_false] at hv
        obtain rfl := hv.1 (by first | rfl | trivial)
        simp only [Act.put, List.setIfInBounds_toArray, List.set_cons_succ, List.set_cons_zero]
        rw [hc2.out]
        refine wpFreeD_one rfl (.bool true) (fun w1 _ => by kernel_rfl) ?_
        simp only [Act.put, List.setIfInBounds_toArray, List.set_cons_succ, List.set_cons_zero]
        refine wpFreeD_one rfl (.bool true) (fun w1 _ => by kernel_rfl) ?_
        simp only [Act.put, List.setIfInBounds_toArray, List.set_cons_succ, List.set_cons_zero]
        refine wpFreeD_oneW (by kernel_rfl) (.pointer (some ⟨g0, 0, none⟩)) (fun w1 _ => by kernel_rfl) ?_
        simp only [Act.put, List.setIfInBounds_toArray, List.set_cons_succ, List.set_cons_zero]
        refine wpFreeD_oneW (by kernel_rfl) (.pointer (some ⟨g0, 0, none⟩)) (fun w1 _ => by kernel_rfl) ?_
        simp only [Act.put, List.setIfInBounds_toArray, List.set_cons_succ, List.set_cons_zero]
        refine wpFreeD_oneW (by kernel_rfl) (.pointer (some ⟨g0, 11, none⟩)) (fun w1 _ => by kernel_rfl) ?_
        simp only [Act.put, List.setIfInBounds_toArray, List.set_cons_succ, List.set_cons_zero]
        refine wpFreeD_load1W (by kernel_rfl) rfl rfl (p := ⟨g0, 11, none⟩) (fun w1 h1 => (hRw.out w1 (le_trans (le_drewN _ _) h1)).cell? 11) ukindFloat32 ?_
        simp only [Act.put, List.setIfInBounds_toArray, List.set_cons_succ, List.set_cons_zero]
        refine wpFreeD_oneW (by kernel_rfl) (.pointer (some ⟨gZ, 0, none⟩)) (fun w1 _ => by kernel_rfl) ?_
        simp only [Act.put, List.setIfInBounds_toArray, List.set_cons_succ, List.set_cons_zero]
        refine wpFreeD_oneW (by kernel_rfl) (.pointer (some ⟨gZ, 0, none⟩)) (fun w1 _ => by kernel_rfl) ?_
        simp only [Act.put, List.setIfInBounds_toArray, List.set_cons_succ, List.set_cons_zero]
        refine wpFreeD_oneW (by kernel_rfl) (.pointer (some ⟨gZ, 11, none⟩)) (fun w1 _ => by kernel_rfl) ?_
        simp only [Act.put, List.setIfInBounds_toArray, List.set_cons_succ, List.set_cons_zero]
        refine wpFreeD_load1W (by kernel_rfl) rfl rfl (p := ⟨gZ, 11, none⟩) (fun w1 h1 => (hRz.out w1 (le_trans (le_drewN _ _) h1)).cell? 11) ukindFloat32 ?_
        simp only [Act.put, List.setIfInBounds_toArray, List.set_cons_succ, List.set_cons_zero]
        refine wpFreeD_callW (by kernel_rfl) rfl Try.func117 (by kernel_rfl) (by kernel_rfl) (args := #[.float .f32 o, .float .f32 oZ]) (by simp [Act.eval]) (fun v w1 w2 hw hv => hv) (fun w1 hw1 _ => (s_l01Same o oZ w1).mono ?_) ?_
        · rintro e w2 ⟨rfl, rfl⟩
          refine ⟨_, rfl, le_refl _, ?_⟩
          simp only [show ¬ (117 = 115) by decide, show ¬ (117 = 116) by decide, if_false]
          exact ⟨fun h => by (try simp at h); first | (obtain ⟨h1, h2⟩ := h; subst h1 h2; first | rfl | exact congrArg Value.bool hc2.out | trivial) | simp_all, fun _ => by first | rfl | trivial⟩
        rintro v ⟨_, _, _, hv⟩
        simp only [show ¬ (117 = 115) by decide, show ¬ (117 = 116) by decide, if_false] at hv
        obtain rfl := hv.2 (by first | rfl | trivial)
        simp only [Act.put, List.setIfInBounds_toArray, List.set_cons_succ, List.set_cons_zero]
        refine wpFreeD_one rfl (.bool (sameB o oZ)) (fun w1 _ => by kernel_rfl) ?_
        simp only [Act.put, List.setIfInBounds_toArray, List.set_cons_succ, List.set_cons_zero]
        refine wpFreeD_one rfl (.bool (sameB o oZ)) (fun w1 _ => by kernel_rfl) ?_
        simp only [Act.put, List.setIfInBounds_toArray, List.set_cons_succ, List.set_cons_zero]
        refine wpFreeD_nil (fun wR hwR _ => ?_)
        have HL := hid (le_trans (le_drewN _ _) hwR)
        clear hwR
        go_wp2
        go_ret
        exact ⟨ret_b E.out.symm, HL.out⟩
set_option maxRecDepth 100000 in
set_option maxHeartbeats 4000000 in
theorem s_SameBow (x y : Nat → Nat) (nx ny : Nat) (j k : Int) (fk : Int) (a b c p q : Nat) (m o : Nat) (xZ yZ : Nat → Nat) (nxZ nyZ : Nat) (jZ kZ : Int) (fkZ : Int) (aZ bZ cZ pZ qZ : Nat) (mZ oZ : Nat) (B BZ : Nat) (s t sZ tZ : Value) (w : World) (hs : (slT x nx).RdN w B s) (ht : (slT y ny).RdN w B t) (wf : (Lit.int .i64 j).wf = true ∧ (Lit.int .i64 k).wf = true) (hf : (fits .f32 a ∧ fits .f32 b ∧ fits .f32 c ∧ fits .f32 p ∧ fits .f32 q ∧ fits .f32 m ∧ fits .f32 o)) (hsZ : (slT xZ nxZ).RdN w BZ sZ) (htZ : (slT yZ nyZ).RdN w BZ tZ) (wfZ : (Lit.int .i64 jZ).wf = true ∧ (Lit.int .i64 kZ).wf = true) (hfZ : (fits .f32 aZ ∧ fits .f32 bZ ∧ fits .f32 cZ ∧ fits .f32 pZ ∧ fits .f32 qZ ∧ fits .f32 mZ ∧ fits .f32 oZ)) :
    Calls Try.prog 47 #[.agg #[s, .int .i64 j, t, .int .i64 k, .int .i64 fk, .float .f32 a, .float .f32 b, .float .f32 c, .float .f32 p, .float .f32 q, .float .f32 m, .float .f32 o], .agg #[sZ, .int .i64 jZ, tZ, .int .i64 kZ, .int .i64 fkZ, .float .f32 aZ, .float .f32 bZ, .float .f32 cZ, .float .f32 pZ, .float .f32 qZ, .float .f32 mZ, .float .f32 oZ]] w (Out_b (sameBow x y nx ny j k fk a b c p q m o xZ yZ nxZ nyZ jZ kZ fkZ aZ bZ cZ pZ qZ mZ oZ) w) := by
  have HV := hid (fun (g9 g8 : Nat) (w' : World) (hl : le w w') (R : Row w' g9 42 #[s, .int .i64 j, t, .int .i64 k, .int .i64 fk, .float .f32 a, .float .f32 b, .float .f32 c, .float .f32 p, .float .f32 q, .float .f32 m, .float .f32 o]) (R1 : Row w' g8 42 #[sZ, .int .i64 jZ, tZ, .int .i64 kZ, .int .i64 fkZ, .float .f32 aZ, .float .f32 bZ, .float .f32 cZ, .float .f32 pZ, .float .f32 qZ, .float .f32 mZ, .float .f32 oZ]) => s_l05SameBow x y nx ny j k fk a b c p q m o xZ yZ nxZ nyZ jZ kZ fkZ aZ bZ cZ pZ qZ mZ oZ B BZ s t sZ tZ w' g9 g8 R R1 (hs.le hl) (ht.le hl) wf hf (hsZ.le hl) (htZ.le hl) wfZ hfZ)
  have F := ((Frg.nil w).box 42 #[s, .int .i64 j, t, .int .i64 k, .int .i64 fk, .float .f32 a, .float .f32 b, .float .f32 c, .float .f32 p, .float .f32 q, .float .f32 m, .float .f32 o]).box 42 #[sZ, .int .i64 jZ, tZ, .int .i64 kZ, .int .i64 fkZ, .float .f32 aZ, .float .f32 bZ, .float .f32 cZ, .float .f32 pZ, .float .f32 qZ, .float .f32 mZ, .float .f32 oZ]
  simp only [World.size_alloc] at F
  clear hs ht wf hf hsZ htZ wfZ hfZ
  go_enter Try.func47, Try.ntmps47
  go_wp2_with (first | ((with_reducible refine listN F ?_); clear F; intro wN F) | (go_at_call 87; ((with_reducible refine (HV.out _ _ _ F.below (F.row m1) (F.row m0)).mono ?_); rintro e w1 ⟨rfl, hl⟩; replace F := F.le hl; clear hl)))
  go_ret
  exact ⟨rfl, F.below⟩
theorem both_SameBow (cs csZ : List CD) (h1 : HasShL shBow cs) (h2 : HasShL shBow csZ) : ∃ ar0 : Bool, (∀ (w : World) (B : Nat) (u : List Value) (BZ : Nat) (uZ : List Value), RdLN w B (cs.map CD.cp) u → RdLN w BZ (csZ.map CD.cp) uZ → Calls Try.prog 47 #[.agg u.toArray, .agg uZ.toArray] w (Out_b ar0 w)) ∧ (∀ (w : World) (B : Nat) (u : List Value) (BZ : Nat) (uZ : List Value), RdLN w B (cs.map CD.cp) u → RdLN w BZ (csZ.map CD.cp) uZ → Calls Try.prog 48 #[.agg u.toArray, .agg uZ.toArray] w (Out_b ar0 w)) := by
  obtain ⟨xs, ys, nx, ny, j, k, fk, a, b, c, p, q, m, o, rfl, hx, hy⟩ := bow_data h1
  obtain ⟨xsZ, ysZ, nxZ, nyZ, jZ, kZ, fkZ, aZ, bZ, cZ, pZ, qZ, mZ, oZ, rfl, hxZ, hyZ⟩ := bow_data h2
  refine ⟨sameBow (fun i => (xs i).fx) (fun i => (ys i).fx) nx ny j k fk a b c p q m o (fun i => (xsZ i).fx) (fun i => (ysZ i).fx) nxZ nyZ jZ kZ fkZ aZ bZ cZ pZ qZ mZ oZ, fun w B u BZ uZ hu huZ => ?_, fun w B u BZ uZ hu huZ => ?_⟩
  · obtain ⟨s, t, rfl, hs, ht, wf, hf⟩ := bow_open hu hx hy
    obtain ⟨sZ, tZ, rfl, hsZ, htZ, wfZ, hfZ⟩ := bow_open huZ hxZ hyZ
    exact s_SameBow (fun i => (xs i).fx) (fun i => (ys i).fx) nx ny j k fk a b c p q m o (fun i => (xsZ i).fx) (fun i => (ysZ i).fx) nxZ nyZ jZ kZ fkZ aZ bZ cZ pZ qZ mZ oZ B BZ s t sZ tZ w hs ht wf hf hsZ htZ wfZ hfZ
  · obtain ⟨s, t, rfl, hs, ht, wf, hf⟩ := bow_open hu hx hy
    obtain ⟨sZ, tZ, rfl, hsZ, htZ, wfZ, hfZ⟩ := bow_open huZ hxZ hyZ
    exact i_SameBow (fun i => (xs i).fx) (fun i => (ys i).fx) nx ny j k fk a b c p q m o (fun i => (xsZ i).fx) (fun i => (ysZ i).fx) nxZ nyZ jZ kZ fkZ aZ bZ cZ pZ qZ mZ oZ B BZ s t sZ tZ w hs ht wf hf hsZ htZ wfZ hfZ
end Go.Proofs.Ytkjgcfmfejjdkaa

/- The walk of 'FnExactSameBow'. -/
namespace Go.Proofs.Ytkjgcfmfejjdkaa.fnExactSameBow
open Go.RowKit Go.Fk
set_option maxRecDepth 100000 in
set_option maxHeartbeats 4000000 in
theorem core (cs0 : List CD) (vs0 : List Value) (cs1 : List CD) (vs1 : List Value) (ar0 : Bool) (w : World) (z0 : RdL w w.heap.size cs0 vs0) (k0 : HasShL shBow cs0) (z1 : RdL w w.heap.size cs1 vs1) (k1 : HasShL shBow cs1) (hz : szL cs0 + szL cs1 ≤ 1048576)
    (hS : ∀ (w : World) (B0 : Nat) (u0 : List Value) (B1 : Nat) (u1 : List Value), RdLN w B0 (cs0.map CD.cp) u0 → RdLN w B1 (cs1.map CD.cp) u1 → Calls Try.prog 47 #[.agg u0.toArray, .agg u1.toArray] w (Out_b ar0 w))
    (hI : ∀ (w : World) (B0 : Nat) (u0 : List Value) (B1 : Nat) (u1 : List Value), RdLN w B0 (cs0.map CD.cp) u0 → RdLN w B1 (cs1.map CD.cp) u1 → Calls Try.prog 48 #[.agg u0.toArray, .agg u1.toArray] w (Out_b ar0 w)) :
    Calls Try.prog 13 #[.agg vs0.toArray, .agg vs1.toArray] w fun e w' => e = .returned (.bool true) ∧ Below w.heap.size w w' := by
  have Z0 := hid z0; have K0 := hid k0.ok; have HH0 := hid k0; have hl0 : Hid (vs0.length = 12) := z0.1.trans k0.1; clear z0 k0
  have Z1 := hid z1; have K1 := hid k1.ok; have HH1 := hid k1; have hl1 : Hid (vs1.length = 12) := z1.1.trans k1.1; clear z1 k1
  have hz0 : szL cs0 ≤ 1048576 := by omega
  have hz1 : szL cs1 ≤ 1048576 := by omega
  have hm0 : ¬ (1048576 : Int) - (szL cs0 : Nat) < 0 := by omega
  have hm1 : ¬ (1048576 : Int) - (szL cs0 : Nat) - (szL cs1 : Nat) < 0 := by omega
  have HS := hid hS; have HI := hid hI; clear hS hI
  have F := Frg.nil w
  replace F := F.box 58 vs0.toArray
  replace F := F.box 58 vs1.toArray
  simp only [World.size_alloc] at F
  go_enter Try.func13, Try.ntmps13
  go_wp2_with (first | (((with_reducible refine listN F ?_); clear F; intro wN F)) | ((with_reducible refine at_loadU rfl rfl ?_); first | (with_reducible refine wpList_loadG F rfl rfl rfl (by first | exact m0 | exact m1 | exact m2 | exact m3 | exact m4 | exact m5 | exact m6 | exact m7 | exact m8 | exact m9 | exact m10 | exact m11) Try.underlying42 rfl uinfoBowI (by simp only [List.size_toArray]; first | exact hl0.out | exact hl1.out | exact huB0.out | exact huB1.out) ?_) | (with_reducible refine wpList_loadG F rfl rfl rfl (by first | exact m0 | exact m1 | exact m2 | exact m3 | exact m4 | exact m5 | exact m6 | exact m7 | exact m8 | exact m9 | exact m10 | exact m11) Try.underlying58 rfl uinfoBowL (by simp only [List.size_toArray]; first | exact hl0.out | exact hl1.out | exact huB0.out | exact huB1.out) ?_)) | (go_at_call 33; ((with_reducible refine (szU_Bow _ cs0 vs0 (1048576 : Int) ((1048576 : Int) - (szL cs0 : Nat)) _ (Z0.out.le F.below) K0.out (by omega) (by omega) (lessBy_pos (by omega))).mono ?_); rintro e w1 ⟨rfl, hb1⟩; replace F := F.le hb1)) | (go_at_call 33; ((with_reducible refine (szU_Bow _ cs1 vs1 ((1048576 : Int) - (szL cs0 : Nat)) (((1048576 : Int) - (szL cs0 : Nat)) - (szL cs1 : Nat)) _ (Z1.out.le F.below) K1.out (by omega) (by omega) (lessBy_pos (by omega))).mono ?_); rintro e w1 ⟨rfl, hb1⟩; replace F := F.le hb1)))
  first | (refine wpAt0 F ?_; clear F; intro wN F) | (refine wpAtN F ?_; clear F; intro wN F)
  refine region_freeD (E := leX) (fun f args w v => if f = 35 then KT shBow wN args w v else v = .bool ar0) (by kernel_rfl) (by kernel_rfl) ?_
  refine wpFreeD_loadG F rfl rfl rfl rfl (by first | exact m0 | exact m1 | exact m2 | exact m3 | exact m4 | exact m5 | exact m6 | exact m7 | exact m8 | exact m9 | exact m10 | exact m11) Try.underlying58 rfl uinfoBowL (by simp only [List.size_toArray]; exact hl0.out) ?_
  simp only [Act.put, List.setIfInBounds_toArray, List.set_cons_succ, List.set_cons_zero]
  refine wpFreeD_callB rfl rfl Try.func35 (by kernel_rfl) (by kernel_rfl) (args := #[.agg vs0.toArray]) (by simp [Act.eval]) (fun v w1 w2 hw hv => by simp only [if_true] at hv ⊢; exact hv.le hw) (fun w1 hw1 _ => (toU_Bow _ cs0 vs0 w1 (Z0.out.le (le_trans (F.drewN _).below hw1)) K0.out hz0).mono ?_) ?_
  · rintro e w2 ⟨us, rfl, ho, hl⟩
    exact ⟨_, rfl, hl, by simp only [if_true]; exact KT.mk (Z0.out.le F.below) HH0.out (ho.rdN (fun _ hj => hj.2))⟩
  rintro v ⟨_, _, _, hv⟩
  simp only [if_true] at hv
  obtain ⟨u0, Bu0, rfl, _⟩ := hv vs0 cs0 _ rfl (Z0.out.le F.below) HH0.out
  simp only [Act.put, List.setIfInBounds_toArray, List.set_cons_succ, List.set_cons_zero]
  refine wpFreeD_loadG F rfl rfl rfl rfl (by first | exact m0 | exact m1 | exact m2 | exact m3 | exact m4 | exact m5 | exact m6 | exact m7 | exact m8 | exact m9 | exact m10 | exact m11) Try.underlying58 rfl uinfoBowL (by simp only [List.size_toArray]; exact hl1.out) ?_
  simp only [Act.put, List.setIfInBounds_toArray, List.set_cons_succ, List.set_cons_zero]
  refine wpFreeD_callB rfl rfl Try.func35 (by kernel_rfl) (by kernel_rfl) (args := #[.agg vs1.toArray]) (by simp [Act.eval]) (fun v w1 w2 hw hv => by simp only [if_true] at hv ⊢; exact hv.le hw) (fun w1 hw1 _ => (toU_Bow _ cs1 vs1 w1 (Z1.out.le (le_trans (F.drewN _).below hw1)) K1.out hz1).mono ?_) ?_
  · rintro e w2 ⟨us, rfl, ho, hl⟩
    exact ⟨_, rfl, hl, by simp only [if_true]; exact KT.mk (Z1.out.le F.below) HH1.out (ho.rdN (fun _ hj => hj.2))⟩
  rintro v ⟨_, _, _, hv⟩
  simp only [if_true] at hv
  obtain ⟨u1, Bu1, rfl, _⟩ := hv vs1 cs1 _ rfl (Z1.out.le F.below) HH1.out
  simp only [Act.put, List.setIfInBounds_toArray, List.set_cons_succ, List.set_cons_zero]
  refine wpFreeD_callB rfl rfl Try.func47 (by kernel_rfl) (by kernel_rfl) (args := #[.agg u0.toArray, .agg u1.toArray]) (by simp [Act.eval]) (fun v w1 w2 hw hv => by simp only [show ¬ (47 = 35) by decide, if_false] at hv ⊢; exact hv) (fun w1 hw1 hbe => ?_) ?_
  · skip
    have hk0 := (hbe ⟨1, Ground.data⟩ (by simp) (by kernel_rfl)).1.1.2 rfl
    simp only [if_true] at hk0
    obtain ⟨v0, B0, he0, hr0⟩ := hk0 vs0 cs0 _ rfl (Z0.out.le F.below) HH0.out
    obtain rfl : u0 = v0 := by simpa using he0
    have hk1 := (hbe ⟨3, Ground.data⟩ (by simp) (by kernel_rfl)).2 rfl
    simp only [if_true] at hk1
    obtain ⟨v1, B1, he1, hr1⟩ := hk1 vs1 cs1 _ rfl (Z1.out.le F.below) HH1.out
    obtain rfl : u1 = v1 := by simpa using he1
    refine (HS.out _ _ _ _ _ hr0 hr1).mono ?_
    rintro e w2 ⟨rfl, hl⟩
    exact ⟨_, rfl, hl, by simp only [show ¬ (47 = 35) by decide, if_false]⟩
  rintro v ⟨_, _, _, hv⟩
  simp only [show ¬ (47 = 35) by decide, if_false] at hv
  subst hv
  simp only [Act.put, List.setIfInBounds_toArray, List.set_cons_succ, List.set_cons_zero]
  refine wpFreeD_one rfl (.bool ar0) (fun w1 _ => by kernel_rfl) ?_
  simp only [Act.put, List.setIfInBounds_toArray, List.set_cons_succ, List.set_cons_zero]
  refine wpFreeD_nil (fun wR hwR _ => ?_)
  replace F := (F.drewN 1).le hwR
  clear hwR
  go_wp2_with (first | (((with_reducible refine listN F ?_); clear F; intro wN F)) | ((with_reducible refine at_store rfl ?_); first | (refine wpList_storeG F rfl rfl rfl rfl rfl (by simp only [List.size_toArray]; rw [huB0.out]; exact uinfoBowI) (by simp only [List.size_toArray]; rw [huB0.out]; rfl) (by exact hoB0.out) ?_; clear F; intro W F zW; clear zW) | (refine wpList_storeG F rfl rfl rfl rfl rfl (by simp only [List.size_toArray]; rw [huB1.out]; exact uinfoBowI) (by simp only [List.size_toArray]; rw [huB1.out]; rfl) (by exact hoB1.out) ?_; clear F; intro W F zW; clear zW)) | ((with_reducible refine at_loadU rfl rfl ?_); first | (with_reducible refine wpList_loadG F rfl rfl rfl (by first | exact m0 | exact m1 | exact m2 | exact m3 | exact m4 | exact m5 | exact m6 | exact m7 | exact m8 | exact m9 | exact m10 | exact m11) Try.underlying42 rfl uinfoBowI (by simp only [List.size_toArray]; first | exact hl0.out | exact hl1.out | exact huB0.out | exact huB1.out) ?_) | (with_reducible refine wpList_loadG F rfl rfl rfl (by first | exact m0 | exact m1 | exact m2 | exact m3 | exact m4 | exact m5 | exact m6 | exact m7 | exact m8 | exact m9 | exact m10 | exact m11) Try.underlying58 rfl uinfoBowL (by simp only [List.size_toArray]; first | exact hl0.out | exact hl1.out | exact huB0.out | exact huB1.out) ?_)) | (go_at_call 35; ((with_reducible refine (toU_Bow _ cs0 vs0 _ (Z0.out.le F.below) K0.out hz0).mono ?_); rintro e w1 ⟨usB0, rfl, ho, hl⟩; have huB0 : Hid (usB0.length = 12) := ho.1.trans ((List.length_map ..).trans K0.out.1); have hoB0 := hid ho.all_one; replace F := F.lay1 hl ho; clear ho hl)) | (go_at_call 35; ((with_reducible refine (toU_Bow _ cs1 vs1 _ (Z1.out.le F.below) K1.out hz1).mono ?_); rintro e w1 ⟨usB1, rfl, ho, hl⟩; have huB1 : Hid (usB1.length = 12) := ho.1.trans ((List.length_map ..).trans K1.out.1); have hoB1 := hid ho.all_one; replace F := F.lay1 hl ho; clear ho hl)))
  first | ((with_reducible refine callAt0 F ?_); clear F; intro wN2 F) | ((with_reducible refine callAtN F ?_); clear F; intro wN2 F)
  refine (HI.out _ _ _ _ _ (F.layN (by first | exact m0 | exact m1 | exact m2 | exact m3 | exact m4 | exact m5 | exact m6 | exact m7 | exact m8 | exact m9 | exact m10 | exact m11)) (F.layN (by first | exact m0 | exact m1 | exact m2 | exact m3 | exact m4 | exact m5 | exact m6 | exact m7 | exact m8 | exact m9 | exact m10 | exact m11))).mono ?_
  rintro e wI ⟨rfl, hlI⟩
  replace F := F.le hlI
  go_wp2_with (first | (((with_reducible refine listN F ?_); clear F; intro wN F)) | ((with_reducible refine at_store rfl ?_); first | (refine wpList_storeG F rfl rfl rfl rfl rfl (by simp only [List.size_toArray]; rw [huB0.out]; exact uinfoBowI) (by simp only [List.size_toArray]; rw [huB0.out]; rfl) (by exact hoB0.out) ?_; clear F; intro W F zW; clear zW) | (refine wpList_storeG F rfl rfl rfl rfl rfl (by simp only [List.size_toArray]; rw [huB1.out]; exact uinfoBowI) (by simp only [List.size_toArray]; rw [huB1.out]; rfl) (by exact hoB1.out) ?_; clear F; intro W F zW; clear zW)) | ((with_reducible refine at_loadU rfl rfl ?_); first | (with_reducible refine wpList_loadG F rfl rfl rfl (by first | exact m0 | exact m1 | exact m2 | exact m3 | exact m4 | exact m5 | exact m6 | exact m7 | exact m8 | exact m9 | exact m10 | exact m11) Try.underlying42 rfl uinfoBowI (by simp only [List.size_toArray]; first | exact hl0.out | exact hl1.out | exact huB0.out | exact huB1.out) ?_) | (with_reducible refine wpList_loadG F rfl rfl rfl (by first | exact m0 | exact m1 | exact m2 | exact m3 | exact m4 | exact m5 | exact m6 | exact m7 | exact m8 | exact m9 | exact m10 | exact m11) Try.underlying58 rfl uinfoBowL (by simp only [List.size_toArray]; first | exact hl0.out | exact hl1.out | exact huB0.out | exact huB1.out) ?_)))
  first | (refine wpAt0 F ?_; clear F; intro wM0 F) | (refine wpAtN F ?_; clear F; intro wM0 F)
  refine region_freeD (E := leX) (fun f _ w v => if f = 35 then ∃ (us : List Value) (B : Nat), v = .agg us.toArray ∧ RdL w B (cs0.map CD.cp) us else v = .bool true) (by kernel_rfl) (by kernel_rfl) ?_
  refine wpFreeD_loadG F rfl rfl rfl rfl (by first | exact m0 | exact m1 | exact m2 | exact m3 | exact m4 | exact m5 | exact m6 | exact m7 | exact m8 | exact m9 | exact m10 | exact m11) Try.underlying42 rfl uinfoBowI (by simp only [List.size_toArray]; exact huB0.out) ?_
  simp only [Act.put, List.setIfInBounds_toArray, List.set_cons_succ, List.set_cons_zero]
  refine wpFreeD_loadG F rfl rfl rfl rfl (by first | exact m0 | exact m1 | exact m2 | exact m3 | exact m4 | exact m5 | exact m6 | exact m7 | exact m8 | exact m9 | exact m10 | exact m11) Try.underlying58 rfl uinfoBowL (by simp only [List.size_toArray]; exact hl0.out) ?_
  simp only [Act.put, List.setIfInBounds_toArray, List.set_cons_succ, List.set_cons_zero]
  refine wpFreeD_callB rfl rfl Try.func35 (by kernel_rfl) (by kernel_rfl) (args := #[.agg vs0.toArray]) (by simp [Act.eval]) (fun v w1 w2 hw hv => by simp only [if_true] at hv ⊢; obtain ⟨u, B, h1, h2⟩ := hv; exact ⟨u, B, h1, h2.le hw⟩) (fun w1 hw1 _ => (toU_Bow _ cs0 vs0 w1 (Z0.out.le (le_trans (F.drewN _).below hw1)) K0.out hz0).mono ?_) ?_
  · rintro e w2 ⟨u, rfl, ho, hl⟩
    exact ⟨_, rfl, hl, by simp only [if_true]; exact ⟨u, _, rfl, ho.rd (fun _ hj => hj.2)⟩⟩
  rintro v ⟨_, _, _, hv⟩
  simp only [if_true] at hv
  obtain ⟨ud0, Bud0, rfl, _⟩ := hv
  simp only [Act.put, List.setIfInBounds_toArray, List.set_cons_succ, List.set_cons_zero]
  refine wpFreeD_callB rfl rfl Try.func25 (by kernel_rfl) (by kernel_rfl) (args := #[.agg usB0.toArray, .agg ud0.toArray]) (by simp [Act.eval]) (fun v w1 w2 hw hv => by simp only [show ¬ (25 = 35) by decide, if_false] at hv ⊢; exact hv) (fun w1 hw1 hbe => ?_) ?_
  · have hk := (hbe ⟨2, Ground.data⟩ (by simp) (by kernel_rfl)).2 rfl
    simp only [if_true] at hk
    obtain ⟨u', B', he, hr⟩ := hk
    obtain rfl : ud0 = u' := by simpa using he
    refine (eqU_Bow _ _ (cs0.map CD.cp) _ _ _ (((F.drewN 1).le hw1).layR (by first | exact m0 | exact m1 | exact m2 | exact m3 | exact m4 | exact m5 | exact m6 | exact m7 | exact m8 | exact m9 | exact m10 | exact m11)) hr K0.out.cp (by rw [szL_cp]; exact hz0)).mono ?_
    rintro e w2 ⟨rfl, hl⟩
    exact ⟨_, rfl, hl, by simp only [show ¬ (25 = 35) by decide, if_false]⟩
  rintro v ⟨_, _, _, hv⟩
  simp only [show ¬ (25 = 35) by decide, if_false] at hv
  subst hv
  simp only [Act.put, List.setIfInBounds_toArray, List.set_cons_succ, List.set_cons_zero]
  refine wpFreeD_one rfl (.bool false) (fun w1 _ => by kernel_rfl) ?_
  simp only [Act.put, List.setIfInBounds_toArray, List.set_cons_succ, List.set_cons_zero]
  refine wpFreeD_nil (fun wR hwR _ => ?_)
  replace F := (F.drewN 1).le hwR
  clear hwR
  go_wp2_with (first | (((with_reducible refine listN F ?_); clear F; intro wN F)) | ((with_reducible refine at_loadU rfl rfl ?_); first | (with_reducible refine wpList_loadG F rfl rfl rfl (by first | exact m0 | exact m1 | exact m2 | exact m3 | exact m4 | exact m5 | exact m6 | exact m7 | exact m8 | exact m9 | exact m10 | exact m11) Try.underlying42 rfl uinfoBowI (by simp only [List.size_toArray]; first | exact hl0.out | exact hl1.out | exact huB0.out | exact huB1.out) ?_) | (with_reducible refine wpList_loadG F rfl rfl rfl (by first | exact m0 | exact m1 | exact m2 | exact m3 | exact m4 | exact m5 | exact m6 | exact m7 | exact m8 | exact m9 | exact m10 | exact m11) Try.underlying58 rfl uinfoBowL (by simp only [List.size_toArray]; first | exact hl0.out | exact hl1.out | exact huB0.out | exact huB1.out) ?_)))
  first | (refine wpAt0 F ?_; clear F; intro wM1 F) | (refine wpAtN F ?_; clear F; intro wM1 F)
  refine region_freeD (E := leX) (fun f _ w v => if f = 35 then ∃ (us : List Value) (B : Nat), v = .agg us.toArray ∧ RdL w B (cs1.map CD.cp) us else v = .bool true) (by kernel_rfl) (by kernel_rfl) ?_
  refine wpFreeD_loadG F rfl rfl rfl rfl (by first | exact m0 | exact m1 | exact m2 | exact m3 | exact m4 | exact m5 | exact m6 | exact m7 | exact m8 | exact m9 | exact m10 | exact m11) Try.underlying42 rfl uinfoBowI (by simp only [List.size_toArray]; exact huB1.out) ?_
  simp only [Act.put, List.setIfInBounds_toArray, List.set_cons_succ, List.set_cons_zero]
  refine wpFreeD_loadG F rfl rfl rfl rfl (by first | exact m0 | exact m1 | exact m2 | exact m3 | exact m4 | exact m5 | exact m6 | exact m7 | exact m8 | exact m9 | exact m10 | exact m11) Try.underlying58 rfl uinfoBowL (by simp only [List.size_toArray]; exact hl1.out) ?_
  simp only [Act.put, List.setIfInBounds_toArray, List.set_cons_succ, List.set_cons_zero]
  refine wpFreeD_callB rfl rfl Try.func35 (by kernel_rfl) (by kernel_rfl) (args := #[.agg vs1.toArray]) (by simp [Act.eval]) (fun v w1 w2 hw hv => by simp only [if_true] at hv ⊢; obtain ⟨u, B, h1, h2⟩ := hv; exact ⟨u, B, h1, h2.le hw⟩) (fun w1 hw1 _ => (toU_Bow _ cs1 vs1 w1 (Z1.out.le (le_trans (F.drewN _).below hw1)) K1.out hz1).mono ?_) ?_
  · rintro e w2 ⟨u, rfl, ho, hl⟩
    exact ⟨_, rfl, hl, by simp only [if_true]; exact ⟨u, _, rfl, ho.rd (fun _ hj => hj.2)⟩⟩
  rintro v ⟨_, _, _, hv⟩
  simp only [if_true] at hv
  obtain ⟨ud1, Bud1, rfl, _⟩ := hv
  simp only [Act.put, List.setIfInBounds_toArray, List.set_cons_succ, List.set_cons_zero]
  refine wpFreeD_callB rfl rfl Try.func25 (by kernel_rfl) (by kernel_rfl) (args := #[.agg usB1.toArray, .agg ud1.toArray]) (by simp [Act.eval]) (fun v w1 w2 hw hv => by simp only [show ¬ (25 = 35) by decide, if_false] at hv ⊢; exact hv) (fun w1 hw1 hbe => ?_) ?_
  · have hk := (hbe ⟨2, Ground.data⟩ (by simp) (by kernel_rfl)).2 rfl
    simp only [if_true] at hk
    obtain ⟨u', B', he, hr⟩ := hk
    obtain rfl : ud1 = u' := by simpa using he
    refine (eqU_Bow _ _ (cs1.map CD.cp) _ _ _ (((F.drewN 1).le hw1).layR (by first | exact m0 | exact m1 | exact m2 | exact m3 | exact m4 | exact m5 | exact m6 | exact m7 | exact m8 | exact m9 | exact m10 | exact m11)) hr K1.out.cp (by rw [szL_cp]; exact hz1)).mono ?_
    rintro e w2 ⟨rfl, hl⟩
    exact ⟨_, rfl, hl, by simp only [show ¬ (25 = 35) by decide, if_false]⟩
  rintro v ⟨_, _, _, hv⟩
  simp only [show ¬ (25 = 35) by decide, if_false] at hv
  subst hv
  simp only [Act.put, List.setIfInBounds_toArray, List.set_cons_succ, List.set_cons_zero]
  refine wpFreeD_one rfl (.bool false) (fun w1 _ => by kernel_rfl) ?_
  simp only [Act.put, List.setIfInBounds_toArray, List.set_cons_succ, List.set_cons_zero]
  refine wpFreeD_nil (fun wR hwR _ => ?_)
  replace F := (F.drewN 1).le hwR
  clear hwR
  go_wp2_with (first | (((with_reducible refine listN F ?_); clear F; intro wN F)) | ((with_reducible refine at_loadU rfl rfl ?_); first | (with_reducible refine wpList_loadG F rfl rfl rfl (by first | exact m0 | exact m1 | exact m2 | exact m3 | exact m4 | exact m5 | exact m6 | exact m7 | exact m8 | exact m9 | exact m10 | exact m11) Try.underlying42 rfl uinfoBowI (by simp only [List.size_toArray]; first | exact hl0.out | exact hl1.out | exact huB0.out | exact huB1.out) ?_) | (with_reducible refine wpList_loadG F rfl rfl rfl (by first | exact m0 | exact m1 | exact m2 | exact m3 | exact m4 | exact m5 | exact m6 | exact m7 | exact m8 | exact m9 | exact m10 | exact m11) Try.underlying58 rfl uinfoBowL (by simp only [List.size_toArray]; first | exact hl0.out | exact hl1.out | exact huB0.out | exact huB1.out) ?_)))
  go_ret
  first | exact ⟨rfl, F.below⟩ | exact ⟨rfl, below_drewN F.below _⟩
set_option maxRecDepth 100000 in
set_option maxHeartbeats 4000000 in
theorem large0 (cs0 : List CD) (vs0 : List Value) (cs1 : List CD) (vs1 : List Value) (w : World) (z0 : RdL w w.heap.size cs0 vs0) (k0 : HasShL shBow cs0) (z1 : RdL w w.heap.size cs1 vs1) (k1 : HasShL shBow cs1)  (hg : ¬ szL cs0 ≤ 1048576) :
    Calls Try.prog 13 #[.agg vs0.toArray, .agg vs1.toArray] w fun e w' => e = .returned (.bool true) ∧ Below w.heap.size w w' := by
  have Z0 := hid z0; have K0 := hid k0.ok; have hl0 : Hid (vs0.length = 12) := z0.1.trans k0.1; clear z0 k0
  have Z1 := hid z1; have K1 := hid k1.ok; have hl1 : Hid (vs1.length = 12) := z1.1.trans k1.1; clear z1 k1
  have hn0 : (1048576 : Int) - (szL cs0 : Nat) < 0 := by omega
  have F := Frg.nil w
  replace F := F.box 58 vs0.toArray
  replace F := F.box 58 vs1.toArray
  simp only [World.size_alloc] at F
  go_enter Try.func13, Try.ntmps13
  go_wp2_with (first | (((with_reducible refine listN F ?_); clear F; intro wN F)) | ((with_reducible refine at_loadU rfl rfl ?_); first | (with_reducible refine wpList_loadG F rfl rfl rfl (by first | exact m0 | exact m1 | exact m2 | exact m3 | exact m4 | exact m5 | exact m6 | exact m7 | exact m8 | exact m9 | exact m10 | exact m11) Try.underlying42 rfl uinfoBowI (by simp only [List.size_toArray]; first | exact hl0.out | exact hl1.out | exact huB0.out | exact huB1.out) ?_) | (with_reducible refine wpList_loadG F rfl rfl rfl (by first | exact m0 | exact m1 | exact m2 | exact m3 | exact m4 | exact m5 | exact m6 | exact m7 | exact m8 | exact m9 | exact m10 | exact m11) Try.underlying58 rfl uinfoBowL (by simp only [List.size_toArray]; first | exact hl0.out | exact hl1.out | exact huB0.out | exact huB1.out) ?_)) | (go_at_call 33; ((with_reducible refine (szU_Bow _ cs0 vs0 (1048576 : Int) (-1 : Int) _ (Z0.out.le F.below) K0.out (by omega) (by omega) (lessBy_neg (by omega))).mono ?_); rintro e w1 ⟨rfl, hb1⟩; replace F := F.le hb1)))
  go_ret
  first | exact ⟨rfl, F.below⟩ | exact ⟨rfl, below_drewN F.below _⟩
set_option maxRecDepth 100000 in
set_option maxHeartbeats 4000000 in
theorem large1 (cs0 : List CD) (vs0 : List Value) (cs1 : List CD) (vs1 : List Value) (w : World) (z0 : RdL w w.heap.size cs0 vs0) (k0 : HasShL shBow cs0) (z1 : RdL w w.heap.size cs1 vs1) (k1 : HasShL shBow cs1) (g0 : szL cs0 ≤ 1048576) (hg : ¬ szL cs0 + szL cs1 ≤ 1048576) :
    Calls Try.prog 13 #[.agg vs0.toArray, .agg vs1.toArray] w fun e w' => e = .returned (.bool true) ∧ Below w.heap.size w w' := by
  have Z0 := hid z0; have K0 := hid k0.ok; have hl0 : Hid (vs0.length = 12) := z0.1.trans k0.1; clear z0 k0
  have Z1 := hid z1; have K1 := hid k1.ok; have hl1 : Hid (vs1.length = 12) := z1.1.trans k1.1; clear z1 k1
  have hm0 : ¬ (1048576 : Int) - (szL cs0 : Nat) < 0 := by omega
  have hn1 : ((1048576 : Int) - (szL cs0 : Nat)) - (szL cs1 : Nat) < 0 := by omega
  have F := Frg.nil w
  replace F := F.box 58 vs0.toArray
  replace F := F.box 58 vs1.toArray
  simp only [World.size_alloc] at F
  go_enter Try.func13, Try.ntmps13
  go_wp2_with (first | (((with_reducible refine listN F ?_); clear F; intro wN F)) | ((with_reducible refine at_loadU rfl rfl ?_); first | (with_reducible refine wpList_loadG F rfl rfl rfl (by first | exact m0 | exact m1 | exact m2 | exact m3 | exact m4 | exact m5 | exact m6 | exact m7 | exact m8 | exact m9 | exact m10 | exact m11) Try.underlying42 rfl uinfoBowI (by simp only [List.size_toArray]; first | exact hl0.out | exact hl1.out | exact huB0.out | exact huB1.out) ?_) | (with_reducible refine wpList_loadG F rfl rfl rfl (by first | exact m0 | exact m1 | exact m2 | exact m3 | exact m4 | exact m5 | exact m6 | exact m7 | exact m8 | exact m9 | exact m10 | exact m11) Try.underlying58 rfl uinfoBowL (by simp only [List.size_toArray]; first | exact hl0.out | exact hl1.out | exact huB0.out | exact huB1.out) ?_)) | (go_at_call 33; ((with_reducible refine (szU_Bow _ cs0 vs0 (1048576 : Int) ((1048576 : Int) - (szL cs0 : Nat)) _ (Z0.out.le F.below) K0.out (by omega) (by omega) (lessBy_pos (by omega))).mono ?_); rintro e w1 ⟨rfl, hb1⟩; replace F := F.le hb1)) | (go_at_call 33; ((with_reducible refine (szU_Bow _ cs1 vs1 ((1048576 : Int) - (szL cs0 : Nat)) (-1 : Int) _ (Z1.out.le F.below) K1.out (by omega) (by omega) (lessBy_neg (by omega))).mono ?_); rintro e w1 ⟨rfl, hb1⟩; replace F := F.le hb1)))
  go_ret
  first | exact ⟨rfl, F.below⟩ | exact ⟨rfl, below_drewN F.below _⟩
theorem walk (cs0 : List CD) (vs0 : List Value) (cs1 : List CD) (vs1 : List Value) (w : World) (k0 : HasShL shBow cs0) (z0 : RdL w w.heap.size cs0 vs0) (k1 : HasShL shBow cs1) (z1 : RdL w w.heap.size cs1 vs1) :
    Calls Try.prog 13 #[.agg vs0.toArray, .agg vs1.toArray] w fun e w' => e = .returned (.bool true) ∧ Below w.heap.size w w' := by
  by_cases g0 : szL cs0 ≤ 1048576
  · by_cases g1 : szL cs0 + szL cs1 ≤ 1048576
    · obtain ⟨ar0, hS, hI⟩ := both_SameBow cs0 cs1 k0 k1
      exact core cs0 vs0 cs1 vs1 ar0 w z0 k0 z1 k1 g1 (fun w B0 u0 B1 u1 h0 h1 => hS w B0 u0 B1 u1 h0 h1) (fun w B0 u0 B1 u1 h0 h1 => hI w B0 u0 B1 u1 h0 h1)
    · exact large1 cs0 vs0 cs1 vs1 w z0 k0 z1 k1 g0 g1
  · exact large0 cs0 vs0 cs1 vs1 w z0 k0 z1 k1 g0
end Go.Proofs.Ytkjgcfmfejjdkaa.fnExactSameBow
