/- 'ReadBetween' of both. -/
import Derived.Test.YtaenbpkcehenkaaBack
import Derived.Test.YtaenbpkcehenkaaInto
import Derived.Test.YtaenbpkcehenkaaTabAt
namespace Go.Fk
open Go Go.RowKit
/-- Is a number from 1 to a length? In two parts. -/
def ge1 (d : Nat) : Bool := FloatKind.f32.format.order d 1065353216 == some .gt || FloatKind.f32.format.order d 1065353216 == some .eq
def leN (d n : Nat) : Bool := FloatKind.f32.format.order d (floatOfInt .f32 (n : Int)) == some .lt || FloatKind.f32.format.order d (floatOfInt .f32 (n : Int)) == some .eq
def inTo (d n : Nat) : Bool := withinB d 1065353216 (floatOfInt .f32 (n : Int))
/-- What lies between two samples. -/
def betwR (x : Nat → Nat) (n j d : Nat) : Nat :=
  if (FloatKind.f32.format.order (shareW d) 0 == some .eq) = true then x (backJ n j (wholeW d))
  else fop .add .f32 (x (backJ n j (wholeW d))) (fop .mul .f32 (shareW d) (fop .sub .f32 (x (backJ n j (wholeW d + 1))) (x (backJ n j (wholeW d)))))
def BetwC (x : Nat → Nat) (n : Nat) (k : Int) (d v : Nat) (c : Int) : Prop :=
  (okRing n k = false ∧ v = 0 ∧ c = 1) ∨ (okRing n k = true ∧ inTo d n = false ∧ v = 0 ∧ c = 2) ∨ (okRing n k = true ∧ inTo d n = true ∧ v = betwR x n k.toNat d ∧ c = 0)
theorem betw_val {x : Nat → Nat} {n j d p y1 y2 r1 r2 r : Nat} (hz : (FloatKind.f32.format.order (shareW d) 0 == some .eq) = false) (hp : p = shareW d) (h1 : can .f32 y1 = x (backJ n j (wholeW d))) (h2 : can .f32 y2 = x (backJ n j (wholeW d + 1)))
    (e1 : can .f32 r1 = fop .sub .f32 y2 y1) (e2 : can .f32 r2 = fop .mul .f32 p r1) (e3 : can .f32 r = fop .add .f32 y1 r2) : can .f32 r = betwR x n j d := by
  unfold betwR
  rw [if_neg (by rw [hz]; decide), ← h1, ← h2, fop_can_l, fop_can_l .sub, fop_can_r .sub, ← hp, e3, ← fop_can_r .add .f32 y1 r2, e2, ← fop_can_r .mul .f32 p r1, e1]
end Go.Fk
namespace Go.Proofs.Ytaenbpkcehenkaa
open Go.RowKit Go.Fk
theorem toI64 {d k : Nat} (h : floatToIntVal .f32 d .i64 = some (k : Int)) : ∀ w, (convert 32 2 (.float .f32 d)).run Try.prog w = .ok (.int .i64 (k : Int)) w := by
  intro w
  exact run_convert_float_int (P := Try.prog) w _ _ .f32 .i64 _ _ (by rw [Try.underlying32]; rfl) Try.underlying2 h
set_option maxRecDepth 100000 in
set_option maxHeartbeats 4000000 in
theorem i_ReadBetween (B : Nat) (s : Value) (x : Nat → Nat) (n : Nat) (k : Int) (d : Nat) (w : World) (hs : RdS w B s x n) (v : Nat) (c : Int) (h : BetwC x n k d v c) :
    Calls Try.prog 30 #[.agg #[s, .int .i64 k], .float .f32 d] w (Out_fi v c w) := by
  have HV := hid (fun (w' : World) (hl : le w w') => i_ValidRingR B s x n k w' (hs.le hl))
  have F := (Frg.nil w).box 27 #[s, .int .i64 k]
  rcases h with ⟨hv, rfl, rfl⟩ | ⟨hv, hr, rfl, rfl⟩ | ⟨hv, hr, hvv, rfl⟩
  · rw [hv] at HV
    clear hs hv
    go_enter Try.func30, Try.ntmps30
    go_wp2_with (first | ((with_reducible refine at_load rfl ?_); (with_reducible refine wpList_loadG F rfl rfl rfl m0 Try.underlying27 rfl infoRing rfl ?_)) | (go_at_call 18; ((with_reducible refine (HV.out _ F.below).mono ?_); rintro e w1 ⟨rfl, hl⟩; replace F := F.le hl; clear hl)))
    go_ret2
    exact ⟨_, rfl, by decide, F.below⟩
  · rw [hv] at HV
    obtain ⟨h1, h2, j, rfl, hj⟩ := okRing_nat hv
    obtain ⟨a, cap, y, rfl, hc, hm, hx⟩ := hs.raw h1
    unfold maxLen at hm
    have HW := hid (fun w : World => (show withinB d 1065353216 (floatOfInt .f32 (n : Int)) = false from hr) ▸ i_isWithin d 1065353216 (floatOfInt .f32 (n : Int)) w)
    clear hs hv hx hr
    go_enter Try.func30, Try.ntmps30
    go_wp2_with (first | (go_at_call 18; ((with_reducible refine (HV.out _ F.below).mono ?_); rintro e w1 ⟨rfl, hl⟩; replace F := F.le hl; clear hl; have c0 := (F.row m0).cell? 0; have c1 := (F.row m0).cell? 1)) | (go_at_call 77; refine (HW.out _).mono ?_; rintro e w' ⟨rfl, rfl⟩) | ((with_reducible refine at_loadU rfl rfl ?_); (with_reducible refine wpList_loadG F rfl rfl rfl m0 Try.underlying27 rfl infoRing rfl ?_)))
    go_ret2
    exact ⟨_, rfl, by decide, F.below⟩
  · rw [hv] at HV
    obtain ⟨h1, h2, j, rfl, hj⟩ := okRing_nat hv
    have HW := hid (fun w : World => (show withinB d 1065353216 (floatOfInt .f32 (n : Int)) = true from hr) ▸ i_isWithin d 1065353216 (floatOfInt .f32 (n : Int)) w)
    obtain ⟨hi, k1, k2⟩ := into_int (by omega) hr
    obtain ⟨sn, sx⟩ := into_share (by omega) hr
    have HI := hid (toI64 hi)
    have HVV := hid hvv
    have HB := hid (fun (w' : World) (hl : le w w') => i_back B s x n j (wholeW d) w' (hs.le hl) h1 h2 hj k2)
    have HSH : Hid (∀ p, Hid (can .f32 p = fop .sub .f32 d (floatOfInt .f32 (wholeW d : Int))) → p = shareW d) := fun p hp => (eq_of_can ((show can .f32 (shareW d) = shareW d from can_of_not sn).trans hp.out.symm) sn).symm
    have HB2 : Hid ((FloatKind.f32.format.order (shareW d) 0 == some .eq) = false → ∀ w', le w w' → Calls Try.prog 76 #[.agg #[s, .int .i64 j], .int .i64 ((wholeW d : Int) + 1)] w' (OutBk x n j (wholeW d + 1) w')) := fun hz w' hl => by
      rw [show (wholeW d : Int) + 1 = ((wholeW d + 1 : Nat) : Int) by simp]
      exact i_back B s x n j (wholeW d + 1) w' (hs.le hl) h1 h2 hj (sx hz)
    obtain ⟨a, cap, y, rfl, hc, hm, hx⟩ := hs.raw h1
    unfold maxLen at hm
    cases hz : (FloatKind.f32.format.order (shareW d) 0 == some .eq)
    · replace HB2 := hid (HB2.out hz)
      have HZ := hid hz
      have HT := hid (fun p y1 y2 r1 r2 r (hp : p = shareW d) a1 a2 a3 a4 a5 => betw_val (x := x) (n := n) (j := j) (d := d) (p := p) (y1 := y1) (y2 := y2) (r1 := r1) (r2 := r2) (r := r) hz hp a1 a2 a3 a4 a5)
      clear hs hv hx hr hvv hi sn sx
      generalize hsh : shareW d = sh at *
      generalize wholeW d = kk at *
      clear hsh
      go_enter Try.func30, Try.ntmps30
      go_wp2_with (first | (go_at_call 18; ((with_reducible refine (HV.out _ F.below).mono ?_); rintro e w1 ⟨rfl, hl⟩; replace F := F.le hl; clear hl; have c0 := (F.row m0).cell? 0; have c1 := (F.row m0).cell? 1)) | (go_at_call 77; refine (HW.out _).mono ?_; rintro e w' ⟨rfl, rfl⟩) | (with_reducible refine wpList_toInt rfl rfl rfl HI.out ?_) | (with_reducible refine wpList_farith (op := .sub) rfl rfl rfl rfl rfl ?_; intro p n1 hp fp; obtain rfl := HSH.out p hp; clear HSH) | (with_reducible refine wpList_farith (op := .sub) rfl rfl rfl rfl rfl ?_; intro p1 n2 hp1 fp1) | (with_reducible refine wpList_farith (op := .mul) rfl rfl rfl rfl rfl ?_; intro p2 n3 hp2 fp2) | (with_reducible refine wpList_farith (op := .add) rfl rfl rfl rfl rfl ?_; intro p3 n4 hp3 fp3) | (go_at_call 76; ((with_reducible refine (HB.out _ (le_trans F.below (by first | exact le_drewN _ _ | exact le_refl _))).mono ?_); rintro e w2 ⟨y2, rfl, hy2, fy2, hl⟩; replace F := (F.drewN _).le hl; have HY := hid hy2; clear hl hy2)) | (go_at_call 76; ((with_reducible refine (HB2.out _ F.below).mono ?_); rintro e w2 ⟨y3, rfl, hy3, fy3, hl⟩; replace F := F.le hl; have HY3 := hid hy3; clear hl hy3)) | ((with_reducible refine at_loadU rfl rfl ?_); first | (with_reducible refine wpList_loadG (F.drewN _) rfl rfl rfl m0 Try.underlying27 rfl infoRing rfl ?_) | (with_reducible refine wpList_loadG F rfl rfl rfl m0 Try.underlying27 rfl infoRing rfl ?_)))
      go_ret2
      exact ⟨_, rfl, (HT.out _ _ _ _ _ _ rfl HY.out HY3.out hp1.out hp2.out hp3.out).trans (by rw [HVV.out]; rfl), (F.drewN _).below⟩
    · have HE : Hid (betwR x n j d = x (backJ n j (wholeW d))) := by unfold Hid betwR; rw [if_pos hz]
      clear hs hv hx hr hvv hi sn sx HB2
      generalize hsh : shareW d = sh at *
      generalize wholeW d = kk at *
      clear hsh
      go_enter Try.func30, Try.ntmps30
      go_wp2_with (first | (go_at_call 18; ((with_reducible refine (HV.out _ F.below).mono ?_); rintro e w1 ⟨rfl, hl⟩; replace F := F.le hl; clear hl; have c0 := (F.row m0).cell? 0; have c1 := (F.row m0).cell? 1)) | (go_at_call 77; refine (HW.out _).mono ?_; rintro e w' ⟨rfl, rfl⟩) | (with_reducible refine wpList_toInt rfl rfl rfl HI.out ?_) | (with_reducible refine wpList_farith (op := .sub) rfl rfl rfl rfl rfl ?_; intro p n1 hp fp; obtain rfl := HSH.out p hp; clear HSH) | (go_at_call 76; ((with_reducible refine (HB.out _ (le_trans F.below (by first | exact le_drewN _ _ | exact le_refl _))).mono ?_); rintro e w2 ⟨y2, rfl, hy2, fy2, hl⟩; replace F := (F.drewN _).le hl; have HY := hid hy2; clear hl hy2)) | ((with_reducible refine at_loadU rfl rfl ?_); first | (with_reducible refine wpList_loadG (F.drewN _) rfl rfl rfl m0 Try.underlying27 rfl infoRing rfl ?_) | (with_reducible refine wpList_loadG F rfl rfl rfl m0 Try.underlying27 rfl infoRing rfl ?_)))
      go_ret2
      exact ⟨_, rfl, HY.out.trans (by rw [HVV.out]; exact HE.out.symm), F.below⟩
set_option maxRecDepth 100000 in
set_option maxHeartbeats 4000000 in
theorem s_ReadBetween (B : Nat) (s : Value) (x : Nat → Nat) (n : Nat) (k : Int) (d : Nat) (w : World) (hs : RdS w B s x n) (hk : (Lit.int .i64 k).wf = true) (v : Nat) (c : Int) (h : BetwC x n k d v c) :
    Calls Try.prog 29 #[.agg #[s, .int .i64 k], .float .f32 d] w (Out_fi v c w) := by
  have HV := hid (fun (w' : World) (g f : Nat) (hl : le w w') (c0 : w'.cell? ⟨g, f, none⟩ = some s) (c1 : w'.cell? ⟨g, f + 1, none⟩ = some (.int .i64 k)) => s_l02RingR B s x n k g f w' (hs.le hl) c0 c1 hk)
  have F := (Frg.nil w).box 27 #[s, .int .i64 k]
  have c0 := (F.row m0).cell? 0
  have c1 := (F.row m0).cell? 1
  clear hk
  rcases h with ⟨hv, rfl, rfl⟩ | ⟨hv, hr, rfl, rfl⟩ | ⟨hv, hr, hvv, rfl⟩
  · rw [hv] at HV
    clear hs hv
    go_enter Try.func29, Try.ntmps29
    go_wp2_with (go_at_call 67; ((with_reducible refine (HV.out _ _ 0 F.below ((F.row m0).cell? 0) ((F.row m0).cell? 1)).mono ?_); rintro e w1 ⟨rfl, rfl⟩))
    go_ret2
    exact ⟨_, rfl, by decide, F.below⟩
  · rw [hv] at HV
    obtain ⟨h1, h2, j, rfl, hj⟩ := okRing_nat hv
    obtain ⟨a, cap, y, rfl, hc, hm, hx⟩ := hs.raw h1
    unfold maxLen at hm
    have hr' : (ge1 d && leN d n) = false := hr
    clear hs hv hx hr
    cases hg : ge1 d <;> cases hl : leN d n
    case true.true => rw [hg, hl] at hr'; cases hr'
    all_goals
      clear hr'
      unfold ge1 at hg
      unfold leN at hl
      go_enter Try.func29, Try.ntmps29
      go_wp2_with (go_at_call 67; ((with_reducible refine (HV.out _ _ 0 F.below ((F.row m0).cell? 0) ((F.row m0).cell? 1)).mono ?_); rintro e w1 ⟨rfl, rfl⟩))
      go_ret2
      exact ⟨_, rfl, by decide, F.below⟩
  · rw [hv] at HV
    obtain ⟨h1, h2, j, rfl, hj⟩ := okRing_nat hv
    obtain ⟨hi, k1, k2⟩ := into_int (by omega) hr
    obtain ⟨sn, sx⟩ := into_share (by omega) hr
    have hg : ge1 d = true := (Bool.and_eq_true _ _ ▸ hr : ge1 d = true ∧ leN d n = true).1
    have hl : leN d n = true := (Bool.and_eq_true _ _ ▸ hr : ge1 d = true ∧ leN d n = true).2
    unfold ge1 at hg
    unfold leN at hl
    have HI := hid (toI64 hi)
    have HVV := hid hvv
    have HB := hid (fun (w' : World) (g f : Nat) (hl : le w w') (c0 : w'.cell? ⟨g, f, none⟩ = some s) (c1 : w'.cell? ⟨g, f + 1, none⟩ = some (.int .i64 j)) => s_l02Back B s x n j (wholeW d) g f w' (hs.le hl) c0 c1 h1 h2 hj k2)
    have HSH : Hid (∀ p, Hid (can .f32 p = fop .sub .f32 d (floatOfInt .f32 (wholeW d : Int))) → p = shareW d) := fun p hp => (eq_of_can ((show can .f32 (shareW d) = shareW d from can_of_not sn).trans hp.out.symm) sn).symm
    have HB2 : Hid ((FloatKind.f32.format.order (shareW d) 0 == some .eq) = false → ∀ (w' : World) (g f : Nat), le w w' → w'.cell? ⟨g, f, none⟩ = some s → w'.cell? ⟨g, f + 1, none⟩ = some (.int .i64 j) → Calls Try.prog 75 #[.pointer (some ⟨g, f, none⟩), .int .i64 ((wholeW d : Int) + 1)] w' (OutBk x n j (wholeW d + 1) w')) := fun hz w' g f hl c0 c1 => by
      rw [show (wholeW d : Int) + 1 = ((wholeW d + 1 : Nat) : Int) by simp]
      exact s_l02Back B s x n j (wholeW d + 1) g f w' (hs.le hl) c0 c1 h1 h2 hj (sx hz)
    obtain ⟨a, cap, y, rfl, hc, hm, hx⟩ := hs.raw h1
    unfold maxLen at hm
    cases hz : (FloatKind.f32.format.order (shareW d) 0 == some .eq)
    · replace HB2 := hid (HB2.out hz)
      have HZ := hid hz
      have HT := hid (fun p y1 y2 r1 r2 r (hp : p = shareW d) a1 a2 a3 a4 a5 => betw_val (x := x) (n := n) (j := j) (d := d) (p := p) (y1 := y1) (y2 := y2) (r1 := r1) (r2 := r2) (r := r) hz hp a1 a2 a3 a4 a5)
      clear hs hv hx hr hvv hi sn sx
      generalize hsh : shareW d = sh at *
      generalize wholeW d = kk at *
      clear hsh
      go_enter Try.func29, Try.ntmps29
      go_wp2_with (first | (go_at_call 67; ((with_reducible refine (HV.out _ _ 0 F.below ((F.row m0).cell? 0) ((F.row m0).cell? 1)).mono ?_); rintro e w1 ⟨rfl, rfl⟩)) | (with_reducible refine wpList_toInt rfl rfl rfl HI.out ?_) | (with_reducible refine wpList_farith (op := .sub) rfl rfl rfl rfl rfl ?_; intro p n1 hp fp; obtain rfl := HSH.out p hp; clear HSH) | (with_reducible refine wpList_farith (op := .sub) rfl rfl rfl rfl rfl ?_; intro p1 n2 hp1 fp1) | (with_reducible refine wpList_farith (op := .mul) rfl rfl rfl rfl rfl ?_; intro p2 n3 hp2 fp2) | (with_reducible refine wpList_farith (op := .add) rfl rfl rfl rfl rfl ?_; intro p3 n4 hp3 fp3) | (go_at_call 75; ((with_reducible refine (HB.out _ _ 0 (F.drewN _).below (((F.drewN _).row m0).cell? 0) (((F.drewN _).row m0).cell? 1)).mono ?_); rintro e w2 ⟨y2, rfl, hy2, fy2, hl⟩; replace F := (F.drewN _).le hl; have HY := hid hy2; clear hl hy2)) | (go_at_call 75; ((with_reducible refine (HB2.out _ _ 0 F.below ((F.row m0).cell? 0) ((F.row m0).cell? 1)).mono ?_); rintro e w2 ⟨y3, rfl, hy3, fy3, hl⟩; replace F := F.le hl; have HY3 := hid hy3; clear hl hy3)))
      go_ret2
      exact ⟨_, rfl, (HT.out _ _ _ _ _ _ rfl HY.out HY3.out hp1.out hp2.out hp3.out).trans (by rw [HVV.out]; rfl), (F.drewN _).below⟩
    · have HE : Hid (betwR x n j d = x (backJ n j (wholeW d))) := by unfold Hid betwR; rw [if_pos hz]
      clear hs hv hx hr hvv hi sn sx HB2
      generalize hsh : shareW d = sh at *
      generalize wholeW d = kk at *
      clear hsh
      go_enter Try.func29, Try.ntmps29
      go_wp2_with (first | (go_at_call 67; ((with_reducible refine (HV.out _ _ 0 F.below ((F.row m0).cell? 0) ((F.row m0).cell? 1)).mono ?_); rintro e w1 ⟨rfl, rfl⟩)) | (with_reducible refine wpList_toInt rfl rfl rfl HI.out ?_) | (with_reducible refine wpList_farith (op := .sub) rfl rfl rfl rfl rfl ?_; intro p n1 hp fp; obtain rfl := HSH.out p hp; clear HSH) | (go_at_call 75; ((with_reducible refine (HB.out _ _ 0 (F.drewN _).below (((F.drewN _).row m0).cell? 0) (((F.drewN _).row m0).cell? 1)).mono ?_); rintro e w2 ⟨y2, rfl, hy2, fy2, hl⟩; replace F := (F.drewN _).le hl; have HY := hid hy2; clear hl hy2)))
      go_ret2
      exact ⟨_, rfl, HY.out.trans (by rw [HVV.out]; exact HE.out.symm), F.below⟩
theorem both_ReadBetween (x : Nat → Nat) (n : Nat) (k : Int) (d : Nat) (hk : (Lit.int .i64 k).wf = true) : ∃ (v : Nat) (c : Int), (∀ (w : World) (B : Nat) (u : Value), RdS w B u x n → Calls Try.prog 29 #[.agg #[u, .int .i64 k], .float .f32 d] w (Out_fi v c w)) ∧ (∀ (w : World) (B : Nat) (u : Value), RdS w B u x n → Calls Try.prog 30 #[.agg #[u, .int .i64 k], .float .f32 d] w (Out_fi v c w)) := by
  have key : ∃ (v : Nat) (c : Int), BetwC x n k d v c := by
    cases hv : okRing n k
    · exact ⟨0, 1, .inl ⟨hv, rfl, rfl⟩⟩
    · cases h : inTo d n
      · exact ⟨0, 2, .inr (.inl ⟨hv, h, rfl, rfl⟩)⟩
      · exact ⟨_, 0, .inr (.inr ⟨hv, h, rfl, rfl⟩)⟩
  obtain ⟨v, c, h⟩ := key
  exact ⟨v, c, fun w B u hu => s_ReadBetween B u x n k d w hu hk v c h, fun w B u hu => i_ReadBetween B u x n k d w hu v c h⟩
end Go.Proofs.Ytaenbpkcehenkaa
