/- Texts of the walk, laid in one file. -/
import Derived.IntWalk
import Derived.Test.YteblmkamopfkiaaMd
set_option linter.unusedVariables false
set_option linter.unusedSimpArgs false
/- 'KeyCents', 'KeyHertz', 'PeriodOfKey' of both. -/
namespace Go.Fk
open Go Go.RowKit
theorem tdiv_up {a : Int} {n : Nat} (hn : 1 ≤ n) (h : a.tmod n < 0) : a.tdiv n - 1 = a / (n : Int) ∧ a.tmod n + n = a % (n : Int) := by
  have e1 := Int.tmod_add_mul_tdiv a n
  have b1 : -(n : Int) < a.tmod n := by
    have := Int.lt_tmod_of_pos a (show (0 : Int) < n by omega)
    omega
  have key : a / (n : Int) = a.tdiv n - 1 ∧ a % (n : Int) = a.tmod n + n := by
    refine (Int.ediv_emod_unique (by omega)).2 ⟨?_, by omega, by omega⟩
    rw [Int.mul_sub]
    omega
  exact ⟨key.1.symm, key.2.symm⟩
theorem tdiv_same {a : Int} {n : Nat} (hn : 1 ≤ n) (h : 0 ≤ a.tmod n) : a.tdiv n = a / (n : Int) ∧ a.tmod n = a % (n : Int) := by
  have e1 := Int.tmod_add_mul_tdiv a n
  have b1 := Int.tmod_lt_of_pos a (show (0 : Int) < n by omega)
  have key : a / (n : Int) = a.tdiv n ∧ a % (n : Int) = a.tmod n := (Int.ediv_emod_unique (by omega)).2 ⟨e1, h, b1⟩
  exact ⟨key.1.symm, key.2.symm⟩
theorem tdiv_in {a : Int} {n : Nat} (h1 : -100 ≤ a) (h2 : a ≤ 100) : -100 ≤ a.tdiv n ∧ a.tdiv n ≤ 100 := by
  have h := Int.natAbs_tdiv_le_natAbs a n
  omega
theorem tmod_in {a : Int} {n : Nat} (hn : 1 ≤ n) : -(n : Int) < a.tmod n ∧ a.tmod n < n := by
  have h1 := Int.lt_tmod_of_pos a (show (0 : Int) < n by omega)
  have h2 := Int.tmod_lt_of_pos a (show (0 : Int) < n by omega)
  omega
/-- A key's octaves and degree. -/
theorem key_parts {a : Int} {n : Nat} (hn : 1 ≤ n) (h1 : -100 ≤ a) (h2 : a ≤ 100) : ∃ (q : Int) (r : Nat), a / (n : Int) = q ∧ a % (n : Int) = (r : Int) ∧ r < n ∧ q * n = a - r ∧ -101 ≤ q ∧ q ≤ 100 := by
  have e := Int.mul_ediv_add_emod a n
  have e0 := Int.emod_nonneg a (show (n : Int) ≠ 0 by omega)
  have e1 := Int.emod_lt_of_pos a (show (0 : Int) < n by omega)
  refine ⟨a / n, (a % n).toNat, rfl, by omega, by omega, by rw [Int.mul_comm (n : Int) (a / n)] at e; omega, ?_⟩
  by_cases h : a.tmod n < 0
  · have := (tdiv_up hn h).1; have := tdiv_in (n := n) h1 h2; omega
  · have := (tdiv_same (a := a) hn (by omega)).1; have := tdiv_in (n := n) h1 h2; omega
def okK (k : Int) : Bool := decide (-100 ≤ k) && decide (k ≤ 100)
/-- The cents of a key. -/
def kcV (o : Nat) (x : Nat → Nat) (n : Nat) (k : Int) : Nat := fop .add .f32 (fop .mul .f32 o (floatOfInt .f32 (k / (n : Int)))) (x (k % (n : Int)).toNat)
theorem okT_n {b o : Nat} {x : Nat → Nat} {n : Nat} (h : okT b o x n = true) : 1 ≤ n ∧ n ≤ 31 := by
  unfold okT degB at h
  simp only [Bool.and_eq_true, decide_eq_true_eq] at h
  omega
end Go.Fk
namespace Go.Proofs.Yteblmkamopfkiaa
open Go.RowKit Go.Fk
set_option maxRecDepth 100000 in
set_option maxHeartbeats 2000000 in
theorem i_dividedDown (a : Int) (n : Nat) (w : World) (h1 : -100 ≤ a) (h2 : a ≤ 100) (hn : 1 ≤ n) (hn2 : n ≤ 31) : Calls Try.prog 89 #[.int .i64 a, .int .i64 (n : Int)] w fun e w' => e = .returned (.tuple #[.int .i64 (a / (n : Int)), .int .i64 (a % (n : Int))]) ∧ ∃ m, w' = w.drewN m := by
  have hq := tdiv_in (n := n) h1 h2
  have hr := tmod_in (a := a) hn
  obtain ⟨hq1, hq2⟩ := hq
  obtain ⟨hr1, hr2⟩ := hr
  by_cases h : a.tmod n < 0
  · have HU := hid (tdiv_up hn h)
    go_enter Try.func89, Try.ntmps89
    go_wp2_with fail
    go_quiet (fail)
    go_wp2
    go_ret2
    refine ⟨?_, _, rfl⟩
    rw [← HU.out.1, ← HU.out.2]
    rfl
  · have HU := hid (tdiv_same hn (by omega : 0 ≤ a.tmod n))
    go_enter Try.func89, Try.ntmps89
    go_wp2_with fail
    go_quiet (fail)
    go_wp2
    go_ret2
    refine ⟨?_, _, rfl⟩
    rw [← HU.out.1, ← HU.out.2]
    rfl
set_option maxRecDepth 100000 in
set_option maxHeartbeats 4000000 in
theorem i_cents (b o : Nat) (x : Nat → Nat) (n : Nat) (B : Nat) (s : Value) (w : World) (hs : (slT x n).RdN w B s) (k : Int) (h1 : -100 ≤ k) (h2 : k ≤ 100) (hn : 1 ≤ n) (hn2 : n ≤ 31) : Calls Try.prog 70 #[.agg #[.float .f32 b, .float .f32 o, s], .int .i64 k] w (Out_f (kcV o x n k) w) := by
  have HD := hid (fun w' => i_dividedDown k n w' h1 h2 hn hn2)
  obtain ⟨q, r, e1, e2, hr, hqn, hq1, hq2⟩ := key_parts hn h1 h2
  have HV : Hid (kcV o x n k = fop .add .f32 (fop .mul .f32 o (floatOfInt .f32 q)) (x r)) := by show kcV o x n k = _; unfold kcV; rw [e1, e2, Int.toNat_natCast]
  rw [e1, e2] at HD
  obtain ⟨bb, p, cap, y, rfl, hc, hm, hx⟩ := slT_raw hs hn
  unfold maxLen at hm
  obtain ⟨cr, _, ec⟩ := hx r hr
  have HC : Hid (can .f32 (y r) = can .f32 (x r)) := by show can .f32 (y r) = can .f32 (x r); rw [← ec, can_can]
  clear hx ec hs e1 e2 hqn hn2
  have F := (Frg.nil w).box 35 #[.float .f32 b, .float .f32 o, .slice (some ⟨bb, p, none⟩) n cap]
  have c0 := (F.row m0).cell? 0
  have c1 := (F.row m0).cell? 1
  have c2 := (F.row m0).cell? 2
  replace cr := (Below.cell F.below (cell_lt' cr)).trans cr
  have hri : (r : Int) < (n : Int) := by omega
  have HL := hid F.below
  clear F
  go_enter Try.func70, Try.ntmps70
  go_wp2_with (first | (go_at_call 89; ((with_reducible refine (HD.out _).mono ?_); rintro e w1 ⟨rfl, md, rfl⟩)))
  refine wp_region_loose (fun _ _ _ => True) (by kernel_rfl) (by kernel_rfl) ?_
  repeat (first | (with_reducible refine wpLoose_farith rfl rfl rfl rfl rfl ?_; intro rr hrr hff; simp only [Act.put, List.setIfInBounds_toArray, List.set_cons_succ, List.set_cons_zero]) | (refine wpLoose_quiet rfl ?_; go_big_quiet_step (fail); refine wpQuiet_nil ?_))
  refine wpLoose_nil (fun m1 => ?_)
  go_wp2
  go_ret
  have h2 := ‹Hid (can .f32 _ = fop .mul .f32 o (floatOfInt .f32 q))›
  refine ⟨_, rfl, ?_, le_trans HL.out (le_trans (le_drewN _ _) (le_drewN _ _))⟩
  rw [hrr.out, HV.out]
  exact fop_congr (h2.out.trans (can_fop _ _ _ _).symm |>.trans (by rw [can_fop])) HC.out
set_option maxRecDepth 100000 in
set_option maxHeartbeats 4000000 in
theorem s_l07KeyCents (b o : Nat) (x : Nat → Nat) (n : Nat) (B : Nat) (s : Value) (w : World) (hs : (slT x n).RdN w B s) (k : Int) (h1 : -100 ≤ k) (h2 : k ≤ 100) (hn : 1 ≤ n) (hn2 : n ≤ 31) (g : Nat) (R : Row w g 35 #[.float .f32 b, .float .f32 o, s]) : Calls Try.prog 68 #[.pointer (some ⟨g, 0, none⟩), .int .i64 k] w (Out_f (kcV o x n k) w) := by
  have hq := tdiv_in (n := n) h1 h2
  have hr0 := tmod_in (a := k) hn
  obtain ⟨hq3, hq4⟩ := hq
  obtain ⟨hr1, hr2⟩ := hr0
  obtain ⟨q, r, e1, e2, hr, hqn, hq1, hq2⟩ := key_parts hn h1 h2
  have HV : Hid (kcV o x n k = fop .add .f32 (fop .mul .f32 o (floatOfInt .f32 q)) (x r)) := by show kcV o x n k = _; unfold kcV; rw [e1, e2, Int.toNat_natCast]
  obtain ⟨bb, p, cap, y, rfl, hc, hm, hx⟩ := slT_raw hs hn
  unfold maxLen at hm
  obtain ⟨cr, _, ec⟩ := hx r hr
  have HC : Hid (can .f32 (y r) = can .f32 (x r)) := by show can .f32 (y r) = can .f32 (x r); rw [← ec, can_can]
  have c1 := R.cell? 1
  have c2 := R.cell? 2
  have hri : (r : Int) < (n : Int) := by omega
  have g1 : IntKind.i64.wrap (q * (n : Int)) = k - r := by rw [IntWalk.i64_in _ (by omega), hqn]
  have g2 : IntKind.i64.wrap (k - (k - (r : Int))) = (r : Int) := by rw [IntWalk.i64_in _ (by omega)]; omega
  have g3 : wrap64 (q * (n : Int)) = k - r := by rw [IntWalk.wrap64_in _ (by omega), hqn]
  by_cases h : k.tmod n < 0
  · have d1 : k.tdiv n - 1 = q := (tdiv_up hn h).1.trans e1
    clear hx ec hs e1 e2 hqn hn2 R
    go_enter Try.func68, Try.ntmps68
    go_wp2_with fail
    refine wp_region_loose (fun _ _ _ => True) (by kernel_rfl) (by kernel_rfl) ?_
    repeat (first | (with_reducible refine wpLoose_farith rfl rfl rfl rfl rfl ?_; intro rr hrr hff; simp only [Act.put, List.setIfInBounds_toArray, List.set_cons_succ, List.set_cons_zero]) | (with_reducible refine wpLoose_nil' rfl rfl rfl ?_; simp only [Act.put, List.setIfInBounds_toArray, List.set_cons_succ, List.set_cons_zero]) | (refine wpLoose_quiet rfl ?_; go_big_quiet_step (fail); refine wpQuiet_nil ?_))
    refine wpLoose_nil (fun m1 => ?_)
    go_wp2
    go_ret
    have h2 := ‹Hid (can .f32 _ = fop .mul .f32 o (floatOfInt .f32 q))›
    refine ⟨_, rfl, ?_, le_drewN _ _⟩
    rw [hrr.out, HV.out]
    exact fop_congr (h2.out.trans (can_fop _ _ _ _).symm |>.trans (by rw [can_fop])) HC.out
  · have d1 : k.tdiv n = q := (tdiv_same hn (by omega : 0 ≤ k.tmod n)).1.trans e1
    clear hx ec hs e1 e2 hqn hn2 R hq3 hq4
    go_enter Try.func68, Try.ntmps68
    go_wp2_with fail
    refine wp_region_loose (fun _ _ _ => True) (by kernel_rfl) (by kernel_rfl) ?_
    repeat (first | (with_reducible refine wpLoose_farith rfl rfl rfl rfl rfl ?_; intro rr hrr hff; simp only [Act.put, List.setIfInBounds_toArray, List.set_cons_succ, List.set_cons_zero]) | (with_reducible refine wpLoose_nil' rfl rfl rfl ?_; simp only [Act.put, List.setIfInBounds_toArray, List.set_cons_succ, List.set_cons_zero]) | (refine wpLoose_quiet rfl ?_; go_big_quiet_step (fail); refine wpQuiet_nil ?_))
    refine wpLoose_nil (fun m1 => ?_)
    go_wp2
    go_ret
    have h2 := ‹Hid (can .f32 _ = fop .mul .f32 o (floatOfInt .f32 q))›
    refine ⟨_, rfl, ?_, le_drewN _ _⟩
    rw [hrr.out, HV.out]
    exact fop_congr (h2.out.trans (can_fop _ _ _ _).symm |>.trans (by rw [can_fop])) HC.out
theorem s_l07Key (k : Int) (w : World) : Calls Try.prog 67 #[.int .i64 k] w fun e w' => e = .returned (.bool (okK k)) ∧ w = w' := by
  have HI := hid (fun w' => s_In k (-100) 100 w')
  go_enter Try.func67, Try.ntmps67
  go_wp2_with (go_at_call 65; ((with_reducible refine (HI.out _).mono ?_); rintro e w1 ⟨rfl, rfl⟩))
  go_ret
  exact ⟨rfl, rfl⟩
def codeK (b o : Nat) (x : Nat → Nat) (n : Nat) (k : Int) : Int := if okT b o x n then (if okK k then 0 else 2) else 1
def kcR (b o : Nat) (x : Nat → Nat) (n : Nat) (k : Int) : Nat := if okT b o x n then (if okK k then kcV o x n k else 0) else 0
set_option maxRecDepth 100000 in
set_option maxHeartbeats 4000000 in
theorem i_codeOfKey (b o : Nat) (x : Nat → Nat) (n : Nat) (B : Nat) (s : Value) (w : World) (hs : (slT x n).RdN w B s) (k : Int) : Calls Try.prog 69 #[.agg #[.float .f32 b, .float .f32 o, s], .int .i64 k] w fun e w' => e = .returned (.int .i64 (codeK b o x n k)) ∧ le w w' := by
  have HV := hid (fun (w' : World) (hl : le w w') => i_ValidTuning b o x n B s w' (hs.le hl))
  clear hs
  have F := (Frg.nil w).box 35 #[.float .f32 b, .float .f32 o, s]
  cases h : okT b o x n
  · have e : codeK b o x n k = 1 := by unfold codeK; rw [h]; rfl
    rw [e]; rw [h] at HV
    clear h e
    go_enter Try.func69, Try.ntmps69
    go_wp2_with (first | ((with_reducible refine at_loadU (ty := 35) rfl rfl ?_); (with_reducible refine wpList_loadG F rfl rfl rfl (by first | exact m0 | exact m1 | exact m2) Try.underlying35 rfl uinfoTuningI rfl ?_)) | (go_at_call 25; ((with_reducible refine (HV.out _ F.below).mono ?_); rintro e w1 ⟨rfl, hl⟩; replace F := F.le hl; clear hl)))
    go_ret
    exact ⟨rfl, F.below⟩
  · rw [h] at HV
    by_cases k1 : -100 ≤ k
    · by_cases k2 : k ≤ 100
      · have e : codeK b o x n k = 0 := by unfold codeK okK; rw [h]; simp [k1, k2]
        rw [e]
        clear h e
        go_enter Try.func69, Try.ntmps69
        go_wp2_with (first | ((with_reducible refine at_loadU (ty := 35) rfl rfl ?_); (with_reducible refine wpList_loadG F rfl rfl rfl (by first | exact m0 | exact m1 | exact m2) Try.underlying35 rfl uinfoTuningI rfl ?_)) | (go_at_call 25; ((with_reducible refine (HV.out _ F.below).mono ?_); rintro e w1 ⟨rfl, hl⟩; replace F := F.le hl; clear hl)))
        go_ret
        exact ⟨rfl, F.below⟩
      · have e : codeK b o x n k = 2 := by unfold codeK okK; rw [h]; simp [k2]
        rw [e]
        clear h e
        go_enter Try.func69, Try.ntmps69
        go_wp2_with (first | ((with_reducible refine at_loadU (ty := 35) rfl rfl ?_); (with_reducible refine wpList_loadG F rfl rfl rfl (by first | exact m0 | exact m1 | exact m2) Try.underlying35 rfl uinfoTuningI rfl ?_)) | (go_at_call 25; ((with_reducible refine (HV.out _ F.below).mono ?_); rintro e w1 ⟨rfl, hl⟩; replace F := F.le hl; clear hl)))
        go_ret
        exact ⟨rfl, F.below⟩
    · have e : codeK b o x n k = 2 := by unfold codeK okK; rw [h]; simp [k1]
      rw [e]
      clear h e
      go_enter Try.func69, Try.ntmps69
      go_wp2_with (first | ((with_reducible refine at_loadU (ty := 35) rfl rfl ?_); (with_reducible refine wpList_loadG F rfl rfl rfl (by first | exact m0 | exact m1 | exact m2) Try.underlying35 rfl uinfoTuningI rfl ?_)) | (go_at_call 25; ((with_reducible refine (HV.out _ F.below).mono ?_); rintro e w1 ⟨rfl, hl⟩; replace F := F.le hl; clear hl)))
      go_ret
      exact ⟨rfl, F.below⟩
theorem okK_in {k : Int} (h : okK k = true) : -100 ≤ k ∧ k ≤ 100 := by simpa [okK] using h
set_option maxRecDepth 100000 in
set_option maxHeartbeats 4000000 in
theorem i_KeyCents (b o : Nat) (x : Nat → Nat) (n : Nat) (B : Nat) (s : Value) (w : World) (hs : (slT x n).RdN w B s) (k : Int) : Calls Try.prog 34 #[.agg #[.float .f32 b, .float .f32 o, s], .int .i64 k] w (Out_fi (kcR b o x n k) (codeK b o x n k) w) := by
  have HD := hid (fun (w' : World) (hl : le w w') => i_codeOfKey b o x n B s w' (hs.le hl) k)
  have F := (Frg.nil w).box 35 #[.float .f32 b, .float .f32 o, s]
  cases h : okT b o x n
  · have e1 : codeK b o x n k = 1 := by unfold codeK; rw [h]; rfl
    have e2 : kcR b o x n k = 0 := by unfold kcR; rw [h]; rfl
    rw [e2]; rw [e1] at HD ⊢
    clear h e1 e2 hs
    go_enter Try.func34, Try.ntmps34
    go_wp2_with (first | ((with_reducible refine at_loadU (ty := 35) rfl rfl ?_); (with_reducible refine wpList_loadG F rfl rfl rfl (by first | exact m0 | exact m1 | exact m2) Try.underlying35 rfl uinfoTuningI rfl ?_)) | (go_at_call 69; ((with_reducible refine (HD.out _ F.below).mono ?_); rintro e w1 ⟨rfl, hl⟩; replace F := F.le hl; clear hl)))
    go_ret2
    exact ⟨_, rfl, by decide, F.below⟩
  · cases h' : okK k
    · have e1 : codeK b o x n k = 2 := by unfold codeK; rw [h, h']; rfl
      have e2 : kcR b o x n k = 0 := by unfold kcR; rw [h, h']; rfl
      rw [e2]; rw [e1] at HD ⊢
      clear h e1 e2 hs h'
      go_enter Try.func34, Try.ntmps34
      go_wp2_with (first | ((with_reducible refine at_loadU (ty := 35) rfl rfl ?_); (with_reducible refine wpList_loadG F rfl rfl rfl (by first | exact m0 | exact m1 | exact m2) Try.underlying35 rfl uinfoTuningI rfl ?_)) | (go_at_call 69; ((with_reducible refine (HD.out _ F.below).mono ?_); rintro e w1 ⟨rfl, hl⟩; replace F := F.le hl; clear hl)))
      go_ret2
      exact ⟨_, rfl, by decide, F.below⟩
    · have e1 : codeK b o x n k = 0 := by unfold codeK; rw [h, h']; rfl
      have e2 : kcR b o x n k = kcV o x n k := by unfold kcR; rw [h, h']; rfl
      obtain ⟨hn, hn2⟩ := okT_n h
      obtain ⟨k1, k2⟩ := okK_in h'
      have HC := hid (fun (w' : World) (hl : le w w') => i_cents b o x n B s w' (hs.le hl) k k1 k2 hn hn2)
      rw [e2]; rw [e1] at HD ⊢
      clear h e1 e2 hs h'
      go_enter Try.func34, Try.ntmps34
      go_wp2_with (first | ((with_reducible refine at_loadU (ty := 35) rfl rfl ?_); (with_reducible refine wpList_loadG F rfl rfl rfl (by first | exact m0 | exact m1 | exact m2) Try.underlying35 rfl uinfoTuningI rfl ?_)) | (go_at_call 69; ((with_reducible refine (HD.out _ F.below).mono ?_); rintro e w1 ⟨rfl, hl⟩; replace F := F.le hl; clear hl)) | (go_at_call 70; ((with_reducible refine (HC.out _ F.below).mono ?_); rintro e w1 ⟨v, rfl, hv, hl⟩; have HVV := hid hv; replace F := F.le hl; clear hl hv)))
      go_ret2
      exact ⟨_, rfl, HVV.out, F.below⟩
set_option maxRecDepth 100000 in
set_option maxHeartbeats 4000000 in
theorem s_KeyCents (b o : Nat) (x : Nat → Nat) (n : Nat) (B : Nat) (s : Value) (w : World) (hs : (slT x n).RdN w B s) (k : Int) : Calls Try.prog 33 #[.agg #[.float .f32 b, .float .f32 o, s], .int .i64 k] w (Out_fi (kcR b o x n k) (codeK b o x n k) w) := by
  have HV := hid (fun (w' : World) (g : Nat) (hl : le w w') (R : Row w' g 35 #[.float .f32 b, .float .f32 o, s]) => s_l07Ok b o x n B s w' (hs.le hl) g R)
  have HK := hid (fun w' => s_l07Key k w')
  have F := (Frg.nil w).box 35 #[.float .f32 b, .float .f32 o, s]
  cases h : okT b o x n
  · have e1 : codeK b o x n k = 1 := by unfold codeK; rw [h]; rfl
    have e2 : kcR b o x n k = 0 := by unfold kcR; rw [h]; rfl
    rw [e1, e2]; rw [h] at HV
    clear h e1 e2 hs
    go_enter Try.func33, Try.ntmps33
    go_wp2_with (first | (go_at_call 57; ((with_reducible refine (HV.out _ _ F.below (F.row m0)).mono ?_); rintro e w1 ⟨rfl, hl⟩; replace F := F.le hl; clear hl)) | (go_at_call 67; ((with_reducible refine (HK.out _).mono ?_); rintro e w1 ⟨rfl, rfl⟩)))
    go_ret2
    exact ⟨_, rfl, by decide, F.below⟩
  · cases h' : okK k
    · have e1 : codeK b o x n k = 2 := by unfold codeK; rw [h, h']; rfl
      have e2 : kcR b o x n k = 0 := by unfold kcR; rw [h, h']; rfl
      rw [e1, e2]; rw [h] at HV
      rw [h'] at HK
      clear h e1 e2 hs h'
      go_enter Try.func33, Try.ntmps33
      go_wp2_with (first | (go_at_call 57; ((with_reducible refine (HV.out _ _ F.below (F.row m0)).mono ?_); rintro e w1 ⟨rfl, hl⟩; replace F := F.le hl; clear hl)) | (go_at_call 67; ((with_reducible refine (HK.out _).mono ?_); rintro e w1 ⟨rfl, rfl⟩)))
      go_ret2
      exact ⟨_, rfl, by decide, F.below⟩
    · have e1 : codeK b o x n k = 0 := by unfold codeK; rw [h, h']; rfl
      have e2 : kcR b o x n k = kcV o x n k := by unfold kcR; rw [h, h']; rfl
      obtain ⟨hn, hn2⟩ := okT_n h
      obtain ⟨k1, k2⟩ := okK_in h'
      have HC := hid (fun (w' : World) (g : Nat) (hl : le w w') (R : Row w' g 35 #[.float .f32 b, .float .f32 o, s]) => s_l07KeyCents b o x n B s w' (hs.le hl) k k1 k2 hn hn2 g R)
      rw [e1, e2]; rw [h] at HV
      rw [h'] at HK
      clear h e1 e2 hs h'
      go_enter Try.func33, Try.ntmps33
      go_wp2_with (first | (go_at_call 57; ((with_reducible refine (HV.out _ _ F.below (F.row m0)).mono ?_); rintro e w1 ⟨rfl, hl⟩; replace F := F.le hl; clear hl)) | (go_at_call 67; ((with_reducible refine (HK.out _).mono ?_); rintro e w1 ⟨rfl, rfl⟩)) | (go_at_call 68; ((with_reducible refine (HC.out _ _ F.below (F.row m0)).mono ?_); rintro e w1 ⟨v, rfl, hv, hl⟩; have HVV := hid hv; replace F := F.le hl; clear hl hv)))
      go_ret2
      exact ⟨_, rfl, HVV.out, F.below⟩
theorem both_KeyCents (cs : List CD) (h : HasShL shTuning cs) (k : Int) : ∃ (ar0 : Nat) (ar1 : Int), (∀ (w : World) (B : Nat) (u : List Value), RdLN w B (cs.map CD.cp) u → Calls Try.prog 33 #[.agg u.toArray, .int .i64 k] w (Out_fi ar0 ar1 w)) ∧ (∀ (w : World) (B : Nat) (u : List Value), RdLN w B (cs.map CD.cp) u → Calls Try.prog 34 #[.agg u.toArray, .int .i64 k] w (Out_fi ar0 ar1 w)) := by
  obtain ⟨b, o, xs, n, rfl, hx⟩ := tun_data h
  refine ⟨kcR b o (fun i => (xs i).fx) n k, codeK b o (fun i => (xs i).fx) n k, fun w B u hu => ?_, fun w B u hu => ?_⟩
  · obtain ⟨s, rfl, hs, _, _⟩ := tun_open hu hx
    exact s_KeyCents b o (fun i => (xs i).fx) n B s w hs k
  · obtain ⟨s, rfl, hs, _, _⟩ := tun_open hu hx
    exact i_KeyCents b o (fun i => (xs i).fx) n B s w hs k
def hqV (o : Nat) (x : Nat → Nat) (n : Nat) (k : Int) : Nat := fop .quo .f32 (kcV o x n k) 1150681088
def khV (b o : Nat) (x : Nat → Nat) (n : Nat) (k : Int) : Nat := fop .mul .f32 b (twV (hqV o x n k))
def codeH (b o : Nat) (x : Nat → Nat) (n : Nat) (k : Int) : Int := if okT b o x n then (if okK k then (if okTw (hqV o x n k) then 0 else 2) else 2) else 1
def khR (b o : Nat) (x : Nat → Nat) (n : Nat) (k : Int) : Nat := if okT b o x n then (if okK k then (if okTw (hqV o x n k) then khV b o x n k else 0) else 0) else 0
theorem val_1f : val .f32 1065353216 = 2 ^ 149 ∧ isNan .f32 1065353216 = false := by decide +kernel
theorem val_20k : val .f32 1184645120 = 20000 * 2 ^ 149 ∧ isNan .f32 1184645120 = false := by decide +kernel
theorem k20_160 : (20000 : Int) * 2 ^ 149 ≤ 2 ^ 165 := by decide +kernel
theorem far_166 : (2 : Int) ^ 166 < (far : Int) := by decide +kernel
theorem base_zero {b : Nat} (h : withinB b 1065353216 1184645120 = true) : fop .mul .f32 b 0 = 0 := by
  obtain ⟨hn, h1, h2⟩ := within_val val_1f.2 val_20k.2 h
  rw [val_1f.1] at h1
  rw [val_20k.1] at h2
  have f1 := k20_160
  have f2 := far_166
  have f3 : (2 : Int) ^ 165 < 2 ^ 166 := by decide
  have f4 : (0 : Int) < 2 ^ 149 := by decide
  obtain ⟨s, m, e, hr⟩ := finite_num hn (by generalize (2 : Int) ^ 149 = U at *; generalize (2 : Int) ^ 165 = A at *; generalize (2 : Int) ^ 166 = C at *; omega) (by generalize (2 : Int) ^ 149 = U at *; generalize (2 : Int) ^ 165 = A at *; generalize (2 : Int) ^ 166 = C at *; omega)
  have hz : FloatKind.f32.format.read 0 = .number false 0 (-149) := by decide
  have hv : val .f32 b = Ieee.signed s m (e + 149).toNat := by simp only [val, hr]; rfl
  have hs : s = false := by
    cases s
    · rfl
    · exfalso
      rw [hv, signed_eq] at h1
      simp only [if_true] at h1
      have : (0 : Int) ≤ (m : Int) * 2 ^ (e + 149).toNat := Int.mul_nonneg (by omega) (Int.le_of_lt (Int.pow_pos (by omega)))
      rw [Int.neg_mul] at h1
      generalize (2 : Int) ^ 149 = U at *
      omega
  subst hs
  have hb : floatBits .mul .f32 b 0 = some (FloatKind.f32.format.nearest (false ^^ false) (m * 0) (e + -149)) := by
    simp only [floatBits, Ieee.Format.mul, hr, hz, Ieee.Datum.product, Option.map_some]; rfl
  rw [Nat.mul_zero] at hb
  have : FloatKind.f32.format.nearest (false ^^ false) 0 (e + -149) = 0 := by simp [Ieee.Format.nearest, Ieee.Format.word]
  rw [this] at hb
  exact fop_some hb (by decide)
theorem okT_b {b o : Nat} {x : Nat → Nat} {n : Nat} (h : okT b o x n = true) : withinB b 1065353216 1184645120 = true := by
  unfold okT at h
  rw [Bool.and_eq_true] at h
  exact h.1
theorem kh_no {b o : Nat} {x : Nat → Nat} {n : Nat} {k : Int} (h : okT b o x n = true) (h2 : okTw (hqV o x n k) = false) : khV b o x n k = 0 := by
  unfold khV twV
  rw [h2]
  exact base_zero (okT_b h)
set_option maxRecDepth 100000 in
set_option maxHeartbeats 4000000 in
theorem i_hertz (b o : Nat) (x : Nat → Nat) (n : Nat) (B : Nat) (s : Value) (w : World) (hs : (slT x n).RdN w B s) (k : Int) (h1 : -100 ≤ k) (h2 : k ≤ 100) (hn : 1 ≤ n) (hn2 : n ≤ 31) : Calls Try.prog 72 #[.agg #[.float .f32 b, .float .f32 o, s], .int .i64 k] w (Out_fi (khV b o x n k) (if okTw (hqV o x n k) then 0 else 2) w) := by
  have HC := hid (fun (w' : World) (hl : le w w') => i_cents b o x n B s w' (hs.le hl) k h1 h2 hn hn2)
  have HT := hid (fun (c r : Nat) (w' : World) (hc : can .f32 c = kcV o x n k) (hr : can .f32 r = fop .quo .f32 c 1150681088) => (show Calls Try.prog 16 #[.float .f32 r] w' (Out_fi (twV (hqV o x n k)) (if okTw (hqV o x n k) then 0 else 2) w') from by
    have e : can .f32 r = can .f32 (hqV o x n k) := by
      rw [hr]; unfold hqV; rw [can_fop]; exact fop_congr (hc.trans (by unfold kcV; rw [can_fop])) rfl
    rw [← twV_congr e, ← okTw_congr e]
    exact i_TwoTo r w'))
  clear hs
  have F := (Frg.nil w).box 35 #[.float .f32 b, .float .f32 o, s]
  generalize hcd : (if okTw (hqV o x n k) then (0 : Int) else 2) = cd at *
  have HV : Hid (khV b o x n k = fop .mul .f32 b (twV (hqV o x n k))) := rfl
  clear hcd
  go_enter Try.func72, Try.ntmps72
  go_wp2_with (first | ((with_reducible refine at_load rfl ?_); first | (with_reducible refine wpList_load1 F rfl rfl rfl m0 (f := 0) (v := .float .f32 b) rfl ukindFloat32 ?_)) | ((with_reducible refine at_loadU (ty := 35) rfl rfl ?_); (with_reducible refine wpList_loadG F rfl rfl rfl (by first | exact m0 | exact m1 | exact m2) Try.underlying35 rfl uinfoTuningI rfl ?_)) | (go_at_call 70; ((with_reducible refine (HC.out _ F.below).mono ?_); rintro e w1 ⟨c, rfl, hc, hl⟩; have HCC := hid hc; replace F := F.le hl; clear hl hc)) | (with_reducible refine wpList_farith (op := .quo) rfl rfl rfl rfl rfl ?_; intro r nr er fr; replace F := F.drewN nr) | (go_at_call 16; ((with_reducible refine (HT.out c _ _ HCC.out er.out).mono ?_); rintro e w2 ⟨v, rfl, hv, hl⟩; have HVV := hid hv; replace F := F.le hl; clear hl hv)) | (with_reducible refine wpList_farith (op := .mul) rfl rfl rfl rfl rfl ?_; intro z nz ez fz; replace F := F.drewN nz))
  go_ret2
  refine ⟨_, rfl, ?_, F.below⟩
  rw [ez.out, HV.out]
  exact fop_congr rfl (by rw [HVV.out]; unfold twV; split; · unfold pwV; rw [can_can]
                          · decide)
set_option maxRecDepth 100000 in
set_option maxHeartbeats 4000000 in
theorem i_KeyHertz (b o : Nat) (x : Nat → Nat) (n : Nat) (B : Nat) (s : Value) (w : World) (hs : (slT x n).RdN w B s) (k : Int) : Calls Try.prog 36 #[.agg #[.float .f32 b, .float .f32 o, s], .int .i64 k] w (Out_fi (khR b o x n k) (codeH b o x n k) w) := by
  have HD := hid (fun (w' : World) (hl : le w w') => i_codeOfKey b o x n B s w' (hs.le hl) k)
  have F := (Frg.nil w).box 35 #[.float .f32 b, .float .f32 o, s]
  cases h : okT b o x n
  · have e1 : codeH b o x n k = 1 := by unfold codeH; rw [h]; rfl
    have e2 : khR b o x n k = 0 := by unfold khR; rw [h]; rfl
    have e3 : codeK b o x n k = 1 := by unfold codeK; rw [h]; rfl
    rw [e1, e2]; rw [e3] at HD
    clear h e1 e2 e3 hs
    go_enter Try.func36, Try.ntmps36
    go_wp2_with (first | ((with_reducible refine at_loadU (ty := 35) rfl rfl ?_); (with_reducible refine wpList_loadG F rfl rfl rfl (by first | exact m0 | exact m1 | exact m2) Try.underlying35 rfl uinfoTuningI rfl ?_)) | (go_at_call 69; ((with_reducible refine (HD.out _ F.below).mono ?_); rintro e w1 ⟨rfl, hl⟩; replace F := F.le hl; clear hl)))
    go_ret2
    exact ⟨_, rfl, by decide, F.below⟩
  · obtain ⟨hn, hn2⟩ := okT_n h
    cases h' : okK k
    · have e1 : codeH b o x n k = 2 := by unfold codeH; rw [h, h']; rfl
      have e2 : khR b o x n k = 0 := by unfold khR; rw [h, h']; rfl
      have e3 : codeK b o x n k = 2 := by unfold codeK; rw [h, h']; rfl
      rw [e1, e2]; rw [e3] at HD
      clear h e1 e2 e3 hs h'
      go_enter Try.func36, Try.ntmps36
      go_wp2_with (first | ((with_reducible refine at_loadU (ty := 35) rfl rfl ?_); (with_reducible refine wpList_loadG F rfl rfl rfl (by first | exact m0 | exact m1 | exact m2) Try.underlying35 rfl uinfoTuningI rfl ?_)) | (go_at_call 69; ((with_reducible refine (HD.out _ F.below).mono ?_); rintro e w1 ⟨rfl, hl⟩; replace F := F.le hl; clear hl)))
      go_ret2
      exact ⟨_, rfl, by decide, F.below⟩
    · obtain ⟨k1, k2⟩ := okK_in h'
      cases h3 : okTw (hqV o x n k)
      · have e1 : codeH b o x n k = 2 := by unfold codeH; rw [h, h', h3]; rfl
        have e2 : khR b o x n k = khV b o x n k := by unfold khR; rw [h, h', h3, kh_no h h3]; rfl
        have e3 : codeK b o x n k = 0 := by unfold codeK; rw [h, h']; rfl
        have HC := hid (fun (w' : World) (hl : le w w') => i_hertz b o x n B s w' (hs.le hl) k k1 k2 hn hn2)
        rw [h3] at HC
        rw [e1, e2]; rw [e3] at HD
        clear h e1 e2 e3 hs h' h3
        go_enter Try.func36, Try.ntmps36
        go_wp2_with (first | ((with_reducible refine at_loadU (ty := 35) rfl rfl ?_); (with_reducible refine wpList_loadG F rfl rfl rfl (by first | exact m0 | exact m1 | exact m2) Try.underlying35 rfl uinfoTuningI rfl ?_)) | (go_at_call 69; ((with_reducible refine (HD.out _ F.below).mono ?_); rintro e w1 ⟨rfl, hl⟩; replace F := F.le hl; clear hl)) | (go_at_call 72; ((with_reducible refine (HC.out _ F.below).mono ?_); rintro e w1 ⟨v, rfl, hv, hl⟩; have HVV := hid hv; replace F := F.le hl; clear hl hv)))
        go_ret2
        exact ⟨_, rfl, HVV.out, F.below⟩
      · have e1 : codeH b o x n k = 0 := by unfold codeH; rw [h, h', h3]; rfl
        have e2 : khR b o x n k = khV b o x n k := by unfold khR; rw [h, h', h3]; rfl
        have e3 : codeK b o x n k = 0 := by unfold codeK; rw [h, h']; rfl
        have HC := hid (fun (w' : World) (hl : le w w') => i_hertz b o x n B s w' (hs.le hl) k k1 k2 hn hn2)
        rw [h3] at HC
        rw [e1, e2]; rw [e3] at HD
        clear h e1 e2 e3 hs h' h3
        go_enter Try.func36, Try.ntmps36
        go_wp2_with (first | ((with_reducible refine at_loadU (ty := 35) rfl rfl ?_); (with_reducible refine wpList_loadG F rfl rfl rfl (by first | exact m0 | exact m1 | exact m2) Try.underlying35 rfl uinfoTuningI rfl ?_)) | (go_at_call 69; ((with_reducible refine (HD.out _ F.below).mono ?_); rintro e w1 ⟨rfl, hl⟩; replace F := F.le hl; clear hl)) | (go_at_call 72; ((with_reducible refine (HC.out _ F.below).mono ?_); rintro e w1 ⟨v, rfl, hv, hl⟩; have HVV := hid hv; replace F := F.le hl; clear hl hv)))
        go_ret2
        exact ⟨_, rfl, HVV.out, F.below⟩
set_option maxRecDepth 100000 in
set_option maxHeartbeats 4000000 in
theorem s_l07Hertz (b o : Nat) (x : Nat → Nat) (n : Nat) (B : Nat) (s : Value) (w : World) (hs : (slT x n).RdN w B s) (k : Int) (h1 : -100 ≤ k) (h2 : k ≤ 100) (hn : 1 ≤ n) (hn2 : n ≤ 31) (g : Nat) (R : Row w g 35 #[.float .f32 b, .float .f32 o, s]) : Calls Try.prog 90 #[.pointer (some ⟨g, 0, none⟩), .int .i64 k] w fun e w' => ∃ v, e = .returned (.tuple #[.float .f32 v, .bool (okTw (hqV o x n k))]) ∧ can .f32 v = khV b o x n k ∧ le w w' := by
  have HC := hid (s_l07KeyCents b o x n B s w hs k h1 h2 hn hn2 g R)
  have HT := hid (fun (c r : Nat) (w' : World) (hc : can .f32 c = kcV o x n k) (hr : can .f32 r = fop .quo .f32 c 1150681088) => (show Calls Try.prog 48 #[.float .f32 r] w' (fun e w'' => ∃ v, e = .returned (.tuple #[.float .f32 v, .bool (okTw (hqV o x n k))]) ∧ can .f32 v = can .f32 (twV (hqV o x n k)) ∧ le w' w'') from by
    have e : can .f32 r = can .f32 (hqV o x n k) := by
      rw [hr]; unfold hqV; rw [can_fop]; exact fop_congr (hc.trans (by unfold kcV; rw [can_fop])) rfl
    cases h : okTw (hqV o x n k)
    · refine (s_l07Two_no r w' ((okTw_congr e).trans h)).mono ?_
      rintro e w2 ⟨rfl, hl⟩
      exact ⟨_, rfl, by unfold twV; rw [h]; rfl, hl⟩
    · refine (s_l07Two r w' ((okTw_congr e).trans h)).mono ?_
      rintro e w2 ⟨v, rfl, hv, hl⟩
      refine ⟨_, rfl, ?_, hl⟩
      rw [hv, (pw_congr ‹can .f32 r = can .f32 (hqV o x n k)›).2.2]
      unfold twV
      rw [h, if_pos rfl]
      unfold pwV
      rw [can_can]))
  have C0 := hid (R.cell? 0)
  clear hs R
  generalize okTw (hqV o x n k) = cd at *
  have HV : Hid (khV b o x n k = fop .mul .f32 b (twV (hqV o x n k))) := rfl
  have F := Frg.nil w
  go_enter Try.func90, Try.ntmps90
  go_wp2_with (first | (go_at_call 68; ((with_reducible refine HC.out.mono ?_); rintro e w1 ⟨c, rfl, hc, hl⟩; have HCC := hid hc; replace F := F.le hl; clear hl hc)) | (with_reducible refine wpList_farith (op := .quo) rfl rfl rfl rfl rfl ?_; intro r nr er fr; replace F := F.drewN nr) | (go_at_call 48; ((with_reducible refine (HT.out c _ _ HCC.out er.out).mono ?_); rintro e w2 ⟨v, rfl, hv, hl⟩; have HVV := hid hv; replace F := F.le hl; have c0 := (Below.cell F.below (cell_lt' C0.out)).trans C0.out; clear hl hv)) | (with_reducible refine wpList_farith (op := .mul) rfl rfl rfl rfl rfl ?_; intro z nz ez fz; replace F := F.drewN nz))
  go_ret2
  refine ⟨_, rfl, ?_, F.below⟩
  rw [ez.out, HV.out]
  exact fop_congr rfl HVV.out
set_option maxRecDepth 100000 in
set_option maxHeartbeats 4000000 in
theorem s_l07Asked (b o : Nat) (x : Nat → Nat) (n : Nat) (B : Nat) (s : Value) (w : World) (hs : (slT x n).RdN w B s) (k : Int) (g : Nat) (R : Row w g 35 #[.float .f32 b, .float .f32 o, s]) : Calls Try.prog 71 #[.pointer (some ⟨g, 0, none⟩), .int .i64 k] w (Out_fi (khR b o x n k) (codeH b o x n k) w) := by
  have HV := hid (fun (w' : World) (g : Nat) (hl : le w w') (R : Row w' g 35 #[.float .f32 b, .float .f32 o, s]) => s_l07Ok b o x n B s w' (hs.le hl) g R)
  have HK := hid (fun w' => s_l07Key k w')
  have F := Frg.nil w
  have RR := hid R
  clear R
  cases h : okT b o x n
  · have e1 : codeH b o x n k = 1 := by unfold codeH; rw [h]; rfl
    have e2 : khR b o x n k = 0 := by unfold khR; rw [h]; rfl
    rw [e1, e2]; rw [h] at HV
    clear h e1 e2 hs
    go_enter Try.func71, Try.ntmps71
    go_wp2_with (first | (go_at_call 57; ((with_reducible refine (HV.out _ _ F.below (RR.out.le F.below)).mono ?_); rintro e w1 ⟨rfl, hl⟩; replace F := F.le hl; clear hl)) | (go_at_call 67; ((with_reducible refine (HK.out _).mono ?_); rintro e w1 ⟨rfl, rfl⟩)))
    go_ret2
    exact ⟨_, rfl, by decide, F.below⟩
  · obtain ⟨hn, hn2⟩ := okT_n h
    cases h' : okK k
    · have e1 : codeH b o x n k = 2 := by unfold codeH; rw [h, h']; rfl
      have e2 : khR b o x n k = 0 := by unfold khR; rw [h, h']; rfl
      rw [e1, e2]; rw [h] at HV
      rw [h'] at HK
      clear h e1 e2 hs h'
      go_enter Try.func71, Try.ntmps71
      go_wp2_with (first | (go_at_call 57; ((with_reducible refine (HV.out _ _ F.below (RR.out.le F.below)).mono ?_); rintro e w1 ⟨rfl, hl⟩; replace F := F.le hl; clear hl)) | (go_at_call 67; ((with_reducible refine (HK.out _).mono ?_); rintro e w1 ⟨rfl, rfl⟩)))
      go_ret2
      exact ⟨_, rfl, by decide, F.below⟩
    · obtain ⟨k1, k2⟩ := okK_in h'
      cases h3 : okTw (hqV o x n k)
      · have e1 : codeH b o x n k = 2 := by unfold codeH; rw [h, h', h3]; rfl
        have e2 : khR b o x n k = khV b o x n k := by unfold khR; rw [h, h', h3, kh_no h h3]; rfl
        have HZ : Hid (can .f32 0 = khV b o x n k) := (show can .f32 0 = khV b o x n k by rw [kh_no h h3]; decide)
        have HC := hid (fun (w' : World) (g : Nat) (hl : le w w') (R : Row w' g 35 #[.float .f32 b, .float .f32 o, s]) => s_l07Hertz b o x n B s w' (hs.le hl) k k1 k2 hn hn2 g R)
        rw [h3] at HC
        rw [e1, e2]; rw [h] at HV
        rw [h'] at HK
        clear h e1 e2 hs h' h3
        go_enter Try.func71, Try.ntmps71
        go_wp2_with (first | (go_at_call 57; ((with_reducible refine (HV.out _ _ F.below (RR.out.le F.below)).mono ?_); rintro e w1 ⟨rfl, hl⟩; replace F := F.le hl; clear hl)) | (go_at_call 67; ((with_reducible refine (HK.out _).mono ?_); rintro e w1 ⟨rfl, rfl⟩)) | (go_at_call 90; ((with_reducible refine (HC.out _ _ F.below (RR.out.le F.below)).mono ?_); rintro e w1 ⟨v, rfl, hv, hl⟩; have HVV := hid hv; replace F := F.le hl; clear hl hv)))
        go_ret2
        exact ⟨_, rfl, HZ.out, F.below⟩
      · have e1 : codeH b o x n k = 0 := by unfold codeH; rw [h, h', h3]; rfl
        have e2 : khR b o x n k = khV b o x n k := by unfold khR; rw [h, h', h3]; rfl
        have HC := hid (fun (w' : World) (g : Nat) (hl : le w w') (R : Row w' g 35 #[.float .f32 b, .float .f32 o, s]) => s_l07Hertz b o x n B s w' (hs.le hl) k k1 k2 hn hn2 g R)
        rw [h3] at HC
        rw [e1, e2]; rw [h] at HV
        rw [h'] at HK
        clear h e1 e2 hs h' h3
        go_enter Try.func71, Try.ntmps71
        go_wp2_with (first | (go_at_call 57; ((with_reducible refine (HV.out _ _ F.below (RR.out.le F.below)).mono ?_); rintro e w1 ⟨rfl, hl⟩; replace F := F.le hl; clear hl)) | (go_at_call 67; ((with_reducible refine (HK.out _).mono ?_); rintro e w1 ⟨rfl, rfl⟩)) | (go_at_call 90; ((with_reducible refine (HC.out _ _ F.below (RR.out.le F.below)).mono ?_); rintro e w1 ⟨v, rfl, hv, hl⟩; have HVV := hid hv; replace F := F.le hl; clear hl hv)))
        go_ret2
        exact ⟨_, rfl, HVV.out, F.below⟩
set_option maxRecDepth 100000 in
set_option maxHeartbeats 4000000 in
theorem s_KeyHertz (b o : Nat) (x : Nat → Nat) (n : Nat) (B : Nat) (s : Value) (w : World) (hs : (slT x n).RdN w B s) (k : Int) : Calls Try.prog 35 #[.agg #[.float .f32 b, .float .f32 o, s], .int .i64 k] w (Out_fi (khR b o x n k) (codeH b o x n k) w) := by
  have HA := hid (fun (w' : World) (g : Nat) (hl : le w w') (R : Row w' g 35 #[.float .f32 b, .float .f32 o, s]) => s_l07Asked b o x n B s w' (hs.le hl) k g R)
  clear hs
  have F := (Frg.nil w).box 35 #[.float .f32 b, .float .f32 o, s]
  generalize khR b o x n k = kv at *
  generalize codeH b o x n k = kc at *
  go_enter Try.func35, Try.ntmps35
  go_wp2_with (go_at_call 71; ((with_reducible refine (HA.out _ _ F.below (F.row m0)).mono ?_); rintro e w1 ⟨v, rfl, hv, hl⟩; have HVV := hid hv; replace F := F.le hl; clear hl hv))
  go_ret2
  exact ⟨_, rfl, HVV.out, F.below⟩
theorem both_KeyHertz (cs : List CD) (h : HasShL shTuning cs) (k : Int) : ∃ (ar0 : Nat) (ar1 : Int), (∀ (w : World) (B : Nat) (u : List Value), RdLN w B (cs.map CD.cp) u → Calls Try.prog 35 #[.agg u.toArray, .int .i64 k] w (Out_fi ar0 ar1 w)) ∧ (∀ (w : World) (B : Nat) (u : List Value), RdLN w B (cs.map CD.cp) u → Calls Try.prog 36 #[.agg u.toArray, .int .i64 k] w (Out_fi ar0 ar1 w)) := by
  obtain ⟨b, o, xs, n, rfl, hx⟩ := tun_data h
  refine ⟨khR b o (fun i => (xs i).fx) n k, codeH b o (fun i => (xs i).fx) n k, fun w B u hu => ?_, fun w B u hu => ?_⟩
  · obtain ⟨s, rfl, hs, _, _⟩ := tun_open hu hx
    exact s_KeyHertz b o (fun i => (xs i).fx) n B s w hs k
  · obtain ⟨s, rfl, hs, _, _⟩ := tun_open hu hx
    exact i_KeyHertz b o (fun i => (xs i).fx) n B s w hs k
def codeP (b o : Nat) (x : Nat → Nat) (n : Nat) (k : Int) (r : Nat) : Int := if codeH b o x n k = 0 then (if withinB r 1065353216 1232348160 then 0 else 2) else codeH b o x n k
def ppR (b o : Nat) (x : Nat → Nat) (n : Nat) (k : Int) (r : Nat) : Nat := if codeH b o x n k = 0 then (if withinB r 1065353216 1232348160 then fop .quo .f32 r (khR b o x n k) else 0) else 0
set_option maxRecDepth 100000 in
set_option maxHeartbeats 4000000 in
theorem i_PeriodOfKey (b o : Nat) (x : Nat → Nat) (n : Nat) (B : Nat) (s : Value) (w : World) (hs : (slT x n).RdN w B s) (k : Int) (r : Nat) : Calls Try.prog 38 #[.agg #[.float .f32 b, .float .f32 o, s], .int .i64 k, .float .f32 r] w (Out_fi (ppR b o x n k r) (codeP b o x n k r) w) := by
  have HA := hid (fun (w' : World) (hl : le w w') => i_KeyHertz b o x n B s w' (hs.le hl) k)
  have HW := hid (fun w' => i_isWithin r 1065353216 1232348160 w')
  clear hs
  have F := (Frg.nil w).box 35 #[.float .f32 b, .float .f32 o, s]
  by_cases hc : codeH b o x n k = 0
  · cases hw : withinB r 1065353216 1232348160
    · have e1 : codeP b o x n k r = 2 := by unfold codeP; rw [if_pos hc, hw]; rfl
      have e2 : ppR b o x n k r = 0 := by unfold ppR; rw [if_pos hc, hw]; rfl
      rw [hw] at HW; rw [hc] at HA
      rw [e1, e2]
      clear hc hw e1 e2; generalize khR b o x n k = kv at *
      go_enter Try.func38, Try.ntmps38
      go_wp2_with (first | ((with_reducible refine at_loadU (ty := 35) rfl rfl ?_); (with_reducible refine wpList_loadG F rfl rfl rfl (by first | exact m0 | exact m1 | exact m2) Try.underlying35 rfl uinfoTuningI rfl ?_)) | (go_at_call 36; ((with_reducible refine (HA.out _ F.below).mono ?_); rintro e w1 ⟨v, rfl, hv, hl⟩; have HVV := hid hv; replace F := F.le hl; clear hl hv)) | (go_at_call 49; ((with_reducible refine (HW.out _).mono ?_); rintro e w2 ⟨rfl, rfl⟩)))
      go_ret2
      exact ⟨_, rfl, by decide, F.below⟩
    · have e1 : codeP b o x n k r = 0 := by unfold codeP; rw [if_pos hc, hw]; rfl
      have e2 : ppR b o x n k r = fop .quo .f32 r (khR b o x n k) := by unfold ppR; rw [if_pos hc, hw]; rfl
      rw [hw] at HW; rw [hc] at HA
      rw [e1, e2]
      clear hc hw e1 e2; generalize khR b o x n k = kv at *
      go_enter Try.func38, Try.ntmps38
      go_wp2_with (first | ((with_reducible refine at_loadU (ty := 35) rfl rfl ?_); (with_reducible refine wpList_loadG F rfl rfl rfl (by first | exact m0 | exact m1 | exact m2) Try.underlying35 rfl uinfoTuningI rfl ?_)) | (go_at_call 36; ((with_reducible refine (HA.out _ F.below).mono ?_); rintro e w1 ⟨v, rfl, hv, hl⟩; have HVV := hid hv; replace F := F.le hl; clear hl hv)) | (go_at_call 49; ((with_reducible refine (HW.out _).mono ?_); rintro e w2 ⟨rfl, rfl⟩)) | (with_reducible refine wpList_farith (op := .quo) rfl rfl rfl rfl rfl ?_; intro z nz ez fz; replace F := F.drewN nz))
      go_ret2
      refine ⟨_, rfl, ?_, F.below⟩
      rw [ez.out]
      exact fop_congr rfl (by rw [← HVV.out, can_can])
  · have e1 : codeP b o x n k r = codeH b o x n k := by unfold codeP; rw [if_neg hc]
    have e2 : ppR b o x n k r = 0 := by unfold ppR; rw [if_neg hc]
    rw [e1, e2]
    clear e1 e2; generalize khR b o x n k = kv at *; generalize codeH b o x n k = kc at *
    go_enter Try.func38, Try.ntmps38
    go_wp2_with (first | ((with_reducible refine at_loadU (ty := 35) rfl rfl ?_); (with_reducible refine wpList_loadG F rfl rfl rfl (by first | exact m0 | exact m1 | exact m2) Try.underlying35 rfl uinfoTuningI rfl ?_)) | (go_at_call 36; ((with_reducible refine (HA.out _ F.below).mono ?_); rintro e w1 ⟨v, rfl, hv, hl⟩; have HVV := hid hv; replace F := F.le hl; clear hl hv)) | (go_at_call 49; ((with_reducible refine (HW.out _).mono ?_); rintro e w2 ⟨rfl, rfl⟩)))
    go_ret2
    exact ⟨_, rfl, by decide, F.below⟩
set_option maxRecDepth 100000 in
set_option maxHeartbeats 4000000 in
theorem s_PeriodOfKey (b o : Nat) (x : Nat → Nat) (n : Nat) (B : Nat) (s : Value) (w : World) (hs : (slT x n).RdN w B s) (k : Int) (r : Nat) : Calls Try.prog 37 #[.agg #[.float .f32 b, .float .f32 o, s], .int .i64 k, .float .f32 r] w (Out_fi (ppR b o x n k r) (codeP b o x n k r) w) := by
  have HA := hid (fun (w' : World) (g : Nat) (hl : le w w') (R : Row w' g 35 #[.float .f32 b, .float .f32 o, s]) => s_l07Asked b o x n B s w' (hs.le hl) k g R)
  clear hs
  have F := (Frg.nil w).box 35 #[.float .f32 b, .float .f32 o, s]
  by_cases hc : codeH b o x n k = 0
  · cases w1 : (FloatKind.f32.format.order r 1065353216 == some .gt || FloatKind.f32.format.order r 1065353216 == some .eq)
    · have hw : withinB r 1065353216 1232348160 = false := by unfold withinB; rw [w1, Bool.false_and]
      have e1 : codeP b o x n k r = 2 := by unfold codeP; rw [if_pos hc, hw]; rfl
      have e2 : ppR b o x n k r = 0 := by unfold ppR; rw [if_pos hc, hw]; rfl
      rw [hc] at HA
      rw [e1, e2]
      clear hc hw e1 e2; generalize khR b o x n k = kv at *
      go_enter Try.func37, Try.ntmps37
      go_wp2_with (first | (go_at_call 71; ((with_reducible refine (HA.out _ _ F.below (F.row m0)).mono ?_); rintro e w1 ⟨v, rfl, hv, hl⟩; have HVV := hid hv; replace F := F.le hl; clear hl hv)))
      go_ret2
      exact ⟨_, rfl, by decide, F.below⟩
    cases w2 : (FloatKind.f32.format.order r 1232348160 == some .lt || FloatKind.f32.format.order r 1232348160 == some .eq)
    · have hw : withinB r 1065353216 1232348160 = false := by unfold withinB; rw [w1, w2, Bool.true_and]
      have e1 : codeP b o x n k r = 2 := by unfold codeP; rw [if_pos hc, hw]; rfl
      have e2 : ppR b o x n k r = 0 := by unfold ppR; rw [if_pos hc, hw]; rfl
      rw [hc] at HA
      rw [e1, e2]
      clear hc hw e1 e2; generalize khR b o x n k = kv at *
      go_enter Try.func37, Try.ntmps37
      go_wp2_with (first | (go_at_call 71; ((with_reducible refine (HA.out _ _ F.below (F.row m0)).mono ?_); rintro e w1 ⟨v, rfl, hv, hl⟩; have HVV := hid hv; replace F := F.le hl; clear hl hv)))
      go_ret2
      exact ⟨_, rfl, by decide, F.below⟩
    · have hw : withinB r 1065353216 1232348160 = true := by unfold withinB; rw [w1, w2, Bool.true_and]
      have e1 : codeP b o x n k r = 0 := by unfold codeP; rw [if_pos hc, hw]; rfl
      have e2 : ppR b o x n k r = fop .quo .f32 r (khR b o x n k) := by unfold ppR; rw [if_pos hc, hw]; rfl
      rw [hc] at HA
      rw [e1, e2]
      clear hc hw e1 e2; generalize khR b o x n k = kv at *
      go_enter Try.func37, Try.ntmps37
      go_wp2_with (first | (go_at_call 71; ((with_reducible refine (HA.out _ _ F.below (F.row m0)).mono ?_); rintro e w1 ⟨v, rfl, hv, hl⟩; have HVV := hid hv; replace F := F.le hl; clear hl hv)) | (with_reducible refine wpList_farith (op := .quo) rfl rfl rfl rfl rfl ?_; intro z nz ez fz; replace F := F.drewN nz))
      go_ret2
      refine ⟨_, rfl, ?_, F.below⟩
      rw [ez.out]
      exact fop_congr rfl (by rw [← HVV.out, can_can])
  · have e1 : codeP b o x n k r = codeH b o x n k := by unfold codeP; rw [if_neg hc]
    have e2 : ppR b o x n k r = 0 := by unfold ppR; rw [if_neg hc]
    rw [e1, e2]
    clear e1 e2; generalize khR b o x n k = kv at *; generalize codeH b o x n k = kc at *
    go_enter Try.func37, Try.ntmps37
    go_wp2_with (first | (go_at_call 71; ((with_reducible refine (HA.out _ _ F.below (F.row m0)).mono ?_); rintro e w1 ⟨v, rfl, hv, hl⟩; have HVV := hid hv; replace F := F.le hl; clear hl hv)))
    go_ret2
    exact ⟨_, rfl, by decide, F.below⟩
theorem both_PeriodOfKey (cs : List CD) (h : HasShL shTuning cs) (k : Int) (r : Nat) : ∃ (ar0 : Nat) (ar1 : Int), (∀ (w : World) (B : Nat) (u : List Value), RdLN w B (cs.map CD.cp) u → Calls Try.prog 37 #[.agg u.toArray, .int .i64 k, .float .f32 r] w (Out_fi ar0 ar1 w)) ∧ (∀ (w : World) (B : Nat) (u : List Value), RdLN w B (cs.map CD.cp) u → Calls Try.prog 38 #[.agg u.toArray, .int .i64 k, .float .f32 r] w (Out_fi ar0 ar1 w)) := by
  obtain ⟨b, o, xs, n, rfl, hx⟩ := tun_data h
  refine ⟨ppR b o (fun i => (xs i).fx) n k r, codeP b o (fun i => (xs i).fx) n k r, fun w B u hu => ?_, fun w B u hu => ?_⟩
  · obtain ⟨s, rfl, hs, _, _⟩ := tun_open hu hx
    exact s_PeriodOfKey b o (fun i => (xs i).fx) n B s w hs k r
  · obtain ⟨s, rfl, hs, _, _⟩ := tun_open hu hx
    exact i_PeriodOfKey b o (fun i => (xs i).fx) n B s w hs k r
end Go.Proofs.Yteblmkamopfkiaa

/- The walk of 'FnExactKeyHertz'. -/
namespace Go.Proofs.Yteblmkamopfkiaa.fnExactKeyHertz
open Go.RowKit Go.Fk
set_option maxRecDepth 100000 in
set_option maxHeartbeats 4000000 in
theorem core (cs0 : List CD) (vs0 : List Value) (a1 : Int) (ar0 : Nat) (ar1 : Int) (w : World) (z0 : RdL w w.heap.size cs0 vs0) (k0 : ShOkL shTuning cs0) (hz : szL cs0 ≤ 1048576)
    (hS : ∀ (w : World) (B0 : Nat) (u0 : List Value), RdLN w B0 (cs0.map CD.cp) u0 → Calls Try.prog 35 #[.agg u0.toArray, .int .i64 a1] w (Out_fi ar0 ar1 w))
    (hI : ∀ (w : World) (B0 : Nat) (u0 : List Value), RdLN w B0 (cs0.map CD.cp) u0 → Calls Try.prog 36 #[.agg u0.toArray, .int .i64 a1] w (Out_fi ar0 ar1 w)) :
    Calls Try.prog 10 #[.agg vs0.toArray, .int .i64 a1] w fun e w' => e = .returned (.bool true) ∧ Below w.heap.size w w' := by
  have Z0 := hid z0; have K0 := hid k0; have hl0 : Hid (vs0.length = 3) := z0.1.trans k0.1; clear z0 k0
  have hz0 : szL cs0 ≤ 1048576 := by omega
  have hm0 : ¬ (1048576 : Int) - (szL cs0 : Nat) < 0 := by omega
  have HS := hid hS; have HI := hid hI; clear hS hI
  have F := Frg.nil w
  replace F := F.box 32 vs0.toArray
  go_enter Try.func10, Try.ntmps10
  go_wp2_with (first | (((with_reducible refine listN F ?_); clear F; intro wN F)) | ((with_reducible refine at_loadU rfl rfl ?_); first | (with_reducible refine wpList_loadG F rfl rfl rfl (by first | exact m0 | exact m1 | exact m2 | exact m3 | exact m4 | exact m5 | exact m6 | exact m7 | exact m8) Try.underlying35 rfl uinfoTuningI (by simp only [List.size_toArray]; first | exact hl0.out | exact hl1.out | exact hu0.out | exact hu1.out) ?_) | (with_reducible refine wpList_loadG F rfl rfl rfl (by first | exact m0 | exact m1 | exact m2 | exact m3 | exact m4 | exact m5 | exact m6 | exact m7 | exact m8) Try.underlying32 rfl uinfoTuningL (by simp only [List.size_toArray]; first | exact hl0.out | exact hl1.out | exact hu0.out | exact hu1.out) ?_)) | (go_at_call 22; ((with_reducible refine (szU_Tuning _ cs0 vs0 (1048576 : Int) ((1048576 : Int) - (szL cs0 : Nat)) _ (Z0.out.le F.below) K0.out (by omega) (by omega) (lessBy_pos hm0)).mono ?_); rintro e w1 ⟨rfl, hb1⟩; replace F := F.le hb1)) | (go_at_call 24; ((with_reducible refine (toU_Tuning _ cs0 vs0 _ (Z0.out.le F.below) K0.out hz0).mono ?_); rintro e w1 ⟨usA0, rfl, ho, hl⟩; have hu0 : Hid (usA0.length = 3) := ho.1.trans ((List.length_map ..).trans K0.out.1); have ho0 := hid ho.all_one; replace F := F.lay1 hl ho; clear ho hl)))
  first | ((with_reducible refine callAt0 F ?_); clear F; intro wN F) | ((with_reducible refine callAtN F ?_); clear F; intro wN F)
  refine (HS.out _ _ _ (F.layN (by first | exact m0 | exact m1 | exact m2 | exact m3 | exact m4 | exact m5 | exact m6 | exact m7 | exact m8))).mono ?_
  rintro e wS ⟨vS0, rfl, cS0, hlS⟩
  replace cS0 := hid cS0
  replace F := F.le hlS
  go_wp2_with (first | (((with_reducible refine listN F ?_); clear F; intro wN F)) | ((with_reducible refine at_store rfl ?_); first | (refine wpList_storeG F rfl rfl rfl rfl rfl (by simp only [List.size_toArray]; first | (rw [hu0.out]; exact uinfoTuningI) | (rw [hu1.out]; exact uinfoTuningI)) (by simp only [List.size_toArray]; first | (rw [hu0.out]; rfl) | (rw [hu1.out]; rfl)) (by first | exact ho0.out | exact ho1.out) ?_; clear F; intro W F zW; clear zW)) | ((with_reducible refine at_loadU rfl rfl ?_); first | (with_reducible refine wpList_loadG F rfl rfl rfl (by first | exact m0 | exact m1 | exact m2 | exact m3 | exact m4 | exact m5 | exact m6 | exact m7 | exact m8) Try.underlying35 rfl uinfoTuningI (by simp only [List.size_toArray]; first | exact hl0.out | exact hl1.out | exact hu0.out | exact hu1.out) ?_) | (with_reducible refine wpList_loadG F rfl rfl rfl (by first | exact m0 | exact m1 | exact m2 | exact m3 | exact m4 | exact m5 | exact m6 | exact m7 | exact m8) Try.underlying32 rfl uinfoTuningL (by simp only [List.size_toArray]; first | exact hl0.out | exact hl1.out | exact hu0.out | exact hu1.out) ?_)) | (go_at_call 24; ((with_reducible refine (toU_Tuning _ cs0 vs0 _ (Z0.out.le F.below) K0.out hz0).mono ?_); rintro e w1 ⟨usB0, rfl, ho, hl⟩; have hu0 : Hid (usB0.length = 3) := ho.1.trans ((List.length_map ..).trans K0.out.1); have ho0 := hid ho.all_one; replace F := F.lay1 hl ho; clear ho hl)))
  first | ((with_reducible refine callAt0 F ?_); clear F; intro wN F) | ((with_reducible refine callAtN F ?_); clear F; intro wN F)
  refine (HI.out _ _ _ (F.layN (by first | exact m0 | exact m1 | exact m2 | exact m3 | exact m4 | exact m5 | exact m6 | exact m7 | exact m8))).mono ?_
  rintro e wI ⟨vI0, rfl, cI0, hlI⟩
  replace cI0 := hid cI0
  replace F := F.le hlI
  go_wp2_with (first | (((with_reducible refine listN F ?_); clear F; intro wN F)) | ((with_reducible refine at_store rfl ?_); first | (refine wpList_storeG F rfl rfl rfl rfl rfl (by simp only [List.size_toArray]; first | (rw [hu0.out]; exact uinfoTuningI) | (rw [hu1.out]; exact uinfoTuningI)) (by simp only [List.size_toArray]; first | (rw [hu0.out]; rfl) | (rw [hu1.out]; rfl)) (by first | exact ho0.out | exact ho1.out) ?_; clear F; intro W F zW; clear zW)) | ((with_reducible refine at_loadU rfl rfl ?_); first | (with_reducible refine wpList_loadG F rfl rfl rfl (by first | exact m0 | exact m1 | exact m2 | exact m3 | exact m4 | exact m5 | exact m6 | exact m7 | exact m8) Try.underlying35 rfl uinfoTuningI (by simp only [List.size_toArray]; first | exact hl0.out | exact hl1.out | exact hu0.out | exact hu1.out) ?_) | (with_reducible refine wpList_loadG F rfl rfl rfl (by first | exact m0 | exact m1 | exact m2 | exact m3 | exact m4 | exact m5 | exact m6 | exact m7 | exact m8) Try.underlying32 rfl uinfoTuningL (by simp only [List.size_toArray]; first | exact hl0.out | exact hl1.out | exact hu0.out | exact hu1.out) ?_)) | ((with_reducible refine at_convert rfl ?_); first | (with_reducible refine wpList_widen rfl rfl rfl Try.underlying22 Try.underlying26 ?_; intro s1 n1 h1 f1) | (with_reducible refine wpList_widenG rfl rfl Try.underlying22 Try.underlying26 (by kernel_rfl) ?_; intro s1 n1 h1 f1)) | (go_at_call 17; ((with_reducible refine (sameFloat_yes _ _ _ (by exact ((Hid.out ‹Hid (can .f64 _ = can .f64 (widen vI0))›).trans ((congrArg (can .f64) (widen_congr (cI0.out.trans cS0.out.symm))).trans (Hid.out ‹Hid (can .f64 _ = can .f64 (widen vS0))›).symm)))).mono ?_); rintro e w7 ⟨rfl, dq7, rfl⟩; skip)))
  first | (refine wpAt0 F ?_; clear F; intro wN F) | (refine wpAtN F ?_; clear F; intro wN F)
  refine region_freeD (E := leX) (fun f _ w v => if f = 24 then ∃ (us : List Value) (B : Nat), v = .agg us.toArray ∧ RdL w B (cs0.map CD.cp) us else v = .bool true) (by kernel_rfl) (by kernel_rfl) ?_
  refine wpFreeD_loadG F rfl rfl rfl rfl (by first | exact m0 | exact m1 | exact m2 | exact m3 | exact m4 | exact m5 | exact m6 | exact m7 | exact m8) Try.underlying35 rfl uinfoTuningI (by simp only [List.size_toArray]; exact hu0.out) ?_
  simp only [Act.put, List.setIfInBounds_toArray, List.set_cons_succ, List.set_cons_zero]
  refine wpFreeD_loadG F rfl rfl rfl rfl (by first | exact m0 | exact m1 | exact m2 | exact m3 | exact m4 | exact m5 | exact m6 | exact m7 | exact m8) Try.underlying32 rfl uinfoTuningL (by simp only [List.size_toArray]; exact hl0.out) ?_
  simp only [Act.put, List.setIfInBounds_toArray, List.set_cons_succ, List.set_cons_zero]
  refine wpFreeD_callB rfl rfl Try.func24 (by kernel_rfl) (by kernel_rfl) (args := #[.agg vs0.toArray]) (by simp [Act.eval]) (fun v w1 w2 hw hv => by simp only [if_true] at hv ⊢; obtain ⟨u, B, h1, h2⟩ := hv; exact ⟨u, B, h1, h2.le hw⟩) (fun w1 hw1 _ => (toU_Tuning _ cs0 vs0 w1 (Z0.out.le (le_trans (F.drewN _).below hw1)) K0.out hz0).mono ?_) ?_
  · rintro e w2 ⟨u, rfl, ho, hl⟩
    exact ⟨_, rfl, hl, by simp only [if_true]; exact ⟨u, _, rfl, ho.rd (fun _ hj => hj.2)⟩⟩
  rintro v ⟨_, _, _, hv⟩
  simp only [if_true] at hv
  obtain ⟨u0, Bu0, rfl, _⟩ := hv
  simp only [Act.put, List.setIfInBounds_toArray, List.set_cons_succ, List.set_cons_zero]
  refine wpFreeD_callB rfl rfl Try.func26 (by kernel_rfl) (by kernel_rfl) (args := #[.agg usB0.toArray, .agg u0.toArray]) (by simp [Act.eval]) (fun v w1 w2 hw hv => by simp only [show ¬ (26 = 24) by decide, if_false] at hv ⊢; exact hv) (fun w1 hw1 hbe => ?_) ?_
  · have hk := (hbe ⟨2, Ground.data⟩ (by simp) (by kernel_rfl)).2 rfl
    simp only [if_true] at hk
    obtain ⟨u', B', he, hr⟩ := hk
    obtain rfl : u0 = u' := by simpa using he
    refine (eqU_Tuning _ _ (cs0.map CD.cp) _ _ _ (((F.drewN 1).le hw1).layR (by first | exact m0 | exact m1 | exact m2 | exact m3 | exact m4 | exact m5 | exact m6 | exact m7 | exact m8)) hr K0.out.cp (by rw [szL_cp]; exact hz0)).mono ?_
    rintro e w2 ⟨rfl, hl⟩
    exact ⟨_, rfl, hl, by simp only [show ¬ (26 = 24) by decide, if_false]⟩
  rintro v ⟨_, _, _, hv⟩
  simp only [show ¬ (26 = 24) by decide, if_false] at hv
  subst hv
  simp only [Act.put, List.setIfInBounds_toArray, List.set_cons_succ, List.set_cons_zero]
  refine wpFreeD_one rfl (.bool false) (fun w1 _ => by kernel_rfl) ?_
  simp only [Act.put, List.setIfInBounds_toArray, List.set_cons_succ, List.set_cons_zero]
  refine wpFreeD_nil (fun wR hwR _ => ?_)
  replace F := (F.drewN 1).le hwR
  clear hwR
  go_wp2_with (first | (((with_reducible refine listN F ?_); clear F; intro wN F)) | ((with_reducible refine at_loadU rfl rfl ?_); first | (with_reducible refine wpList_loadG F rfl rfl rfl (by first | exact m0 | exact m1 | exact m2 | exact m3 | exact m4 | exact m5 | exact m6 | exact m7 | exact m8) Try.underlying35 rfl uinfoTuningI (by simp only [List.size_toArray]; first | exact hl0.out | exact hl1.out | exact hu0.out | exact hu1.out) ?_) | (with_reducible refine wpList_loadG F rfl rfl rfl (by first | exact m0 | exact m1 | exact m2 | exact m3 | exact m4 | exact m5 | exact m6 | exact m7 | exact m8) Try.underlying32 rfl uinfoTuningL (by simp only [List.size_toArray]; first | exact hl0.out | exact hl1.out | exact hu0.out | exact hu1.out) ?_)))
  go_ret
  first | exact ⟨rfl, F.below⟩ | exact ⟨rfl, below_drewN F.below _⟩
set_option maxRecDepth 100000 in
set_option maxHeartbeats 4000000 in
theorem large0 (cs0 : List CD) (vs0 : List Value) (a1 : Int) (w : World) (z0 : RdL w w.heap.size cs0 vs0) (k0 : ShOkL shTuning cs0)  (hg : ¬ szL cs0 ≤ 1048576) :
    Calls Try.prog 10 #[.agg vs0.toArray, .int .i64 a1] w fun e w' => e = .returned (.bool true) ∧ Below w.heap.size w w' := by
  have Z0 := hid z0; have K0 := hid k0; have hl0 : Hid (vs0.length = 3) := z0.1.trans k0.1; clear z0 k0
  have hn0 : (1048576 : Int) - (szL cs0 : Nat) < 0 := by omega
  have F := Frg.nil w
  replace F := F.box 32 vs0.toArray
  go_enter Try.func10, Try.ntmps10
  go_wp2_with (first | (((with_reducible refine listN F ?_); clear F; intro wN F)) | ((with_reducible refine at_loadU rfl rfl ?_); first | (with_reducible refine wpList_loadG F rfl rfl rfl (by first | exact m0 | exact m1 | exact m2 | exact m3 | exact m4 | exact m5 | exact m6 | exact m7 | exact m8) Try.underlying35 rfl uinfoTuningI (by simp only [List.size_toArray]; first | exact hl0.out | exact hl1.out | exact hu0.out | exact hu1.out) ?_) | (with_reducible refine wpList_loadG F rfl rfl rfl (by first | exact m0 | exact m1 | exact m2 | exact m3 | exact m4 | exact m5 | exact m6 | exact m7 | exact m8) Try.underlying32 rfl uinfoTuningL (by simp only [List.size_toArray]; first | exact hl0.out | exact hl1.out | exact hu0.out | exact hu1.out) ?_)) | (go_at_call 22; ((with_reducible refine (szU_Tuning _ cs0 vs0 (1048576 : Int) (-1 : Int) _ (Z0.out.le F.below) K0.out (by omega) (by omega) (lessBy_neg hn0)).mono ?_); rintro e w1 ⟨rfl, hb1⟩; replace F := F.le hb1)))
  go_ret
  first | exact ⟨rfl, F.below⟩ | exact ⟨rfl, below_drewN F.below _⟩
theorem walk (cs0 : List CD) (vs0 : List Value) (a1 : Int) (w : World) (k0 : HasShL shTuning cs0) (z0 : RdL w w.heap.size cs0 vs0) (w1 : (Lit.int .i64 a1).wf = true) :
    Calls Try.prog 10 #[.agg vs0.toArray, .int .i64 a1] w fun e w' => e = .returned (.bool true) ∧ Below w.heap.size w w' := by
  by_cases g0 : szL cs0 ≤ 1048576
  · skip
    obtain ⟨ar0, ar1, hS, hI⟩ := both_KeyHertz cs0 k0 a1
    exact core cs0 vs0 a1 ar0 ar1 w z0 k0.ok g0 hS hI
  · exact large0 cs0 vs0 a1 w z0 k0.ok  g0
end Go.Proofs.Yteblmkamopfkiaa.fnExactKeyHertz
