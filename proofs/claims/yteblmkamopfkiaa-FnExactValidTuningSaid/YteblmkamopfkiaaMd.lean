/- Texts of the walk, laid in one file. -/
import Derived.BigQuiet
import Derived.RegionTactic
import Derived.Test.YteblmkamopfkiaaMc
set_option linter.unusedVariables false
set_option linter.unusedSimpArgs false
/- Tunings: data, 'ValidTuning', 'SameTuning' of both. -/
namespace Go.Fk
open Go Go.RowKit
def gtB (a b : Nat) : Bool := FloatKind.f32.format.order a b == some .gt
def ltB (a b : Nat) : Bool := FloatKind.f32.format.order a b == some .lt
theorem gtB_congr {a a' b b' : Nat} (h : can .f32 a = can .f32 a') (k : can .f32 b = can .f32 b') : gtB a b = gtB a' b' := by unfold gtB; rw [order_congr h k]
theorem ltB_congr {a a' b b' : Nat} (h : can .f32 a = can .f32 a') (k : can .f32 b = can .f32 b') : ltB a b = ltB a' b' := by unfold ltB; rw [order_congr h k]
theorem gtB_val {a b : Nat} : gtB a b = true ↔ isNan .f32 a = false ∧ isNan .f32 b = false ∧ val .f32 b < val .f32 a := by
  unfold gtB
  cases ha : isNan .f32 a
  · cases hb : isNan .f32 b
    · rw [order_val ha hb]
      rcases Int.lt_trichotomy (val .f32 a) (val .f32 b) with c | c | c
      · rw [Int.compare_eq_lt.2 c]; simp; omega
      · rw [Int.compare_eq_eq.2 c]; simp; omega
      · rw [Int.compare_eq_gt.2 c]; simp; omega
    · rw [order_of_nan_r hb]; simp
  · rw [order_of_nan_l ha]; simp
theorem ltB_val {a b : Nat} : ltB a b = true ↔ isNan .f32 a = false ∧ isNan .f32 b = false ∧ val .f32 a < val .f32 b := by
  unfold ltB
  cases ha : isNan .f32 a
  · cases hb : isNan .f32 b
    · rw [order_val ha hb]
      rcases Int.lt_trichotomy (val .f32 a) (val .f32 b) with c | c | c
      · rw [Int.compare_eq_lt.2 c]; simp; omega
      · rw [Int.compare_eq_eq.2 c]; simp; omega
      · rw [Int.compare_eq_gt.2 c]; simp; omega
    · rw [order_of_nan_r hb]; simp
  · rw [order_of_nan_l ha]; simp
/-- Degrees that ascend, the last one below the octave. -/
def degB (x : Nat → Nat) (n o : Nat) : Bool := decide (1 ≤ n) && (decide (n ≤ 31) && (sameB (x 0) 0 && (allB (fun i => gtB (x (i + 1)) (x i)) (n - 1) && ltB (x (n - 1)) o)))
/-- The same, as the model asks for it: each degree above the one before it, and below the octave. -/
def stepD (x : Nat → Nat) (o i : Nat) : Bool := (i == 0 || gtB (x i) (x (i - 1))) && ltB (x i) o
theorem deg_eq {x : Nat → Nat} {n o : Nat} (h : 1 ≤ n) : allB (stepD x o) n = (allB (fun i => gtB (x (i + 1)) (x i)) (n - 1) && ltB (x (n - 1)) o) := by
  cases hm : allB (stepD x o) n
  · symm
    rw [Bool.eq_false_iff]
    intro hh
    rw [Bool.and_eq_true] at hh
    obtain ⟨h1, h2⟩ := hh
    obtain ⟨i, hi, hf⟩ := allB_ex hm
    have key : ∀ k, k ≤ n - 1 → ltB (x (n - 1 - k)) o = true := by
      intro k
      induction k with
      | zero => intro _; exact h2
      | succ k ih =>
        intro hk
        have a := allB_all h1 (n - 1 - (k + 1)) (by omega)
        have b := ih (by omega)
        replace a : gtB (x (n - 1 - (k + 1) + 1)) (x (n - 1 - (k + 1))) = true := a
        rw [show n - 1 - (k + 1) + 1 = n - 1 - k by omega] at a
        obtain ⟨a1, a2, a3⟩ := gtB_val.1 a
        obtain ⟨b1, b2, b3⟩ := ltB_val.1 b
        exact ltB_val.2 ⟨a2, b2, by omega⟩
    have hl := key (n - 1 - i) (by omega)
    rw [show n - 1 - (n - 1 - i) = i by omega] at hl
    unfold stepD at hf
    rw [hl, Bool.and_true] at hf
    by_cases h0 : i = 0
    · subst h0; simp at hf
    · have a := allB_all h1 (i - 1) (by omega)
      replace a : gtB (x (i - 1 + 1)) (x (i - 1)) = true := a
      rw [show i - 1 + 1 = i by omega] at a
      rw [a] at hf
      simp at hf
  · symm
    rw [Bool.and_eq_true]
    refine ⟨allB_yes (fun i hi => ?_), ?_⟩
    · have a := allB_all hm (i + 1) (by omega)
      unfold stepD at a
      simp at a
      exact a.1
    · have a := allB_all hm (n - 1) (by omega)
      unfold stepD at a
      rw [Bool.and_eq_true] at a
      exact a.2
def okT (b o : Nat) (x : Nat → Nat) (n : Nat) : Bool := withinB b 1065353216 1184645120 && (withinB o 1065353216 1167458304 && degB x n o)
/-- A slice of floats, opened. -/
theorem slT_raw {x : Nat → Nat} {n B : Nat} {s : Value} {w : World} (h : (slT x n).RdN w B s) (hn : 1 ≤ n) : ∃ (b p cap : Nat) (y : Nat → Nat), s = .slice (some ⟨b, p, none⟩) n cap ∧ n ≤ cap ∧ cap ≤ maxLen ∧ ∀ i, i < n → w.cell? ⟨b, p + i, none⟩ = some (.float .f32 (y i)) ∧ fits .f32 (y i) ∧ can .f32 (y i) = x i := by
  rcases h with ⟨_, rfl⟩ | ⟨b, p, cap, rfl, h2, h3, h4⟩
  · omega
  have : ∀ i, ∃ y, i < n → w.cell? ⟨b, p + i, none⟩ = some (.float .f32 y) ∧ fits .f32 y ∧ can .f32 y = x i := fun i => by
    by_cases hi : i < n
    · obtain ⟨_, u, e, y, rfl, f, c⟩ := h4 i (by omega)
      exact ⟨y, fun _ => ⟨e, f, c⟩⟩
    · exact ⟨0, fun h => absurd h hi⟩
  obtain ⟨y, hy⟩ := Classical.skolem.1 this
  exact ⟨b, p, cap, y, rfl, h2, h3, hy⟩
end Go.Fk
namespace Go.Proofs.Yteblmkamopfkiaa
open Go.RowKit Go.Fk
set_option maxRecDepth 100000 in
set_option maxHeartbeats 2000000 in
theorem i_areDegrees (B : Nat) (s : Value) (x : Nat → Nat) (n o : Nat) (w : World) (hs : (slT x n).RdN w B s) : Calls Try.prog 59 #[s, .float .f32 o] w fun e w' => e = .returned (.bool (degB x n o)) ∧ w = w' := by
  by_cases h0 : n = 0
  · subst h0
    rcases hs.form with ⟨rfl, _⟩ | ⟨b, p, cap, rfl, hc, hm⟩
    all_goals
      clear hs
      go_enter Try.func59, Try.ntmps59
      go_wp2
      go_ret
      exact ⟨rfl, rfl⟩
  obtain ⟨m, rfl⟩ : ∃ m, n = m + 1 := ⟨n - 1, by omega⟩
  obtain ⟨b, p, cap, y, rfl, hc, hm, hx⟩ := slT_raw hs (by omega)
  unfold maxLen at hm
  clear hs h0
  have EQ : ∀ i, i < m + 1 → can .f32 (y i) = can .f32 (x i) := fun i hi => by rw [← (hx i hi).2.2, can_can]
  have c0 : w.cell? ⟨b, p, none⟩ = some (.float .f32 (y 0)) := (hx 0 (by omega)).1
  have cl := (hx m (by omega)).1
  have hd1 : decide ((m : Int) + 1 < 1) = false := decide_eq_false (by omega)
  have S0 : Hid (sameB (y 0) 0 = sameB (x 0) 0) := by unfold sameB Hid; rw [EQ 0 (by omega)]
  have HL : Hid (ltB (y m) o = ltB (x m) o) := ltB_congr (EQ m (by omega)) rfl
  have HG : Hid (∀ i, i < m → gtB (y (i + 1)) (y i) = gtB (x (i + 1)) (x i)) := fun i hi => gtB_congr (EQ _ (by omega)) (EQ _ (by omega))
  have HC := hid (fun i hi => (hx i hi).1)
  have HD : Hid (degB x (m + 1) o = (decide (m + 1 ≤ 31) && (sameB (x 0) 0 && (allB (fun i => gtB (x (i + 1)) (x i)) m && ltB (x m) o)))) := by
    unfold Hid degB
    rw [decide_eq_true (by omega : 1 ≤ m + 1), Bool.true_and, Nat.add_sub_cancel]
  clear EQ hx
  by_cases h31 : m + 1 ≤ 31
  · have hd2 : decide ((31 : Int) < (m : Int) + 1) = false := decide_eq_false (by omega)
    cases hs0 : sameB (y 0) 0
    · have R : Hid (degB x (m + 1) o = false) := by
        show degB x (m + 1) o = false
        rw [HD.out, ← S0.out, hs0, Bool.false_and, Bool.and_false]
      clear HD
      have HS := hid (fun w' => i_SameSample (y 0) 0 w')
      rw [hs0] at HS
      clear hs0
      go_enter Try.func59, Try.ntmps59
      go_wp2_with (go_at_call 62; ((with_reducible refine (HS.out _).mono ?_); rintro e w' ⟨rfl, rfl⟩))
      go_ret
      exact ⟨ret_b R.out.symm, rfl⟩
    · have R : Hid (degB x (m + 1) o = (allB (fun i => gtB (x (i + 1)) (x i)) m && ltB (x m) o)) := by
        show degB x (m + 1) o = _
        rw [HD.out, ← S0.out, hs0, Bool.true_and, decide_eq_true h31, Bool.true_and]
      clear HD
      have HS := hid (fun w' => i_SameSample (y 0) 0 w')
      rw [hs0] at HS
      clear hs0
      by_cases hcp : cap = 1
      · obtain rfl : m = 0 := by omega
        subst hcp
        go_enter Try.func59, Try.ntmps59
        go_wp2_with (go_at_call 62; ((with_reducible refine (HS.out _).mono ?_); rintro e w' ⟨rfl, rfl⟩))
        go_loop [26] (fun i => i = .int .i64 0) (fun _ => 0)
        case atStart => rfl
        case round =>
          obtain rfl := hrel
          go_wp2
          go_ret
          exact ⟨ret_b (R.out.trans (by rw [allB_yes (fun i hi => absurd hi (by omega)), Bool.true_and]; exact HL.out.symm)).symm, rfl⟩
      · have hcp1 : ¬ (cap : Int) = 1 := by omega
        have hcp2 : ¬ 1 = cap := by omega
        go_enter Try.func59, Try.ntmps59
        go_wp2_with (go_at_call 62; ((with_reducible refine (HS.out _).mono ?_); rintro e w' ⟨rfl, rfl⟩))
        go_loop [26] (fun i => ∃ k : Nat, k ≤ m ∧ i = .int .i64 k ∧ Hid (∀ i, i < k → gtB (x (i + 1)) (x i) = true)) (fun i => m - (intOf i).toNat)
        case atStart => exact ⟨0, by omega, rfl, fun i hi => absurd hi (by omega)⟩
        case round =>
          obtain ⟨k, hk, rfl, HK⟩ := hrel
          by_cases hlt : k < m
          · have ck := HC.out k (by omega)
            have ck' := HC.out (k + 1) (by omega)
            rw [show p + (k + 1) = p + 1 + k by omega] at ck'
            have HE := hid (HG.out k hlt)
            cases hb : gtB (y (k + 1)) (y k)
            · have hb' : (FloatKind.f32.format.order (y (k + 1)) (y k) == some .gt) = false := hb
              have HB := hid hb
              clear hb
              go_wp2
              go_ret
              exact ⟨ret_b (R.out.trans (by rw [allB_no hlt (HE.out.symm.trans HB.out), Bool.false_and])).symm, rfl⟩
            · have hb' : (FloatKind.f32.format.order (y (k + 1)) (y k) == some .gt) = true := hb
              have HB := hid hb
              clear hb
              go_wp2
              go_round
              case rel => exact ⟨k + 1, by omega, by go_num, all_step (p := fun j => gtB (x (j + 1)) (x j) = true) HK.out (HE.out.symm.trans HB.out)⟩
              case measure => simp [intOf]; omega
          · obtain rfl : k = m := by omega
            go_wp2
            go_ret
            exact ⟨ret_b (R.out.trans (by rw [allB_yes HK.out, Bool.true_and]; exact HL.out.symm)).symm, rfl⟩
  · have R : Hid (degB x (m + 1) o = false) := by
      show degB x (m + 1) o = false
      rw [HD.out, decide_eq_false h31, Bool.false_and]
    clear HD
    have hd2 : decide ((31 : Int) < (m : Int) + 1) = true := decide_eq_true (by omega)
    go_enter Try.func59, Try.ntmps59
    go_wp2
    go_ret
    exact ⟨ret_b R.out.symm, rfl⟩
set_option maxRecDepth 100000 in
set_option maxHeartbeats 4000000 in
theorem i_ValidTuning (b o : Nat) (x : Nat → Nat) (n : Nat) (B : Nat) (s : Value) (w : World) (hs : (slT x n).RdN w B s) :
    Calls Try.prog 25 #[.agg #[.float .f32 b, .float .f32 o, s]] w (Out_b (okT b o x n) w) := by
  have H1 := hid (fun (w' : World) => i_isWithin b 1065353216 1184645120 w')
  have H2 := hid (fun (w' : World) => i_isWithin o 1065353216 1167458304 w')
  have H3 := hid (fun (w' : World) (hl : le w w') => i_areDegrees B s x n o w' (hs.le hl))
  clear hs
  change Calls _ _ _ _ (Out_b (withinB b 1065353216 1184645120 && (withinB o 1065353216 1167458304 && degB x n o)) w)
  cases h1 : withinB b 1065353216 1184645120 <;> cases h2 : withinB o 1065353216 1167458304
  all_goals
    rw [h1] at H1; rw [h2] at H2
    clear h1 h2
    have F := (Frg.nil w).box 35 #[.float .f32 b, .float .f32 o, s]
    have c0 := (F.row m0).cell? 0
    have c1 := (F.row m0).cell? 1
    have c2 := (F.row m0).cell? 2
    go_enter Try.func25, Try.ntmps25
    go_wp2_with (first | (go_at_call 49; ((first | with_reducible refine (H1.out _).mono ?_ | with_reducible refine (H2.out _).mono ?_); rintro e w1 ⟨rfl, rfl⟩)) | (go_at_call 59; ((with_reducible refine (H3.out _ F.below).mono ?_); rintro e w2 ⟨rfl, rfl⟩)))
    go_ret
    exact ⟨rfl, F.below⟩
set_option maxRecDepth 100000 in
set_option maxHeartbeats 4000000 in
theorem s_l07Base (b : Nat) (w : World) : Calls Try.prog 64 #[.float .f32 b] w fun e w' => e = .returned (.bool (withinB b 1065353216 1184645120)) ∧ w = w' := by
  rcases h0 : FloatKind.f32.format.order b 1065353216 with _ | (_ | _ | _) <;> rcases h1 : FloatKind.f32.format.order b 1184645120 with _ | (_ | _ | _)
  all_goals
    go_enter Try.func64, Try.ntmps64
    go_wp2
    go_ret
    exact ⟨ret_b (by unfold withinB; rw [h0, h1]; rfl), rfl⟩
set_option maxRecDepth 100000 in
set_option maxHeartbeats 4000000 in
theorem s_l07Ok (b o : Nat) (x : Nat → Nat) (n : Nat) (B : Nat) (s : Value) (w : World) (hs : (slT x n).RdN w B s) (g : Nat) (R : Row w g 35 #[.float .f32 b, .float .f32 o, s]) : Calls Try.prog 57 #[.pointer (some ⟨g, 0, none⟩)] w (Out_b (okT b o x n) w) := by
  have H1 := hid (fun (w' : World) => s_l07Base b w')
  have c0 := R.cell? 0
  have c1 := R.cell? 1
  have c2 := R.cell? 2
  clear R
  change Calls _ _ _ _ (Out_b (withinB b 1065353216 1184645120 && (withinB o 1065353216 1167458304 && degB x n o)) w)
  cases h1 : withinB b 1065353216 1184645120
  · rw [h1] at H1
    clear h1
    rcases CD.RdN.form hs with ⟨rfl, _⟩ | ⟨b', p, cap, rfl, hc, hm⟩
    all_goals
      clear hs
      go_enter Try.func57, Try.ntmps57
      go_wp2_with (go_at_call 64; ((with_reducible refine (H1.out _).mono ?_); rintro e w1 ⟨rfl, rfl⟩))
      go_ret
      exact ⟨rfl, le_refl _⟩
  rw [h1] at H1
  clear h1
  rw [Bool.true_and]
  cases e1 : (FloatKind.f32.format.order o 1065353216 == some .gt || FloatKind.f32.format.order o 1065353216 == some .eq)
  · have HW : Hid (withinB o 1065353216 1167458304 = false) := by show withinB o 1065353216 1167458304 = false; unfold withinB; rw [e1, Bool.false_and]
    rcases CD.RdN.form hs with ⟨rfl, _⟩ | ⟨b', p, cap, rfl, hc, hm⟩
    all_goals
      clear hs
      go_enter Try.func57, Try.ntmps57
      go_wp2_with (go_at_call 64; ((with_reducible refine (H1.out _).mono ?_); rintro e w1 ⟨rfl, rfl⟩))
      go_ret
      exact ⟨ret_b (by rw [HW.out, Bool.false_and]), le_refl _⟩
  cases e2 : (FloatKind.f32.format.order o 1167458304 == some .lt || FloatKind.f32.format.order o 1167458304 == some .eq)
  · have HW : Hid (withinB o 1065353216 1167458304 = false) := by show withinB o 1065353216 1167458304 = false; unfold withinB; rw [e1, e2, Bool.true_and]
    rcases CD.RdN.form hs with ⟨rfl, _⟩ | ⟨b', p, cap, rfl, hc, hm⟩
    all_goals
      clear hs
      go_enter Try.func57, Try.ntmps57
      go_wp2_with (go_at_call 64; ((with_reducible refine (H1.out _).mono ?_); rintro e w1 ⟨rfl, rfl⟩))
      go_ret
      exact ⟨ret_b (by rw [HW.out, Bool.false_and]), le_refl _⟩
  have HW : withinB o 1065353216 1167458304 = true := by unfold withinB; rw [e1, e2, Bool.true_and]
  rw [HW, Bool.true_and]
  clear HW
  by_cases h0 : n = 0
  · subst h0
    rcases CD.RdN.form hs with ⟨rfl, _⟩ | ⟨b', p, cap, rfl, hc, hm⟩
    all_goals
      clear hs
      go_enter Try.func57, Try.ntmps57
      go_wp2_with (go_at_call 64; ((with_reducible refine (H1.out _).mono ?_); rintro e w1 ⟨rfl, rfl⟩))
      go_ret
      exact ⟨rfl, le_refl _⟩
  have HD : Hid (degB x n o = (decide (n ≤ 31) && (sameB (x 0) 0 && allB (stepD x o) n))) := by
    show degB x n o = _
    unfold degB
    rw [decide_eq_true (by omega : 1 ≤ n), Bool.true_and, deg_eq (by omega)]
  obtain ⟨b', p, cap, y, rfl, hc, hm, hx⟩ := slT_raw hs (by omega)
  unfold maxLen at hm
  clear hs
  have EQ : ∀ i, i < n → can .f32 (y i) = can .f32 (x i) := fun i hi => by rw [← (hx i hi).2.2, can_can]
  have d0 : w.cell? ⟨b', p, none⟩ = some (.float .f32 (y 0)) := (hx 0 (by omega)).1
  have hd1 : decide ((n : Int) < 1) = false := decide_eq_false (by omega)
  have S0 : Hid (sameB (y 0) 0 = sameB (x 0) 0) := by unfold sameB Hid; rw [EQ 0 (by omega)]
  have HL : Hid (∀ i, i < n → ltB (y i) o = ltB (x i) o) := fun i hi => ltB_congr (EQ i hi) rfl
  have HG : Hid (∀ i, i + 1 < n → gtB (y (i + 1)) (y i) = gtB (x (i + 1)) (x i)) := fun i hi => gtB_congr (EQ _ hi) (EQ _ (by omega))
  have HC := hid (fun i hi => (hx i hi).1)
  clear EQ hx
  by_cases h31 : n ≤ 31
  · have hd2 : decide ((31 : Int) < (n : Int)) = false := decide_eq_false (by omega)
    have HS := hid (fun w' => s_l01Same (y 0) 0 w')
    cases hs0 : sameB (y 0) 0
    · have RR : Hid (degB x n o = false) := by
        show degB x n o = false
        rw [HD.out, ← S0.out, hs0, Bool.false_and, Bool.and_false]
      clear HD
      rw [hs0] at HS
      clear hs0
      go_enter Try.func57, Try.ntmps57
      go_wp2_with (first | (go_at_call 64; ((with_reducible refine (H1.out _).mono ?_); rintro e w1 ⟨rfl, rfl⟩)) | (go_at_call 60; ((with_reducible refine (HS.out _).mono ?_); rintro e w1 ⟨rfl, rfl⟩)))
      go_ret
      exact ⟨ret_b RR.out.symm, le_refl _⟩
    · have RR : Hid (degB x n o = allB (stepD x o) n) := by
        show degB x n o = _
        rw [HD.out, ← S0.out, hs0, Bool.true_and, decide_eq_true h31, Bool.true_and]
      clear HD
      rw [hs0] at HS
      clear hs0
      go_enter Try.func57, Try.ntmps57
      go_wp2_with (first | (go_at_call 64; ((with_reducible refine (H1.out _).mono ?_); rintro e w1 ⟨rfl, rfl⟩)) | (go_at_call 60; ((with_reducible refine (HS.out _).mono ?_); rintro e w1 ⟨rfl, rfl⟩)))
      go_loopw [4] (fun i wr => ∃ k : Nat, k ≤ n ∧ i = .int .i64 k ∧ (∃ q, wr = w.drewN q) ∧ Hid (∀ i, i < k → stepD x o i = true)) (fun i _ => n - (intOf i).toNat)
      case atStart => exact ⟨0, by omega, rfl, ⟨0, rfl⟩, fun i hi => absurd hi (by omega)⟩
      case round =>
        obtain ⟨k, hk, rfl, ⟨q, rfl⟩, HK⟩ := hrel
        by_cases hlt : k < n
        · have ck := HC.out k hlt
          have HLk := hid (HL.out k hlt)
          have hki : (k : Int) < (n : Int) := by omega
          by_cases hk0 : k = 0
          · subst hk0
            cases hb : ltB (y 0) o
            · have hb' : (FloatKind.f32.format.order (y 0) o == some .lt) = false := hb
              have ST : Hid (stepD x o 0 = false) := by show stepD x o 0 = false; unfold stepD; rw [← HLk.out, hb, Bool.and_false]
              clear hb
              go_wp2_with fail
              go_quiet (fail)
              go_wp2
              go_ret
              exact ⟨ret_b (RR.out.trans (allB_no hlt ST.out)).symm, le_trans (le_drewN _ _) (le_drewN _ _)⟩
            · have hb' : (FloatKind.f32.format.order (y 0) o == some .lt) = true := hb
              have ST : Hid (stepD x o 0 = true) := by show stepD x o 0 = true; unfold stepD; rw [← HLk.out, hb]; rfl
              clear hb
              go_wp2_with fail
              go_quiet (fail)
              go_wp2
              go_roundw
              case rel => exact ⟨0 + 1, by omega, by go_num, ⟨_, rfl⟩, all_step (p := fun j => stepD x o j = true) HK.out ST.out⟩
              case measure => simp [intOf]; omega
          · obtain ⟨j, rfl⟩ : ∃ j, k = j + 1 := ⟨k - 1, by omega⟩
            have cj := HC.out j (by omega)
            have HGj := hid (HG.out j hlt)
            have ej : Hid (stepD x o (j + 1) = (gtB (y (j + 1)) (y j) && ltB (y (j + 1)) o)) := by
              show stepD x o (j + 1) = _
              unfold stepD
              rw [HGj.out, HLk.out, Nat.add_sub_cancel]
              rfl
            have hj0 : decide ((0 : Int) < (j : Int) + 1) = true := decide_eq_true (by omega)
            clear HGj HLk
            cases hg : gtB (y (j + 1)) (y j)
            · have hg' : (FloatKind.f32.format.order (y (j + 1)) (y j) == some .gt) = false := hg
              have ST : Hid (stepD x o (j + 1) = false) := ej.out.trans (by rw [hg, Bool.false_and])
              clear hg ej
              go_wp2_with fail
              go_quiet (fail)
              go_wp2
              go_ret
              exact ⟨ret_b (RR.out.trans (allB_no hlt ST.out)).symm, le_trans (le_drewN _ _) (le_drewN _ _)⟩
            · have hg' : (FloatKind.f32.format.order (y (j + 1)) (y j) == some .gt) = true := hg
              rw [hg, Bool.true_and] at ej
              clear hg
              cases hb : ltB (y (j + 1)) o
              · have hb' : (FloatKind.f32.format.order (y (j + 1)) o == some .lt) = false := hb
                have ST : Hid (stepD x o (j + 1) = false) := ej.out.trans hb
                clear hb ej
                go_wp2_with fail
                go_quiet (fail)
                go_wp2
                go_ret
                exact ⟨ret_b (RR.out.trans (allB_no hlt ST.out)).symm, le_trans (le_drewN _ _) (le_drewN _ _)⟩
              · have hb' : (FloatKind.f32.format.order (y (j + 1)) o == some .lt) = true := hb
                have ST : Hid (stepD x o (j + 1) = true) := ej.out.trans hb
                clear hb ej
                go_wp2_with fail
                go_quiet (fail)
                go_wp2
                go_roundw
                case rel => exact ⟨j + 1 + 1, by omega, by go_num, ⟨_, rfl⟩, all_step (p := fun j => stepD x o j = true) HK.out ST.out⟩
                case measure => simp [intOf]; omega
        · obtain rfl : k = n := by omega
          go_wp2
          go_ret
          exact ⟨ret_b (RR.out.trans (allB_yes HK.out)).symm, le_drewN _ _⟩
  · have hd2 : decide ((31 : Int) < (n : Int)) = true := decide_eq_true (by omega)
    have RR : Hid (degB x n o = false) := by
      show degB x n o = false
      rw [HD.out, decide_eq_false h31, Bool.false_and]
    clear HD
    go_enter Try.func57, Try.ntmps57
    go_wp2_with (go_at_call 64; ((with_reducible refine (H1.out _).mono ?_); rintro e w1 ⟨rfl, rfl⟩))
    go_ret
    exact ⟨ret_b RR.out.symm, le_refl _⟩
set_option maxRecDepth 100000 in
set_option maxHeartbeats 4000000 in
theorem s_ValidTuning (b o : Nat) (x : Nat → Nat) (n : Nat) (B : Nat) (s : Value) (w : World) (hs : (slT x n).RdN w B s) :
    Calls Try.prog 23 #[.agg #[.float .f32 b, .float .f32 o, s]] w (Out_b (okT b o x n) w) := by
  have HV := hid (fun (w' : World) (g : Nat) (hl : le w w') (R : Row w' g 35 #[.float .f32 b, .float .f32 o, s]) => s_l07Ok b o x n B s w' (hs.le hl) g R)
  clear hs
  have F := (Frg.nil w).box 35 #[.float .f32 b, .float .f32 o, s]
  go_enter Try.func23, Try.ntmps23
  go_wp2_with (go_at_call 57; ((with_reducible refine (HV.out _ _ F.below (F.row m0)).mono ?_); rintro e w1 ⟨rfl, hl⟩; replace F := F.le hl; clear hl))
  go_ret
  exact ⟨rfl, F.below⟩
def sameT (b o : Nat) (x : Nat → Nat) (n : Nat) (b' o' : Nat) (x' : Nat → Nat) (n' : Nat) : Bool := sameB b b' && (sameB o o' && sameS x x' n n')
set_option maxRecDepth 100000 in
set_option maxHeartbeats 4000000 in
theorem i_SameTuning (b o b' o' : Nat) (x x' : Nat → Nat) (n n' : Nat) (B B' : Nat) (s s' : Value) (w : World) (hs : (slT x n).RdN w B s) (hs' : (slT x' n').RdN w B' s') :
    Calls Try.prog 28 #[.agg #[.float .f32 b, .float .f32 o, s], .agg #[.float .f32 b', .float .f32 o', s']] w (Out_b (sameT b o x n b' o' x' n') w) := by
  have H1 := hid (fun (w' : World) => i_SameSample b b' w')
  have H2 := hid (fun (w' : World) => i_SameSample o o' w')
  have H3 := hid (fun (w1 : World) (hl : le w w1) => i_EqualFuncR B B' s s' x x' n n' w1 (slT_rds (hs.le hl)) (slT_rds (hs'.le hl)))
  clear hs hs'
  change Calls _ _ _ _ (Out_b (sameB b b' && (sameB o o' && sameS x x' n n')) w)
  cases h1 : sameB b b' <;> cases h2 : sameB o o'
  all_goals
    rw [h1] at H1; rw [h2] at H2
    clear h1 h2
    have F := ((Frg.nil w).box 35 #[.float .f32 b, .float .f32 o, s]).box 35 #[.float .f32 b', .float .f32 o', s']
    simp only [World.size_alloc] at F
    have c0 := (F.row m1).cell? 0
    have c1 := (F.row m1).cell? 1
    have c2 := (F.row m1).cell? 2
    have c3 := (F.row m0).cell? 0
    have c4 := (F.row m0).cell? 1
    have c5 := (F.row m0).cell? 2
    go_enter Try.func28, Try.ntmps28
    go_wp2_with (first | (go_at_call 62; ((first | with_reducible refine (H1.out _).mono ?_ | with_reducible refine (H2.out _).mono ?_); rintro e w1 ⟨rfl, rfl⟩)) | (go_at_call 63; ((with_reducible refine (H3.out _ F.below).mono ?_); rintro e w2 ⟨rfl, rfl⟩)))
    go_ret
    first | exact ⟨rfl, F.below⟩ | exact ⟨rfl, le_trans F.below (le_drewN _ _)⟩
set_option maxRecDepth 100000 in
set_option maxHeartbeats 4000000 in
theorem s_SameTuning (b o b' o' : Nat) (x x' : Nat → Nat) (n n' : Nat) (B B' : Nat) (s s' : Value) (w : World) (hs : (slT x n).RdN w B s) (hs' : (slT x' n').RdN w B' s') :
    Calls Try.prog 27 #[.agg #[.float .f32 b, .float .f32 o, s], .agg #[.float .f32 b', .float .f32 o', s']] w (Out_b (sameT b o x n b' o' x' n') w) := by
  have H1 := hid (fun (w' : World) => s_l01Same b b' w')
  have H2 := hid (fun (w' : World) => s_l01Same o o' w')
  have H3 := hid (fun (w1 : World) (hl : le w w1) => s_l02SameListR B B' s s' x x' n n' w1 (slT_rds (hs.le hl)) (slT_rds (hs'.le hl)))
  clear hs hs'
  change Calls _ _ _ _ (Out_b (sameB b b' && (sameB o o' && sameS x x' n n')) w)
  cases h1 : sameB b b' <;> cases h2 : sameB o o'
  all_goals
    rw [h1] at H1; rw [h2] at H2
    clear h1 h2
    have F := ((Frg.nil w).box 35 #[.float .f32 b, .float .f32 o, s]).box 35 #[.float .f32 b', .float .f32 o', s']
    simp only [World.size_alloc] at F
    have c0 := (F.row m1).cell? 0
    have c1 := (F.row m1).cell? 1
    have c2 := (F.row m1).cell? 2
    have c3 := (F.row m0).cell? 0
    have c4 := (F.row m0).cell? 1
    have c5 := (F.row m0).cell? 2
    go_enter Try.func27, Try.ntmps27
    go_wp2_with (first | (go_at_call 60; ((first | with_reducible refine (H1.out _).mono ?_ | with_reducible refine (H2.out _).mono ?_); rintro e w1 ⟨rfl, rfl⟩)) | (go_at_call 61; ((with_reducible refine (H3.out _ F.below).mono ?_); rintro e w2 ⟨rfl, m9, rfl⟩)))
    go_ret
    first | exact ⟨rfl, F.below⟩ | exact ⟨rfl, le_trans F.below (le_drewN _ _)⟩
theorem tun_data {cs : List CD} (h : HasShL shTuning cs) : ∃ (b o : Nat) (xs : Nat → CD) (n : Nat), cs = [.flt .f32 b, .flt .f32 o, .sl 1 n xs] ∧ (∀ i, i < n → (xs i).flk = some .f32) := by
  obtain ⟨c0, cs, rfl, q0, h⟩ := h.inv
  obtain ⟨c1, cs, rfl, q1, h⟩ := h.inv
  obtain ⟨c2, cs, rfl, q2, h⟩ := h.inv
  obtain rfl := h.inv0
  obtain ⟨b, rfl⟩ := q0
  obtain ⟨o, rfl⟩ := q1
  obtain ⟨n, xs, rfl, r0⟩ := q2
  exact ⟨b, o, xs, n, rfl, fun i hi => ShOk.flts (fun i hi j hj => (r0 i hi j hj).ok) rfl i hi⟩
theorem tun_open {b o : Nat} {xs : Nat → CD} {n : Nat} {w : World} {B : Nat} {u : List Value} (h : RdLN w B (([.flt .f32 b, .flt .f32 o, .sl 1 n xs] : List CD).map CD.cp) u) (hx : ∀ i, i < n → (xs i).flk = some .f32) : ∃ s : Value, u = [.float .f32 b, .float .f32 o, s] ∧ (slT (fun i => (xs i).fx) n).RdN w B s ∧ fits .f32 b ∧ fits .f32 o := by
  simp only [List.map_cons, List.map_nil] at h
  obtain ⟨v0, u0, rfl, q0, hh0⟩ := h.inv
  obtain ⟨v1, u1, rfl, q1, hh1⟩ := hh0.inv
  obtain ⟨v2, u2, rfl, q2, hh2⟩ := hh1.inv
  obtain rfl := hh2.inv0
  obtain ⟨rfl, f1⟩ := q0
  obtain ⟨rfl, f2⟩ := q1
  exact ⟨v2, rfl, q2.congr (slT_cp hx), f1, f2⟩
theorem both_ValidTuning (cs : List CD) (h : HasShL shTuning cs) : ∃ ar0 : Bool, (∀ (w : World) (B : Nat) (u : List Value), RdLN w B (cs.map CD.cp) u → Calls Try.prog 23 #[.agg u.toArray] w (Out_b ar0 w)) ∧ (∀ (w : World) (B : Nat) (u : List Value), RdLN w B (cs.map CD.cp) u → Calls Try.prog 25 #[.agg u.toArray] w (Out_b ar0 w)) := by
  obtain ⟨b, o, xs, n, rfl, hx⟩ := tun_data h
  refine ⟨okT b o (fun i => (xs i).fx) n, fun w B u hu => ?_, fun w B u hu => ?_⟩
  · obtain ⟨s, rfl, hs, _, _⟩ := tun_open hu hx
    exact s_ValidTuning b o (fun i => (xs i).fx) n B s w hs
  · obtain ⟨s, rfl, hs, _, _⟩ := tun_open hu hx
    exact i_ValidTuning b o (fun i => (xs i).fx) n B s w hs
theorem both_SameTuning (cs cs' : List CD) (h : HasShL shTuning cs) (h' : HasShL shTuning cs') : ∃ ar0 : Bool, (∀ (w : World) (B : Nat) (u : List Value) (B' : Nat) (u' : List Value), RdLN w B (cs.map CD.cp) u → RdLN w B' (cs'.map CD.cp) u' → Calls Try.prog 27 #[.agg u.toArray, .agg u'.toArray] w (Out_b ar0 w)) ∧ (∀ (w : World) (B : Nat) (u : List Value) (B' : Nat) (u' : List Value), RdLN w B (cs.map CD.cp) u → RdLN w B' (cs'.map CD.cp) u' → Calls Try.prog 28 #[.agg u.toArray, .agg u'.toArray] w (Out_b ar0 w)) := by
  obtain ⟨b, o, xs, n, rfl, hx⟩ := tun_data h
  obtain ⟨b', o', xs', n', rfl, hx'⟩ := tun_data h'
  refine ⟨sameT b o (fun i => (xs i).fx) n b' o' (fun i => (xs' i).fx) n', fun w B u B' u' hu hu' => ?_, fun w B u B' u' hu hu' => ?_⟩
  · obtain ⟨s, rfl, hs, _, _⟩ := tun_open hu hx
    obtain ⟨s', rfl, hs', _, _⟩ := tun_open hu' hx'
    exact s_SameTuning b o b' o' _ _ n n' B B' s s' w hs hs'
  · obtain ⟨s, rfl, hs, _, _⟩ := tun_open hu hx
    obtain ⟨s', rfl, hs', _, _⟩ := tun_open hu' hx'
    exact i_SameTuning b o b' o' _ _ n n' B B' s s' w hs hs'
end Go.Proofs.Yteblmkamopfkiaa

/- The walk of 'FnExactValidTuning'. -/
namespace Go.Proofs.Yteblmkamopfkiaa.fnExactValidTuning
open Go.RowKit Go.Fk
set_option maxRecDepth 100000 in
set_option maxHeartbeats 4000000 in
theorem core (cs0 : List CD) (vs0 : List Value) (ar0 : Bool) (w : World) (z0 : RdL w w.heap.size cs0 vs0) (k0 : ShOkL shTuning cs0) (hz : szL cs0 ≤ 1048576)
    (hS : ∀ (w : World) (B0 : Nat) (u0 : List Value), RdLN w B0 (cs0.map CD.cp) u0 → Calls Try.prog 23 #[.agg u0.toArray] w (Out_b ar0 w))
    (hI : ∀ (w : World) (B0 : Nat) (u0 : List Value), RdLN w B0 (cs0.map CD.cp) u0 → Calls Try.prog 25 #[.agg u0.toArray] w (Out_b ar0 w)) :
    Calls Try.prog 6 #[.agg vs0.toArray] w fun e w' => e = .returned (.bool true) ∧ Below w.heap.size w w' := by
  have Z0 := hid z0; have K0 := hid k0; have hl0 : Hid (vs0.length = 3) := z0.1.trans k0.1; clear z0 k0
  have hz0 : szL cs0 ≤ 1048576 := by omega
  have hm0 : ¬ (1048576 : Int) - (szL cs0 : Nat) < 0 := by omega
  have HS := hid hS; have HI := hid hI; clear hS hI
  have F := Frg.nil w
  replace F := F.box 32 vs0.toArray
  go_enter Try.func6, Try.ntmps6
  go_wp2_with (first | (((with_reducible refine listN F ?_); clear F; intro wN F)) | ((with_reducible refine at_loadU rfl rfl ?_); first | (with_reducible refine wpList_loadG F rfl rfl rfl (by first | exact m0 | exact m1 | exact m2 | exact m3 | exact m4 | exact m5 | exact m6 | exact m7 | exact m8) Try.underlying35 rfl uinfoTuningI (by simp only [List.size_toArray]; first | exact hl0.out | exact hl1.out | exact hu0.out | exact hu1.out) ?_) | (with_reducible refine wpList_loadG F rfl rfl rfl (by first | exact m0 | exact m1 | exact m2 | exact m3 | exact m4 | exact m5 | exact m6 | exact m7 | exact m8) Try.underlying32 rfl uinfoTuningL (by simp only [List.size_toArray]; first | exact hl0.out | exact hl1.out | exact hu0.out | exact hu1.out) ?_)) | (go_at_call 22; ((with_reducible refine (szU_Tuning _ cs0 vs0 (1048576 : Int) ((1048576 : Int) - (szL cs0 : Nat)) _ (Z0.out.le F.below) K0.out (by omega) (by omega) (lessBy_pos hm0)).mono ?_); rintro e w1 ⟨rfl, hb1⟩; replace F := F.le hb1)) | (go_at_call 24; ((with_reducible refine (toU_Tuning _ cs0 vs0 _ (Z0.out.le F.below) K0.out hz0).mono ?_); rintro e w1 ⟨usA0, rfl, ho, hl⟩; have hu0 : Hid (usA0.length = 3) := ho.1.trans ((List.length_map ..).trans K0.out.1); have ho0 := hid ho.all_one; replace F := F.lay1 hl ho; clear ho hl)))
  first | ((with_reducible refine callAt0 F ?_); clear F; intro wN F) | ((with_reducible refine callAtN F ?_); clear F; intro wN F)
  refine (HS.out _ _ _ (F.layN (by first | exact m0 | exact m1 | exact m2 | exact m3 | exact m4 | exact m5 | exact m6 | exact m7 | exact m8))).mono ?_
  rintro e wS ⟨rfl, hlS⟩
  replace F := F.le hlS
  go_wp2_with (first | (((with_reducible refine listN F ?_); clear F; intro wN F)) | ((with_reducible refine at_store rfl ?_); first | (refine wpList_storeG F rfl rfl rfl rfl rfl (by simp only [List.size_toArray]; first | (rw [hu0.out]; exact uinfoTuningI) | (rw [hu1.out]; exact uinfoTuningI)) (by simp only [List.size_toArray]; first | (rw [hu0.out]; rfl) | (rw [hu1.out]; rfl)) (by first | exact ho0.out | exact ho1.out) ?_; clear F; intro W F zW; clear zW)) | ((with_reducible refine at_loadU rfl rfl ?_); first | (with_reducible refine wpList_loadG F rfl rfl rfl (by first | exact m0 | exact m1 | exact m2 | exact m3 | exact m4 | exact m5 | exact m6 | exact m7 | exact m8) Try.underlying35 rfl uinfoTuningI (by simp only [List.size_toArray]; first | exact hl0.out | exact hl1.out | exact hu0.out | exact hu1.out) ?_) | (with_reducible refine wpList_loadG F rfl rfl rfl (by first | exact m0 | exact m1 | exact m2 | exact m3 | exact m4 | exact m5 | exact m6 | exact m7 | exact m8) Try.underlying32 rfl uinfoTuningL (by simp only [List.size_toArray]; first | exact hl0.out | exact hl1.out | exact hu0.out | exact hu1.out) ?_)) | (go_at_call 24; ((with_reducible refine (toU_Tuning _ cs0 vs0 _ (Z0.out.le F.below) K0.out hz0).mono ?_); rintro e w1 ⟨usB0, rfl, ho, hl⟩; have hu0 : Hid (usB0.length = 3) := ho.1.trans ((List.length_map ..).trans K0.out.1); have ho0 := hid ho.all_one; replace F := F.lay1 hl ho; clear ho hl)))
  first | ((with_reducible refine callAt0 F ?_); clear F; intro wN F) | ((with_reducible refine callAtN F ?_); clear F; intro wN F)
  refine (HI.out _ _ _ (F.layN (by first | exact m0 | exact m1 | exact m2 | exact m3 | exact m4 | exact m5 | exact m6 | exact m7 | exact m8))).mono ?_
  rintro e wI ⟨rfl, hlI⟩
  replace F := F.le hlI
  go_wp2_with (first | (((with_reducible refine listN F ?_); clear F; intro wN F)) | ((with_reducible refine at_store rfl ?_); first | (refine wpList_storeG F rfl rfl rfl rfl rfl (by simp only [List.size_toArray]; first | (rw [hu0.out]; exact uinfoTuningI) | (rw [hu1.out]; exact uinfoTuningI)) (by simp only [List.size_toArray]; first | (rw [hu0.out]; rfl) | (rw [hu1.out]; rfl)) (by first | exact ho0.out | exact ho1.out) ?_; clear F; intro W F zW; clear zW)) | ((with_reducible refine at_loadU rfl rfl ?_); first | (with_reducible refine wpList_loadG F rfl rfl rfl (by first | exact m0 | exact m1 | exact m2 | exact m3 | exact m4 | exact m5 | exact m6 | exact m7 | exact m8) Try.underlying35 rfl uinfoTuningI (by simp only [List.size_toArray]; first | exact hl0.out | exact hl1.out | exact hu0.out | exact hu1.out) ?_) | (with_reducible refine wpList_loadG F rfl rfl rfl (by first | exact m0 | exact m1 | exact m2 | exact m3 | exact m4 | exact m5 | exact m6 | exact m7 | exact m8) Try.underlying32 rfl uinfoTuningL (by simp only [List.size_toArray]; first | exact hl0.out | exact hl1.out | exact hu0.out | exact hu1.out) ?_)))
  first | (refine wpAt0 F ?_; clear F; intro wN F) | (refine wpAtN F ?_; clear F; intro wN F)
  refine region_freeD (E := leX) (fun f _ w v => if f = 24 then ∃ (us : List Value) (B : Nat), v = .agg us.toArray ∧ RdL w B (cs0.map CD.cp) us else v = .bool true) (by kernel_rfl) (by kernel_rfl) ?_
  refine wpFreeD_loadG F rfl rfl rfl rfl (by first | exact m0 | exact m1 | exact m2 | exact m3 | exact m4 | exact m5 | exact m6 | exact m7 | exact m8) Try.underlying35 rfl uinfoTuningI (by simp only [List.size_toArray]; exact hu0.out) ?_
  simp only [Act.put, List.setIfInBounds_toArray, List.set_cons_succ, List.set_cons_zero]
  refine wpFreeD_loadG F rfl rfl rfl rfl (by first | exact m0 | exact m1 | exact m2 | exact m3 | exact m4 | exact m5 | exact m6 | exact m7 | exact m8) Try.underlying32 rfl uinfoTuningL (by simp only [List.size_toArray]; exact hl0.out) ?_
  simp only [Act.put, List.setIfInBounds_toArray, List.set_cons_succ, List.set_cons_zero]
  refine wpFreeD_callB rfl rfl Try.func24 (by kernel_rfl) (by kernel_rfl) (args := #[.agg vs0.toArray]) (by simp [Act.eval]) (fun v w1 w2 hw hv => by simp only [if_true] at hv ⊢; obtain ⟨u, B, h1, h2⟩ := hv; exact ⟨u, B, h1, h2.le hw⟩) (fun w1 hw1 _ => (toU_Tuning _ cs0 vs0 w1 (Z0.out.le (le_trans (F.drewN _).below hw1)) K0.out hz0).mono ?_) ?_
  · rintro e w2 ⟨u, rfl, ho, hl⟩
    exact ⟨_, rfl, hl, by simp only [if_true]; exact ⟨u, _, rfl, ho.rd (fun _ hj => hj.2)⟩⟩
  rintro v ⟨_, _, _, hv⟩
  simp only [if_true] at hv
  obtain ⟨u0, Bu0, rfl, _⟩ := hv
  simp only [Act.put, List.setIfInBounds_toArray, List.set_cons_succ, List.set_cons_zero]
  refine wpFreeD_callB rfl rfl Try.func26 (by kernel_rfl) (by kernel_rfl) (args := #[.agg usB0.toArray, .agg u0.toArray]) (by simp [Act.eval]) (fun v w1 w2 hw hv => by simp only [show ¬ (26 = 24) by decide, if_false] at hv ⊢; exact hv) (fun w1 hw1 hbe => ?_) ?_
  · have hk := (hbe ⟨2, Ground.data⟩ (by simp) (by kernel_rfl)).2 rfl
    simp only [if_true] at hk
    obtain ⟨u', B', he, hr⟩ := hk
    obtain rfl : u0 = u' := by simpa using he
    refine (eqU_Tuning _ _ (cs0.map CD.cp) _ _ _ (((F.drewN 1).le hw1).layR (by first | exact m0 | exact m1 | exact m2 | exact m3 | exact m4 | exact m5 | exact m6 | exact m7 | exact m8)) hr K0.out.cp (by rw [szL_cp]; exact hz0)).mono ?_
    rintro e w2 ⟨rfl, hl⟩
    exact ⟨_, rfl, hl, by simp only [show ¬ (26 = 24) by decide, if_false]⟩
  rintro v ⟨_, _, _, hv⟩
  simp only [show ¬ (26 = 24) by decide, if_false] at hv
  subst hv
  simp only [Act.put, List.setIfInBounds_toArray, List.set_cons_succ, List.set_cons_zero]
  refine wpFreeD_one rfl (.bool false) (fun w1 _ => by kernel_rfl) ?_
  simp only [Act.put, List.setIfInBounds_toArray, List.set_cons_succ, List.set_cons_zero]
  refine wpFreeD_nil (fun wR hwR _ => ?_)
  replace F := (F.drewN 1).le hwR
  clear hwR
  go_wp2_with (first | (((with_reducible refine listN F ?_); clear F; intro wN F)) | ((with_reducible refine at_loadU rfl rfl ?_); first | (with_reducible refine wpList_loadG F rfl rfl rfl (by first | exact m0 | exact m1 | exact m2 | exact m3 | exact m4 | exact m5 | exact m6 | exact m7 | exact m8) Try.underlying35 rfl uinfoTuningI (by simp only [List.size_toArray]; first | exact hl0.out | exact hl1.out | exact hu0.out | exact hu1.out) ?_) | (with_reducible refine wpList_loadG F rfl rfl rfl (by first | exact m0 | exact m1 | exact m2 | exact m3 | exact m4 | exact m5 | exact m6 | exact m7 | exact m8) Try.underlying32 rfl uinfoTuningL (by simp only [List.size_toArray]; first | exact hl0.out | exact hl1.out | exact hu0.out | exact hu1.out) ?_)))
  go_ret
  first | exact ⟨rfl, F.below⟩ | exact ⟨rfl, below_drewN F.below _⟩
set_option maxRecDepth 100000 in
set_option maxHeartbeats 4000000 in
theorem large0 (cs0 : List CD) (vs0 : List Value) (w : World) (z0 : RdL w w.heap.size cs0 vs0) (k0 : ShOkL shTuning cs0)  (hg : ¬ szL cs0 ≤ 1048576) :
    Calls Try.prog 6 #[.agg vs0.toArray] w fun e w' => e = .returned (.bool true) ∧ Below w.heap.size w w' := by
  have Z0 := hid z0; have K0 := hid k0; have hl0 : Hid (vs0.length = 3) := z0.1.trans k0.1; clear z0 k0
  have hn0 : (1048576 : Int) - (szL cs0 : Nat) < 0 := by omega
  have F := Frg.nil w
  replace F := F.box 32 vs0.toArray
  go_enter Try.func6, Try.ntmps6
  go_wp2_with (first | (((with_reducible refine listN F ?_); clear F; intro wN F)) | ((with_reducible refine at_loadU rfl rfl ?_); first | (with_reducible refine wpList_loadG F rfl rfl rfl (by first | exact m0 | exact m1 | exact m2 | exact m3 | exact m4 | exact m5 | exact m6 | exact m7 | exact m8) Try.underlying35 rfl uinfoTuningI (by simp only [List.size_toArray]; first | exact hl0.out | exact hl1.out | exact hu0.out | exact hu1.out) ?_) | (with_reducible refine wpList_loadG F rfl rfl rfl (by first | exact m0 | exact m1 | exact m2 | exact m3 | exact m4 | exact m5 | exact m6 | exact m7 | exact m8) Try.underlying32 rfl uinfoTuningL (by simp only [List.size_toArray]; first | exact hl0.out | exact hl1.out | exact hu0.out | exact hu1.out) ?_)) | (go_at_call 22; ((with_reducible refine (szU_Tuning _ cs0 vs0 (1048576 : Int) (-1 : Int) _ (Z0.out.le F.below) K0.out (by omega) (by omega) (lessBy_neg hn0)).mono ?_); rintro e w1 ⟨rfl, hb1⟩; replace F := F.le hb1)))
  go_ret
  first | exact ⟨rfl, F.below⟩ | exact ⟨rfl, below_drewN F.below _⟩
theorem walk (cs0 : List CD) (vs0 : List Value) (w : World) (k0 : HasShL shTuning cs0) (z0 : RdL w w.heap.size cs0 vs0) :
    Calls Try.prog 6 #[.agg vs0.toArray] w fun e w' => e = .returned (.bool true) ∧ Below w.heap.size w w' := by
  by_cases g0 : szL cs0 ≤ 1048576
  · skip
    obtain ⟨ar0, hS, hI⟩ := both_ValidTuning cs0 k0
    exact core cs0 vs0 ar0 w z0 k0.ok g0 hS hI
  · exact large0 cs0 vs0 w z0 k0.ok  g0
end Go.Proofs.Yteblmkamopfkiaa.fnExactValidTuning
