/- Texts of the walk, laid in one file. -/
import Derived.Deep.AppendLies
import Derived.Test.YtnkjmgadnejdlabMc
set_option linter.unusedVariables false
set_option linter.unusedSimpArgs false
/- 'ReadFraction' of both. -/
namespace Go.Fk
open Go Go.RowKit
/-- No byte is the stroke. -/
def noB (s : ByteArray) : Bool := allB (fun i => !decide (byteN s i = 47)) s.size
theorem noB_yes {s : ByteArray} (h : noB s = true) : ∀ i, i < s.size → byteN s i ≠ 47 := fun i hi e => by
  have := allB_all h i hi
  rw [decide_eq_true e] at this
  cases this
/-- The first stroke. -/
theorem noB_no {s : ByteArray} (h : noB s = false) : ∃ p, p < s.size ∧ byteN s p = 47 ∧ ∀ i, i < p → byteN s i ≠ 47 := by
  obtain ⟨i, hi, he⟩ := allB_ex h
  have he' : byteN s i = 47 := by simpa using he
  clear he h
  induction i using Nat.strongRecOn with
  | ind i ih =>
    by_cases hx : ∃ k, k < i ∧ byteN s k = 47
    · obtain ⟨k, hk, e⟩ := hx
      exact ih k hk (by omega) e
    · exact ⟨i, hi, he', fun k hk e => hx ⟨k, hk, e⟩⟩
theorem spl_none {s : ByteArray} {k : Nat} (h : ∀ i, i < k → byteN s i ≠ 47) : splN s 47 k = ([], 0) := by
  induction k with
  | zero => rfl
  | succ k ih => simp only [splN]; rw [if_neg (h k (by omega)), ih (fun i hi => h i (by omega))]
/-- Behind the first stroke: one piece, and more just if there is another stroke. -/
theorem spl_some {s : ByteArray} {p : Nat} (hp : byteN s p = 47) (h : ∀ i, i < p → byteN s i ≠ 47) {k : Nat} (hk : p < k) :
    (∃ L q, splN s 47 k = (s.extract 0 p :: L, q)) ∧ ((∀ i, p < i → i < k → byteN s i ≠ 47) → splN s 47 k = ([s.extract 0 p], p + 1)) ∧ ((∃ i, p < i ∧ i < k ∧ byteN s i = 47) → 2 ≤ (splN s 47 k).1.length) := by
  induction k with
  | zero => omega
  | succ k ih =>
    by_cases e : k = p
    · subst e
      have e1 : splN s 47 (k + 1) = ([s.extract 0 k], k + 1) := by
        simp only [splN]; rw [if_pos hp, spl_none h]; rfl
      exact ⟨⟨_, _, e1⟩, fun _ => e1, fun ⟨i, h1, h2, _⟩ => by omega⟩
    · obtain ⟨⟨L, q, e1⟩, i2, i3⟩ := ih (by omega)
      by_cases hb : byteN s k = 47
      · have e2 : splN s 47 (k + 1) = (s.extract 0 p :: (L ++ [s.extract q k]), k + 1) := by
          simp only [splN]; rw [if_pos hb, e1]; rfl
        exact ⟨⟨_, _, e2⟩, fun hh => absurd hb (hh k (by omega) (by omega)), fun _ => by rw [e2]; simp⟩
      · have e2 : splN s 47 (k + 1) = splN s 47 k := by simp only [splN]; rw [if_neg hb]
        rw [e2]
        exact ⟨⟨_, _, e1⟩, fun hh => i2 (fun i a b => hh i a (by omega)), fun ⟨i, a, b, c⟩ => i3 ⟨i, a, by
          rcases Nat.lt_succ_iff_lt_or_eq.1 b with h9 | h9
          · exact h9
          · subst h9; exact absurd c hb, c⟩⟩
theorem splL_none {s : ByteArray} (h : noB s = true) : splL s 47 = [s] := by
  unfold splL
  rw [spl_none (noB_yes h)]
  show [s.extract 0 s.size] = [s]
  congr 1
  rw [Lib.extract_eq]
  obtain ⟨⟨l⟩⟩ := s
  have e : (ByteArray.mk ⟨l⟩).size = l.length := rfl
  simp [e]
/-- The text behind the first stroke has none. -/
def tailS (s : ByteArray) (p : Nat) : ByteArray := s.extract (p + 1) s.size
theorem splL_some {s : ByteArray} {p : Nat} (hp : p < s.size) (h0 : byteN s p = 47) (h : ∀ i, i < p → byteN s i ≠ 47) :
    (noB (tailS s p) = true → splL s 47 = [s.extract 0 p, tailS s p]) ∧ (noB (tailS s p) = false → ∃ a L, splL s 47 = s.extract 0 p :: a :: L ∧ 1 ≤ L.length) := by
  obtain ⟨⟨L, q, e1⟩, i2, i3⟩ := spl_some h0 h hp
  have hz : (tailS s p).size = s.size - (p + 1) := ext_size (by omega) (Nat.le_refl _)
  have hb : ∀ i, i < (tailS s p).size → byteN (tailS s p) i = byteN s (p + 1 + i) := fun i hi => ext_byte (by omega) (Nat.le_refl _)
  refine ⟨fun hn => ?_, fun hn => ?_⟩
  · have := i2 (fun i a b => by
      have := noB_yes hn (i - (p + 1)) (by omega)
      rw [hb _ (by omega)] at this
      rwa [show p + 1 + (i - (p + 1)) = i by omega] at this)
    unfold splL
    rw [this]
    rfl
  · obtain ⟨i, hi, hi47, _⟩ := noB_no hn
    rw [hb i hi] at hi47
    have := i3 ⟨p + 1 + i, by omega, by omega, hi47⟩
    unfold splL
    rw [e1] at this ⊢
    simp at this
    cases L with
    | nil => simp at this
    | cons a L => exact ⟨a, L ++ [s.extract q s.size], rfl, by simp⟩
theorem okW_noB {s : ByteArray} (h : noB s = false) : okW s = false := by
  obtain ⟨p, hp, e, _⟩ := noB_no h
  exact okW_no hp (by unfold digB; rw [e]; decide)
end Go.Fk
namespace Go.Proofs.Ytnkjmgadnejdlab
open Go.RowKit Go.Fk
set_option maxRecDepth 100000 in
set_option maxHeartbeats 2000000 in
theorem s_l01Number (s : ByteArray) (w : World) (h6 : s.size ≤ 6) : Calls Try.prog 111 #[.string s] w fun e w' => e = .returned (.tuple #[.int .i64 (wholeN s), .bool (okW s)]) ∧ w = w' := by
  have NO : okW s = false → (Ending.returned (.tuple #[.int .i64 (0 : Int), .bool false]) = Ending.returned (.tuple #[.int .i64 (wholeN s), .bool (okW s)])) := fun h => by unfold wholeN; rw [h]; rfl
  by_cases h0 : s.size = 0
  · obtain rfl := size_nil h0
    rw [show okW ⟨#[]⟩ = false by decide, show wholeN ⟨#[]⟩ = 0 by decide]
    clear NO
    go_enter Try.func111, Try.ntmps111
    go_wp2
    go_ret2
    exact ⟨rfl, rfl⟩
  have hpos : 0 < s.size := by omega
  have hpos' : (0 : Int) < (s.size : Int) := by omega
  have p1 : ¬ (s.size : Int) < 1 := by omega
  have p9 : ¬ (9 : Int) < (s.size : Int) := by omega
  have hg0 := getB hpos
  have hb0 := byteN_lt s 0
  by_cases hz : byteN s 0 = 48 ∧ 1 < s.size
  · have E : okW s = false := by unfold okW; rw [decide_eq_true hz.1, decide_eq_true hz.2]; simp
    have HE := hid (NO E)
    have g48 : ((byteN s 0 : Nat) : Int) = 48 := by omega
    have g1 : (1 : Int) < (s.size : Int) := by omega
    clear E NO hz
    go_enter Try.func111, Try.ntmps111
    go_wp2
    go_ret2
    exact ⟨HE.out, rfl⟩
  have HNO := hid NO; have HZ := hid hz; have H6 := hid h6
  have hcase : (byteN s 0 = 48 ∧ s.size = 1) ∨ byteN s 0 ≠ 48 := by omega
  clear hz NO h6
  rcases hcase with ⟨g48, g1⟩ | g48
  · have g48' : ((byteN s 0 : Nat) : Int) = 48 := by omega
    have g1' : ¬ (1 : Int) < (s.size : Int) := by omega
    clear g48 g1
    go_enter Try.func111, Try.ntmps111
    go_wp2
    go_loop [4, 5] (fun m i => ∃ j : Nat, j ≤ s.size ∧ i = .int .i64 j ∧ m = .int .i64 (valN s j : Nat) ∧ Hid (∀ k, k < j → digB s k = true)) (fun _ i => s.size - (intOf i).toNat)
    case atStart => exact ⟨0, by omega, rfl, rfl, fun k hk => absurd hk (by omega)⟩
    case round =>
      obtain ⟨j, hj, rfl, rfl, HJ⟩ := hrel
      have h6n := H6.out
      by_cases hlt : j < s.size
      · have hc := getB hlt
        have hlt' : (j : Int) < (s.size : Int) := by omega
        have hb := byteN_lt s j
        have hv := valN_lt HJ.out
        have hv6 : 10 ^ j ≤ 10 ^ 6 := Nat.pow_le_pow_right (by omega) (by omega)
        have hv7 : valN s j < 1000000 := by omega
        clear hv hv6
        cases hlo : digB s j
        · have E := hid (HNO.out (okW_no hlt hlo))
          unfold digB at hlo
          by_cases h97 : byteN s j < 48
          · have g97 : (byteN s j : Int) < 48 := by omega
            clear hlo
            go_wp2
            go_ret2
            exact ⟨E.out, rfl⟩
          · have g97 : ¬ (byteN s j : Int) < 48 := by omega
            have g122 : (57 : Int) < (byteN s j : Int) := by
              simp only [Bool.and_eq_false_iff, decide_eq_false_iff_not] at hlo
              omega
            clear hlo
            go_wp2
            go_ret2
            exact ⟨E.out, rfl⟩
        · have HH := hid hlo
          unfold digB at hlo
          simp only [Bool.and_eq_true, decide_eq_true_eq] at hlo
          have g97 : ¬ (byteN s j : Int) < 48 := by omega
          have g122 : ¬ (57 : Int) < (byteN s j : Int) := by omega
          have w1 : IntKind.u8.wrap ((byteN s j : Int) - 48) = (byteN s j : Int) - 48 := by
            have e : (byteN s j : Int) - 48 = ((byteN s j - 48 : Nat) : Int) := by omega
            rw [e]; exact wrap_u8 (by omega)
          have w2 : IntKind.i64.wrap ((valN s j : Int) * 10) = (valN s j : Int) * 10 := IntWalk.i64_in _ (by omega)
          have w3 : IntKind.i64.wrap ((byteN s j : Int) - 48) = (byteN s j : Int) - 48 := IntWalk.i64_in _ (by omega)
          have w4 : IntKind.i64.wrap ((valN s j : Int) * 10 + ((byteN s j : Int) - 48)) = (valN s j : Int) * 10 + ((byteN s j : Int) - 48) := IntWalk.i64_in _ (by omega)
          have EV := hid (show (valN s j : Int) * 10 + ((byteN s j : Int) - 48) = (valN s (j + 1) : Nat) by simp only [valN]; omega)
          clear hlo
          go_wp2
          go_round
          case rel => exact ⟨j + 1, by omega, by go_num, by rw [← EV.out], fun k hk => by rcases Nat.lt_succ_iff_lt_or_eq.1 hk with h | rfl; exact HJ.out k h; exact HH.out⟩
          case measure => simp [intOf]; omega
      · obtain rfl : j = s.size := by omega
        have hlt' : ¬ (s.size : Int) < (s.size : Int) := by omega
        have E := hid (okW_yes (by omega) (by omega) HZ.out HJ.out)
        go_wp2
        go_ret2
        exact ⟨by unfold wholeN; rw [E.out]; rfl, rfl⟩
  · have g48' : ¬ ((byteN s 0 : Nat) : Int) = 48 := by omega
    clear g48
    go_enter Try.func111, Try.ntmps111
    go_wp2
    go_loop [4, 5] (fun m i => ∃ j : Nat, j ≤ s.size ∧ i = .int .i64 j ∧ m = .int .i64 (valN s j : Nat) ∧ Hid (∀ k, k < j → digB s k = true)) (fun _ i => s.size - (intOf i).toNat)
    case atStart => exact ⟨0, by omega, rfl, rfl, fun k hk => absurd hk (by omega)⟩
    case round =>
      obtain ⟨j, hj, rfl, rfl, HJ⟩ := hrel
      have h6n := H6.out
      by_cases hlt : j < s.size
      · have hc := getB hlt
        have hlt' : (j : Int) < (s.size : Int) := by omega
        have hb := byteN_lt s j
        have hv := valN_lt HJ.out
        have hv6 : 10 ^ j ≤ 10 ^ 6 := Nat.pow_le_pow_right (by omega) (by omega)
        have hv7 : valN s j < 1000000 := by omega
        clear hv hv6
        cases hlo : digB s j
        · have E := hid (HNO.out (okW_no hlt hlo))
          unfold digB at hlo
          by_cases h97 : byteN s j < 48
          · have g97 : (byteN s j : Int) < 48 := by omega
            clear hlo
            go_wp2
            go_ret2
            exact ⟨E.out, rfl⟩
          · have g97 : ¬ (byteN s j : Int) < 48 := by omega
            have g122 : (57 : Int) < (byteN s j : Int) := by
              simp only [Bool.and_eq_false_iff, decide_eq_false_iff_not] at hlo
              omega
            clear hlo
            go_wp2
            go_ret2
            exact ⟨E.out, rfl⟩
        · have HH := hid hlo
          unfold digB at hlo
          simp only [Bool.and_eq_true, decide_eq_true_eq] at hlo
          have g97 : ¬ (byteN s j : Int) < 48 := by omega
          have g122 : ¬ (57 : Int) < (byteN s j : Int) := by omega
          have w1 : IntKind.u8.wrap ((byteN s j : Int) - 48) = (byteN s j : Int) - 48 := by
            have e : (byteN s j : Int) - 48 = ((byteN s j - 48 : Nat) : Int) := by omega
            rw [e]; exact wrap_u8 (by omega)
          have w2 : IntKind.i64.wrap ((valN s j : Int) * 10) = (valN s j : Int) * 10 := IntWalk.i64_in _ (by omega)
          have w3 : IntKind.i64.wrap ((byteN s j : Int) - 48) = (byteN s j : Int) - 48 := IntWalk.i64_in _ (by omega)
          have w4 : IntKind.i64.wrap ((valN s j : Int) * 10 + ((byteN s j : Int) - 48)) = (valN s j : Int) * 10 + ((byteN s j : Int) - 48) := IntWalk.i64_in _ (by omega)
          have EV := hid (show (valN s j : Int) * 10 + ((byteN s j : Int) - 48) = (valN s (j + 1) : Nat) by simp only [valN]; omega)
          clear hlo
          go_wp2
          go_round
          case rel => exact ⟨j + 1, by omega, by go_num, by rw [← EV.out], fun k hk => by rcases Nat.lt_succ_iff_lt_or_eq.1 hk with h | rfl; exact HJ.out k h; exact HH.out⟩
          case measure => simp [intOf]; omega
      · obtain rfl : j = s.size := by omega
        have hlt' : ¬ (s.size : Int) < (s.size : Int) := by omega
        have E := hid (okW_yes (by omega) (by omega) HZ.out HJ.out)
        go_wp2
        go_ret2
        exact ⟨by unfold wholeN; rw [E.out]; rfl, rfl⟩
theorem s_l08Whole (s : ByteArray) (w : World) (hs : s.size ≤ maxLen) : Calls Try.prog 76 #[.string s] w fun e w' => e = .returned (.tuple #[.int .i64 (wholeN s), .bool (okW s)]) ∧ w = w' := by
  unfold maxLen at hs
  by_cases h6 : s.size ≤ 6
  · have HN := hid (fun w' => s_l01Number s w' h6)
    have h6' : ¬ (6 : Int) < (s.size : Int) := by omega
    clear h6
    go_enter Try.func76, Try.ntmps76
    go_wp2_with (go_at_call 111; ((with_reducible refine (HN.out _).mono ?_); rintro e w1 ⟨rfl, rfl⟩))
    go_ret2
    exact ⟨rfl, rfl⟩
  · have E : okW s = false := by unfold okW; rw [decide_eq_false h6]; simp
    have HE := hid (show (Ending.returned (.tuple #[.int .i64 (0 : Int), .bool false]) = Ending.returned (.tuple #[.int .i64 (wholeN s), .bool (okW s)])) by unfold wholeN; rw [E]; rfl)
    have h6' : (6 : Int) < (s.size : Int) := by omega
    clear h6 E
    go_enter Try.func76, Try.ntmps76
    go_wp2
    go_ret2
    exact ⟨HE.out, rfl⟩
set_option maxRecDepth 100000 in
theorem s_l08Signed (s : ByteArray) (w : World) (hs : s.size ≤ maxLen) : Calls Try.prog 75 #[.string s] w fun e w' => e = .returned (.tuple #[.int .i64 (signN s), .bool (okW (restS s))]) ∧ w = w' := by
  have HR := hid (fun w' => s_l08Whole (restS s) w' (rest_small hs))
  have hb := wholeN_bd (restS s)
  have hw : IntKind.i64.wrap (-(wholeN (restS s))) = -(wholeN (restS s)) := IntWalk.i64_in _ (by omega)
  unfold maxLen at hs
  clear hb
  cases hn : negB s
  · have e1 : restS s = s := by unfold restS; rw [hn]; rfl
    have E := hid (show signN s = wholeN s by unfold signN; rw [hn, e1]; rfl)
    rw [E.out]
    rw [e1] at HR hw ⊢
    clear E e1
    unfold negB at hn
    by_cases hp : 0 < s.size
    · have hpos' : (0 : Int) < (s.size : Int) := by omega
      have hg := getB hp
      have h45 : byteN s 0 ≠ 45 := by rw [decide_eq_true hp] at hn; simpa using hn
      have h45' : ¬ ((byteN s 0 : Nat) : Int) = 45 := by omega
      clear hn h45
      go_enter Try.func75, Try.ntmps75
      go_wp2_with (go_at_call 76; ((with_reducible refine (HR.out _).mono ?_); rintro e w1 ⟨rfl, rfl⟩))
      go_ret2
      exact ⟨rfl, rfl⟩
    · have hpos' : ¬ (0 : Int) < (s.size : Int) := by omega
      clear hn
      go_enter Try.func75, Try.ntmps75
      go_wp2_with (go_at_call 76; ((with_reducible refine (HR.out _).mono ?_); rintro e w1 ⟨rfl, rfl⟩))
      go_ret2
      exact ⟨rfl, rfl⟩
  · have e1 : restS s = s.extract 1 s.size := by unfold restS; rw [hn]; rfl
    have E := hid (show signN s = -(wholeN (s.extract 1 s.size)) by unfold signN; rw [hn, e1]; rfl)
    rw [E.out]
    rw [e1] at HR hw ⊢
    clear E e1
    unfold negB at hn
    simp only [Bool.and_eq_true, decide_eq_true_eq] at hn
    have hp := hn.1
    have hpos' : (0 : Int) < (s.size : Int) := by omega
    have hg := getB hp
    have h45' : ((byteN s 0 : Nat) : Int) = 45 := by omega
    have c1 : (1 : Int) ≤ (s.size : Int) := by omega
    clear hn
    go_enter Try.func75, Try.ntmps75
    go_wp2_with (go_at_call 76; ((with_reducible refine (HR.out _).mono ?_); rintro e w1 ⟨rfl, rfl⟩))
    go_ret2
    exact ⟨rfl, rfl⟩
theorem divB_int (n : Int) : (n < 2 ∨ 1024 < n ∨ (2 ≤ n ∧ n ≤ 1024)) := by omega
def fI (n : Int) : Nat := floatOfInt .f32 n
set_option maxRecDepth 100000 in
set_option maxHeartbeats 2000000 in
theorem i_RF_A0 (s : ByteArray) (w : World) (hs : s.size ≤ maxLen) (hn : noB s = true) (hk : okW (restS s) = false) : Calls Try.prog 8 #[.string s] w (Out_fi (can .f32 0) 5 w) := by
  have HC := hid (fun w' => i_Cut_no s w' (noB_yes hn))
  have HN := hid (fun w' => i_readSigned s w' hs)
  rw [hk] at HN
  clear hs hn hk
  have F := Frg.nil w
  go_enter Try.func8, Try.ntmps8
  go_wp2_with (first | (go_at_call 29; ((with_reducible refine (HC.out _).mono ?_); rintro e w1 ⟨rfl, hl⟩; replace F := F.le hl; clear hl)) | (go_at_call 30; ((with_reducible refine (HN.out _).mono ?_); rintro e w1 ⟨rfl, hl⟩; replace F := F.le hl; clear hl)) | (go_at_call 31; ((with_reducible refine (HW.out _).mono ?_); rintro e w1 ⟨rfl, hl⟩; replace F := F.le hl; clear hl)) | (go_at_call 32; ((with_reducible refine (HD.out _).mono ?_); rintro e w1 ⟨rfl, rfl⟩)) | (with_reducible refine wpList_farith (op := .quo) rfl rfl rfl rfl rfl ?_; intro r nr er fr))
  go_ret2
  exact ⟨0, rfl, rfl, F.below⟩
set_option maxRecDepth 100000 in
set_option maxHeartbeats 2000000 in
theorem i_RF_A1 (s : ByteArray) (w : World) (hs : s.size ≤ maxLen) (hn : noB s = true) (hk : okW (restS s) = true) : Calls Try.prog 8 #[.string s] w (Out_fi (can .f32 (fI (signN s))) 0 w) := by
  have HC := hid (fun w' => i_Cut_no s w' (noB_yes hn))
  have HN := hid (fun w' => i_readSigned s w' hs)
  rw [hk] at HN
  clear hs hn hk
  have F := Frg.nil w
  go_enter Try.func8, Try.ntmps8
  go_wp2_with (first | (go_at_call 29; ((with_reducible refine (HC.out _).mono ?_); rintro e w1 ⟨rfl, hl⟩; replace F := F.le hl; clear hl)) | (go_at_call 30; ((with_reducible refine (HN.out _).mono ?_); rintro e w1 ⟨rfl, hl⟩; replace F := F.le hl; clear hl)) | (go_at_call 31; ((with_reducible refine (HW.out _).mono ?_); rintro e w1 ⟨rfl, hl⟩; replace F := F.le hl; clear hl)) | (go_at_call 32; ((with_reducible refine (HD.out _).mono ?_); rintro e w1 ⟨rfl, rfl⟩)) | (with_reducible refine wpList_farith (op := .quo) rfl rfl rfl rfl rfl ?_; intro r nr er fr))
  go_ret2
  exact ⟨_, rfl, rfl, F.below⟩
set_option maxRecDepth 100000 in
set_option maxHeartbeats 2000000 in
theorem i_RF_B0 (s : ByteArray) (p : Nat) (w : World) (hs : s.size ≤ maxLen) (hp : p < s.size) (h0 : byteN s p = 47) (h : ∀ i, i < p → byteN s i ≠ 47) (hk : okW (restS (s.extract 0 p)) = false) : Calls Try.prog 8 #[.string s] w (Out_fi (can .f32 0) 5 w) := by
  have hz : (s.extract 0 p).size = p := (ext_size (by omega) (by omega)).trans (by omega)
  have hz2 : (tailS s p).size = s.size - (p + 1) := ext_size (by omega) (Nat.le_refl _)
  have HC := hid (fun w' => i_Cut_yes s p w' hs hp h0 h)
  have HN := hid (fun w' => i_readSigned (s.extract 0 p) w' (by omega))
  have HW := hid (fun w' => i_readWhole (tailS s p) w' (by omega))
  have hb := wholeN_bd (tailS s p)
  have HD := hid (fun w' => i_isDivisor (wholeN (tailS s p)) w' hb.1 hb.2)
  unfold tailS at *
  rw [hk] at HN
  clear hs hp h0 h hz hz2 hb hk
  have F := Frg.nil w
  go_enter Try.func8, Try.ntmps8
  go_wp2_with (first | (go_at_call 29; ((with_reducible refine (HC.out _).mono ?_); rintro e w1 ⟨rfl, hl⟩; replace F := F.le hl; clear hl)) | (go_at_call 30; ((with_reducible refine (HN.out _).mono ?_); rintro e w1 ⟨rfl, hl⟩; replace F := F.le hl; clear hl)) | (go_at_call 31; ((with_reducible refine (HW.out _).mono ?_); rintro e w1 ⟨rfl, hl⟩; replace F := F.le hl; clear hl)) | (go_at_call 32; ((with_reducible refine (HD.out _).mono ?_); rintro e w1 ⟨rfl, rfl⟩)) | (with_reducible refine wpList_farith (op := .quo) rfl rfl rfl rfl rfl ?_; intro r nr er fr))
  go_ret2
  exact ⟨0, rfl, rfl, F.below⟩
set_option maxRecDepth 100000 in
set_option maxHeartbeats 2000000 in
theorem i_RF_B1 (s : ByteArray) (p : Nat) (w : World) (hs : s.size ≤ maxLen) (hp : p < s.size) (h0 : byteN s p = 47) (h : ∀ i, i < p → byteN s i ≠ 47) (hk : okW (restS (s.extract 0 p)) = true) (hk2 : okW (tailS s p) = false) : Calls Try.prog 8 #[.string s] w (Out_fi (can .f32 0) 5 w) := by
  have hz : (s.extract 0 p).size = p := (ext_size (by omega) (by omega)).trans (by omega)
  have hz2 : (tailS s p).size = s.size - (p + 1) := ext_size (by omega) (Nat.le_refl _)
  have HC := hid (fun w' => i_Cut_yes s p w' hs hp h0 h)
  have HN := hid (fun w' => i_readSigned (s.extract 0 p) w' (by omega))
  have HW := hid (fun w' => i_readWhole (tailS s p) w' (by omega))
  have hb := wholeN_bd (tailS s p)
  have HD := hid (fun w' => i_isDivisor (wholeN (tailS s p)) w' hb.1 hb.2)
  unfold tailS at *
  rw [hk] at HN
  rw [hk2] at HW
  clear hs hp h0 h hz hz2 hb hk hk2
  have F := Frg.nil w
  go_enter Try.func8, Try.ntmps8
  go_wp2_with (first | (go_at_call 29; ((with_reducible refine (HC.out _).mono ?_); rintro e w1 ⟨rfl, hl⟩; replace F := F.le hl; clear hl)) | (go_at_call 30; ((with_reducible refine (HN.out _).mono ?_); rintro e w1 ⟨rfl, hl⟩; replace F := F.le hl; clear hl)) | (go_at_call 31; ((with_reducible refine (HW.out _).mono ?_); rintro e w1 ⟨rfl, hl⟩; replace F := F.le hl; clear hl)) | (go_at_call 32; ((with_reducible refine (HD.out _).mono ?_); rintro e w1 ⟨rfl, rfl⟩)) | (with_reducible refine wpList_farith (op := .quo) rfl rfl rfl rfl rfl ?_; intro r nr er fr))
  go_ret2
  exact ⟨0, rfl, rfl, F.below⟩
set_option maxRecDepth 100000 in
set_option maxHeartbeats 2000000 in
theorem i_RF_B2 (s : ByteArray) (p : Nat) (w : World) (hs : s.size ≤ maxLen) (hp : p < s.size) (h0 : byteN s p = 47) (h : ∀ i, i < p → byteN s i ≠ 47) (hk : okW (restS (s.extract 0 p)) = true) (hk2 : okW (tailS s p) = true) (hk3 : divB (wholeN (tailS s p)) = false) : Calls Try.prog 8 #[.string s] w (Out_fi (can .f32 0) 5 w) := by
  have hz : (s.extract 0 p).size = p := (ext_size (by omega) (by omega)).trans (by omega)
  have hz2 : (tailS s p).size = s.size - (p + 1) := ext_size (by omega) (Nat.le_refl _)
  have HC := hid (fun w' => i_Cut_yes s p w' hs hp h0 h)
  have HN := hid (fun w' => i_readSigned (s.extract 0 p) w' (by omega))
  have HW := hid (fun w' => i_readWhole (tailS s p) w' (by omega))
  have hb := wholeN_bd (tailS s p)
  have HD := hid (fun w' => i_isDivisor (wholeN (tailS s p)) w' hb.1 hb.2)
  unfold tailS at *
  rw [hk] at HN
  rw [hk2] at HW
  rw [hk3] at HD
  clear hs hp h0 h hz hz2 hb hk hk2 hk3
  have F := Frg.nil w
  go_enter Try.func8, Try.ntmps8
  go_wp2_with (first | (go_at_call 29; ((with_reducible refine (HC.out _).mono ?_); rintro e w1 ⟨rfl, hl⟩; replace F := F.le hl; clear hl)) | (go_at_call 30; ((with_reducible refine (HN.out _).mono ?_); rintro e w1 ⟨rfl, hl⟩; replace F := F.le hl; clear hl)) | (go_at_call 31; ((with_reducible refine (HW.out _).mono ?_); rintro e w1 ⟨rfl, hl⟩; replace F := F.le hl; clear hl)) | (go_at_call 32; ((with_reducible refine (HD.out _).mono ?_); rintro e w1 ⟨rfl, rfl⟩)) | (with_reducible refine wpList_farith (op := .quo) rfl rfl rfl rfl rfl ?_; intro r nr er fr))
  go_ret2
  exact ⟨0, rfl, rfl, F.below⟩
set_option maxRecDepth 100000 in
set_option maxHeartbeats 2000000 in
theorem i_RF_B3 (s : ByteArray) (p : Nat) (w : World) (hs : s.size ≤ maxLen) (hp : p < s.size) (h0 : byteN s p = 47) (h : ∀ i, i < p → byteN s i ≠ 47) (hk : okW (restS (s.extract 0 p)) = true) (hk2 : okW (tailS s p) = true) (hk3 : divB (wholeN (tailS s p)) = true) : Calls Try.prog 8 #[.string s] w (Out_fi (fop .quo .f32 (fI (signN (s.extract 0 p))) (fI (wholeN (tailS s p)))) 0 w) := by
  have hz : (s.extract 0 p).size = p := (ext_size (by omega) (by omega)).trans (by omega)
  have hz2 : (tailS s p).size = s.size - (p + 1) := ext_size (by omega) (Nat.le_refl _)
  have HC := hid (fun w' => i_Cut_yes s p w' hs hp h0 h)
  have HN := hid (fun w' => i_readSigned (s.extract 0 p) w' (by omega))
  have HW := hid (fun w' => i_readWhole (tailS s p) w' (by omega))
  have hb := wholeN_bd (tailS s p)
  have HD := hid (fun w' => i_isDivisor (wholeN (tailS s p)) w' hb.1 hb.2)
  unfold tailS at *
  rw [hk] at HN
  rw [hk2] at HW
  rw [hk3] at HD
  clear hs hp h0 h hz hz2 hb hk hk2 hk3
  have F := Frg.nil w
  go_enter Try.func8, Try.ntmps8
  go_wp2_with (first | (go_at_call 29; ((with_reducible refine (HC.out _).mono ?_); rintro e w1 ⟨rfl, hl⟩; replace F := F.le hl; clear hl)) | (go_at_call 30; ((with_reducible refine (HN.out _).mono ?_); rintro e w1 ⟨rfl, hl⟩; replace F := F.le hl; clear hl)) | (go_at_call 31; ((with_reducible refine (HW.out _).mono ?_); rintro e w1 ⟨rfl, hl⟩; replace F := F.le hl; clear hl)) | (go_at_call 32; ((with_reducible refine (HD.out _).mono ?_); rintro e w1 ⟨rfl, rfl⟩)) | (with_reducible refine wpList_farith (op := .quo) rfl rfl rfl rfl rfl ?_; intro r nr er fr))
  go_ret2
  exact ⟨r, rfl, er.out, below_drewN F.below nr⟩
theorem infoStrS : (Try.prog.info? 9).map (·.size) = some 1 := by kernel_rfl
theorem ukindStringQ : ∀ w : World, (isAgg 9).run Try.prog w = .ok false w := fun w => by kernel_rfl
set_option maxRecDepth 100000 in
set_option maxHeartbeats 2000000 in
theorem s_RF_A0 (s : ByteArray) (w : World) (hs : s.size ≤ 1048576) (hn : noB s = true) (hk : okW (restS s) = false) : Calls Try.prog 28 #[.string s] w fun e w' => ∃ v, e = .returned (.tuple #[.float .f32 v, .bool false]) ∧ can .f32 v = can .f32 0 ∧ le w w' := by
  have hs' : s.size ≤ maxLen := by unfold maxLen; omega
  have HC := hid (show ∀ w' : World, Calls Try.prog 74 #[.string s, .int .u8 47] w' (fun e w'' => ∃ v, e = .returned v ∧ w''.ownsRow w'.heap.size 9 1 v 1 (strs [s]) ∧ le w' w'') from fun w' => by have h := s_l01Split s 47 w' hs; rw [splL_none hn] at h; exact h)
  have HN := hid (fun w' => s_l08Signed s w' hs')
  rw [hk] at HN
  have hlen : ([s] : List ByteArray).length = 1 := rfl
  clear hs hs' hn hk
  have F := Frg.nil w
  go_enter Try.func28, Try.ntmps28
  go_wp2_with (first | (go_at_call 74; ((with_reducible refine (HC.out _).mono ?_); rintro e w1 ⟨v, rfl, ho, hl⟩; obtain ⟨q, cap, rfl, hq, _⟩ := ho.form (by omega); have HO := hid (fun w' (hl : le w1 w') => ownsRow_le ho hl); replace F := F.le hl; clear hl ho)) | (go_at_call 75; ((with_reducible refine (HN.out _).mono ?_); rintro e w2 ⟨rfl, rfl⟩)) | (go_at_call 76; ((with_reducible refine (HW.out _).mono ?_); rintro e w2 ⟨rfl, rfl⟩)) | (with_reducible refine wpList_farith (op := .quo) rfl rfl rfl rfl rfl ?_; intro r nr er fr) | (with_reducible refine wpList_indexW0 rfl rfl rfl rfl (i := 0) Try.underlying116 infoStrS (by decide) ?_) | ((with_reducible refine at_load rfl ?_); (with_reducible refine wpList_load1X rfl (g := q) (f := 0 + 0 * 1) rfl (v := .string (s)) (by kernel_rfl) ((HO.out _ (by first | exact le_refl _ | exact le_drewN _ _)).cells (g := q) rfl 0 _ rfl) ukindStringQ ?_)))
  go_ret2
  exact ⟨0, rfl, rfl, F.below⟩
set_option maxRecDepth 100000 in
set_option maxHeartbeats 2000000 in
theorem s_RF_A1 (s : ByteArray) (w : World) (hs : s.size ≤ 1048576) (hn : noB s = true) (hk : okW (restS s) = true) : Calls Try.prog 28 #[.string s] w fun e w' => ∃ v, e = .returned (.tuple #[.float .f32 v, .bool true]) ∧ can .f32 v = can .f32 (fI (signN s)) ∧ le w w' := by
  have hs' : s.size ≤ maxLen := by unfold maxLen; omega
  have HC := hid (show ∀ w' : World, Calls Try.prog 74 #[.string s, .int .u8 47] w' (fun e w'' => ∃ v, e = .returned v ∧ w''.ownsRow w'.heap.size 9 1 v 1 (strs [s]) ∧ le w' w'') from fun w' => by have h := s_l01Split s 47 w' hs; rw [splL_none hn] at h; exact h)
  have HN := hid (fun w' => s_l08Signed s w' hs')
  rw [hk] at HN
  have hlen : ([s] : List ByteArray).length = 1 := rfl
  clear hs hs' hn hk
  have F := Frg.nil w
  go_enter Try.func28, Try.ntmps28
  go_wp2_with (first | (go_at_call 74; ((with_reducible refine (HC.out _).mono ?_); rintro e w1 ⟨v, rfl, ho, hl⟩; obtain ⟨q, cap, rfl, hq, _⟩ := ho.form (by omega); have HO := hid (fun w' (hl : le w1 w') => ownsRow_le ho hl); replace F := F.le hl; clear hl ho)) | (go_at_call 75; ((with_reducible refine (HN.out _).mono ?_); rintro e w2 ⟨rfl, rfl⟩)) | (go_at_call 76; ((with_reducible refine (HW.out _).mono ?_); rintro e w2 ⟨rfl, rfl⟩)) | (with_reducible refine wpList_farith (op := .quo) rfl rfl rfl rfl rfl ?_; intro r nr er fr) | (with_reducible refine wpList_indexW0 rfl rfl rfl rfl (i := 0) Try.underlying116 infoStrS (by decide) ?_) | ((with_reducible refine at_load rfl ?_); (with_reducible refine wpList_load1X rfl (g := q) (f := 0 + 0 * 1) rfl (v := .string (s)) (by kernel_rfl) ((HO.out _ (by first | exact le_refl _ | exact le_drewN _ _)).cells (g := q) rfl 0 _ rfl) ukindStringQ ?_)))
  go_ret2
  exact ⟨_, rfl, rfl, F.below⟩
end Go.Proofs.Ytnkjmgadnejdlab

/- 'ReadFraction' of both: the model; the law. -/
namespace Go.Proofs.Ytnkjmgadnejdlab
open Go.RowKit Go.Fk
set_option maxRecDepth 100000 in
set_option maxHeartbeats 2000000 in
theorem s_RF_B0 (s : ByteArray) (p : Nat) (w : World) (hs : s.size ≤ 1048576) (hp : p < s.size) (h0 : byteN s p = 47) (h : ∀ i, i < p → byteN s i ≠ 47) (hn : noB (tailS s p) = true) (hk : okW (restS (s.extract 0 p)) = false) : Calls Try.prog 28 #[.string s] w fun e w' => ∃ v, e = .returned (.tuple #[.float .f32 v, .bool false]) ∧ can .f32 v = can .f32 0 ∧ le w w' := by
  have hz : (s.extract 0 p).size = p := (ext_size (by omega) (by omega)).trans (by omega)
  have hz2 : (tailS s p).size = s.size - (p + 1) := ext_size (by omega) (Nat.le_refl _)
  have HN := hid (fun w' => s_l08Signed (s.extract 0 p) w' (by unfold maxLen; omega))
  have HW := hid (fun w' => s_l08Whole (tailS s p) w' (by unfold maxLen; omega))
  have hb := wholeN_bd (tailS s p)
  have HC := hid (show ∀ w' : World, Calls Try.prog 74 #[.string s, .int .u8 47] w' (fun e w'' => ∃ v, e = .returned v ∧ w''.ownsRow w'.heap.size 9 1 v 2 (strs [s.extract 0 p, tailS s p]) ∧ le w' w'') from fun w' => by have h9 := s_l01Split s 47 w' hs; rw [(splL_some hp h0 h).1 hn] at h9; exact h9)
  rw [hk] at HN
  clear hb HW
  clear hs hp h0 h hz hz2 hn hk
  have F := Frg.nil w
  go_enter Try.func28, Try.ntmps28
  go_wp2_with (first | (go_at_call 74; ((with_reducible refine (HC.out _).mono ?_); rintro e w1 ⟨v, rfl, ho, hl⟩; obtain ⟨q, cap, rfl, hq, _⟩ := ho.form (by omega); have HO := hid (fun w' (hl : le w1 w') => ownsRow_le ho hl); replace F := F.le hl; clear hl ho)) | (go_at_call 75; ((with_reducible refine (HN.out _).mono ?_); rintro e w2 ⟨rfl, rfl⟩)) | (go_at_call 76; ((with_reducible refine (HW.out _).mono ?_); rintro e w2 ⟨rfl, rfl⟩)) | (with_reducible refine wpList_farith (op := .quo) rfl rfl rfl rfl rfl ?_; intro r nr er fr) | (with_reducible refine wpList_indexW0 rfl rfl rfl rfl (i := 0) Try.underlying116 infoStrS (by decide) ?_) | ((with_reducible refine at_load rfl ?_); (with_reducible refine wpList_load1X rfl (g := q) (f := 0 + 0 * 1) rfl (v := .string (s.extract 0 p)) (by kernel_rfl) ((HO.out _ (by first | exact le_refl _ | exact le_drewN _ _)).cells (g := q) rfl 0 _ rfl) ukindStringQ ?_)))
  go_ret2
  exact ⟨0, rfl, rfl, F.below⟩
set_option maxRecDepth 100000 in
set_option maxHeartbeats 2000000 in
theorem s_RF_B1 (s : ByteArray) (p : Nat) (w : World) (hs : s.size ≤ 1048576) (hp : p < s.size) (h0 : byteN s p = 47) (h : ∀ i, i < p → byteN s i ≠ 47) (hn : noB (tailS s p) = true) (hk : okW (restS (s.extract 0 p)) = true) (hk2 : okW (tailS s p) = false) : Calls Try.prog 28 #[.string s] w fun e w' => ∃ v, e = .returned (.tuple #[.float .f32 v, .bool false]) ∧ can .f32 v = can .f32 0 ∧ le w w' := by
  have hz : (s.extract 0 p).size = p := (ext_size (by omega) (by omega)).trans (by omega)
  have hz2 : (tailS s p).size = s.size - (p + 1) := ext_size (by omega) (Nat.le_refl _)
  have HN := hid (fun w' => s_l08Signed (s.extract 0 p) w' (by unfold maxLen; omega))
  have HW := hid (fun w' => s_l08Whole (tailS s p) w' (by unfold maxLen; omega))
  have hb := wholeN_bd (tailS s p)
  have HC := hid (show ∀ w' : World, Calls Try.prog 74 #[.string s, .int .u8 47] w' (fun e w'' => ∃ v, e = .returned v ∧ w''.ownsRow w'.heap.size 9 1 v 2 (strs [s.extract 0 p, tailS s p]) ∧ le w' w'') from fun w' => by have h9 := s_l01Split s 47 w' hs; rw [(splL_some hp h0 h).1 hn] at h9; exact h9)
  rw [hk] at HN
  rw [hk2] at HW
  clear hb hk2
  clear hs hp h0 h hz hz2 hn hk
  have F := Frg.nil w
  go_enter Try.func28, Try.ntmps28
  go_wp2_with (first | (go_at_call 74; ((with_reducible refine (HC.out _).mono ?_); rintro e w1 ⟨v, rfl, ho, hl⟩; obtain ⟨q, cap, rfl, hq, _⟩ := ho.form (by omega); have HO := hid (fun w' (hl : le w1 w') => ownsRow_le ho hl); replace F := F.le hl; clear hl ho)) | (go_at_call 75; ((with_reducible refine (HN.out _).mono ?_); rintro e w2 ⟨rfl, rfl⟩)) | (go_at_call 76; ((with_reducible refine (HW.out _).mono ?_); rintro e w2 ⟨rfl, rfl⟩)) | (with_reducible refine wpList_farith (op := .quo) rfl rfl rfl rfl rfl ?_; intro r nr er fr) | (with_reducible refine wpList_indexW0 rfl rfl rfl rfl (i := 0) Try.underlying116 infoStrS (by decide) ?_) | ((with_reducible refine at_load rfl ?_); (with_reducible refine wpList_load1X rfl (g := q) (f := 0 + 0 * 1) rfl (v := .string (s.extract 0 p)) (by kernel_rfl) ((HO.out _ (by first | exact le_refl _ | exact le_drewN _ _)).cells (g := q) rfl 0 _ rfl) ukindStringQ ?_)) | (with_reducible refine wpList_indexW0 rfl rfl rfl rfl (i := 1) Try.underlying116 infoStrS (by decide) ?_) | ((with_reducible refine at_load rfl ?_); (with_reducible refine wpList_load1X rfl (g := q) (f := 0 + 1 * 1) rfl (v := .string (tailS s p)) (by kernel_rfl) ((HO.out _ (by first | exact le_refl _ | exact le_drewN _ _)).cells (g := q) rfl 1 _ rfl) ukindStringQ ?_)))
  go_ret2
  exact ⟨0, rfl, rfl, F.below⟩
set_option maxRecDepth 100000 in
set_option maxHeartbeats 2000000 in
theorem s_RF_B2a (s : ByteArray) (p : Nat) (w : World) (hs : s.size ≤ 1048576) (hp : p < s.size) (h0 : byteN s p = 47) (h : ∀ i, i < p → byteN s i ≠ 47) (hn : noB (tailS s p) = true) (hk : okW (restS (s.extract 0 p)) = true) (hk2 : okW (tailS s p) = true) (hd : wholeN (tailS s p) < 2) : Calls Try.prog 28 #[.string s] w fun e w' => ∃ v, e = .returned (.tuple #[.float .f32 v, .bool false]) ∧ can .f32 v = can .f32 0 ∧ le w w' := by
  have hz : (s.extract 0 p).size = p := (ext_size (by omega) (by omega)).trans (by omega)
  have hz2 : (tailS s p).size = s.size - (p + 1) := ext_size (by omega) (Nat.le_refl _)
  have HN := hid (fun w' => s_l08Signed (s.extract 0 p) w' (by unfold maxLen; omega))
  have HW := hid (fun w' => s_l08Whole (tailS s p) w' (by unfold maxLen; omega))
  have hb := wholeN_bd (tailS s p)
  have HC := hid (show ∀ w' : World, Calls Try.prog 74 #[.string s, .int .u8 47] w' (fun e w'' => ∃ v, e = .returned v ∧ w''.ownsRow w'.heap.size 9 1 v 2 (strs [s.extract 0 p, tailS s p]) ∧ le w' w'') from fun w' => by have h9 := s_l01Split s 47 w' hs; rw [(splL_some hp h0 h).1 hn] at h9; exact h9)
  rw [hk] at HN
  rw [hk2] at HW
  clear hb hk2
  clear hs hp h0 h hz hz2 hn hk
  have F := Frg.nil w
  go_enter Try.func28, Try.ntmps28
  go_wp2_with (first | (go_at_call 74; ((with_reducible refine (HC.out _).mono ?_); rintro e w1 ⟨v, rfl, ho, hl⟩; obtain ⟨q, cap, rfl, hq, _⟩ := ho.form (by omega); have HO := hid (fun w' (hl : le w1 w') => ownsRow_le ho hl); replace F := F.le hl; clear hl ho)) | (go_at_call 75; ((with_reducible refine (HN.out _).mono ?_); rintro e w2 ⟨rfl, rfl⟩)) | (go_at_call 76; ((with_reducible refine (HW.out _).mono ?_); rintro e w2 ⟨rfl, rfl⟩)) | (with_reducible refine wpList_farith (op := .quo) rfl rfl rfl rfl rfl ?_; intro r nr er fr) | (with_reducible refine wpList_indexW0 rfl rfl rfl rfl (i := 0) Try.underlying116 infoStrS (by decide) ?_) | ((with_reducible refine at_load rfl ?_); (with_reducible refine wpList_load1X rfl (g := q) (f := 0 + 0 * 1) rfl (v := .string (s.extract 0 p)) (by kernel_rfl) ((HO.out _ (by first | exact le_refl _ | exact le_drewN _ _)).cells (g := q) rfl 0 _ rfl) ukindStringQ ?_)) | (with_reducible refine wpList_indexW0 rfl rfl rfl rfl (i := 1) Try.underlying116 infoStrS (by decide) ?_) | ((with_reducible refine at_load rfl ?_); (with_reducible refine wpList_load1X rfl (g := q) (f := 0 + 1 * 1) rfl (v := .string (tailS s p)) (by kernel_rfl) ((HO.out _ (by first | exact le_refl _ | exact le_drewN _ _)).cells (g := q) rfl 1 _ rfl) ukindStringQ ?_)))
  go_ret2
  exact ⟨0, rfl, rfl, F.below⟩
set_option maxRecDepth 100000 in
set_option maxHeartbeats 2000000 in
theorem s_RF_B2b (s : ByteArray) (p : Nat) (w : World) (hs : s.size ≤ 1048576) (hp : p < s.size) (h0 : byteN s p = 47) (h : ∀ i, i < p → byteN s i ≠ 47) (hn : noB (tailS s p) = true) (hk : okW (restS (s.extract 0 p)) = true) (hk2 : okW (tailS s p) = true) (hd : 1024 < wholeN (tailS s p)) : Calls Try.prog 28 #[.string s] w fun e w' => ∃ v, e = .returned (.tuple #[.float .f32 v, .bool false]) ∧ can .f32 v = can .f32 0 ∧ le w w' := by
  have hz : (s.extract 0 p).size = p := (ext_size (by omega) (by omega)).trans (by omega)
  have hz2 : (tailS s p).size = s.size - (p + 1) := ext_size (by omega) (Nat.le_refl _)
  have HN := hid (fun w' => s_l08Signed (s.extract 0 p) w' (by unfold maxLen; omega))
  have HW := hid (fun w' => s_l08Whole (tailS s p) w' (by unfold maxLen; omega))
  have hb := wholeN_bd (tailS s p)
  have HC := hid (show ∀ w' : World, Calls Try.prog 74 #[.string s, .int .u8 47] w' (fun e w'' => ∃ v, e = .returned v ∧ w''.ownsRow w'.heap.size 9 1 v 2 (strs [s.extract 0 p, tailS s p]) ∧ le w' w'') from fun w' => by have h9 := s_l01Split s 47 w' hs; rw [(splL_some hp h0 h).1 hn] at h9; exact h9)
  have hd2 : ¬ wholeN (tailS s p) < 2 := by omega
  rw [hk] at HN
  rw [hk2] at HW
  clear hb hk2
  clear hs hp h0 h hz hz2 hn hk
  have F := Frg.nil w
  go_enter Try.func28, Try.ntmps28
  go_wp2_with (first | (go_at_call 74; ((with_reducible refine (HC.out _).mono ?_); rintro e w1 ⟨v, rfl, ho, hl⟩; obtain ⟨q, cap, rfl, hq, _⟩ := ho.form (by omega); have HO := hid (fun w' (hl : le w1 w') => ownsRow_le ho hl); replace F := F.le hl; clear hl ho)) | (go_at_call 75; ((with_reducible refine (HN.out _).mono ?_); rintro e w2 ⟨rfl, rfl⟩)) | (go_at_call 76; ((with_reducible refine (HW.out _).mono ?_); rintro e w2 ⟨rfl, rfl⟩)) | (with_reducible refine wpList_farith (op := .quo) rfl rfl rfl rfl rfl ?_; intro r nr er fr) | (with_reducible refine wpList_indexW0 rfl rfl rfl rfl (i := 0) Try.underlying116 infoStrS (by decide) ?_) | ((with_reducible refine at_load rfl ?_); (with_reducible refine wpList_load1X rfl (g := q) (f := 0 + 0 * 1) rfl (v := .string (s.extract 0 p)) (by kernel_rfl) ((HO.out _ (by first | exact le_refl _ | exact le_drewN _ _)).cells (g := q) rfl 0 _ rfl) ukindStringQ ?_)) | (with_reducible refine wpList_indexW0 rfl rfl rfl rfl (i := 1) Try.underlying116 infoStrS (by decide) ?_) | ((with_reducible refine at_load rfl ?_); (with_reducible refine wpList_load1X rfl (g := q) (f := 0 + 1 * 1) rfl (v := .string (tailS s p)) (by kernel_rfl) ((HO.out _ (by first | exact le_refl _ | exact le_drewN _ _)).cells (g := q) rfl 1 _ rfl) ukindStringQ ?_)))
  go_ret2
  exact ⟨0, rfl, rfl, F.below⟩
set_option maxRecDepth 100000 in
set_option maxHeartbeats 2000000 in
theorem s_RF_B2c (s : ByteArray) (p : Nat) (w : World) (hs : s.size ≤ 1048576) (hp : p < s.size) (h0 : byteN s p = 47) (h : ∀ i, i < p → byteN s i ≠ 47) (hn : noB (tailS s p) = true) (hk : okW (restS (s.extract 0 p)) = true) (hk2 : okW (tailS s p) = true) (h2 : 2 ≤ wholeN (tailS s p)) (h1k : wholeN (tailS s p) ≤ 1024) (hd : powB (wholeN (tailS s p)) = false) : Calls Try.prog 28 #[.string s] w fun e w' => ∃ v, e = .returned (.tuple #[.float .f32 v, .bool false]) ∧ can .f32 v = can .f32 0 ∧ le w w' := by
  have hz : (s.extract 0 p).size = p := (ext_size (by omega) (by omega)).trans (by omega)
  have hz2 : (tailS s p).size = s.size - (p + 1) := ext_size (by omega) (Nat.le_refl _)
  have HN := hid (fun w' => s_l08Signed (s.extract 0 p) w' (by unfold maxLen; omega))
  have HW := hid (fun w' => s_l08Whole (tailS s p) w' (by unfold maxLen; omega))
  have hb := wholeN_bd (tailS s p)
  have HC := hid (show ∀ w' : World, Calls Try.prog 74 #[.string s, .int .u8 47] w' (fun e w'' => ∃ v, e = .returned v ∧ w''.ownsRow w'.heap.size 9 1 v 2 (strs [s.extract 0 p, tailS s p]) ∧ le w' w'') from fun w' => by have h9 := s_l01Split s 47 w' hs; rw [(splL_some hp h0 h).1 hn] at h9; exact h9)
  have i1 : IntKind.i64.wrap (wholeN (tailS s p) - 1) = wholeN (tailS s p) - 1 := IntWalk.i64_in _ (by omega)
  have d1 : ¬ wholeN (tailS s p) < 2 := by omega
  have d2 : ¬ 1024 < wholeN (tailS s p) := by omega
  unfold powB at hd
  have hd' : (bits .and .i64 (wholeN (tailS s p)) (wholeN (tailS s p) - 1) != 0) = true := by rw [bne, hd]; rfl
  rw [hk] at HN
  rw [hk2] at HW
  clear hb hk2 h2 h1k
  clear hs hp h0 h hz hz2 hn hk
  have F := Frg.nil w
  go_enter Try.func28, Try.ntmps28
  go_wp2_with (first | (go_at_call 74; ((with_reducible refine (HC.out _).mono ?_); rintro e w1 ⟨v, rfl, ho, hl⟩; obtain ⟨q, cap, rfl, hq, _⟩ := ho.form (by omega); have HO := hid (fun w' (hl : le w1 w') => ownsRow_le ho hl); replace F := F.le hl; clear hl ho)) | (go_at_call 75; ((with_reducible refine (HN.out _).mono ?_); rintro e w2 ⟨rfl, rfl⟩)) | (go_at_call 76; ((with_reducible refine (HW.out _).mono ?_); rintro e w2 ⟨rfl, rfl⟩)) | (with_reducible refine wpList_farith (op := .quo) rfl rfl rfl rfl rfl ?_; intro r nr er fr) | (with_reducible refine wpList_indexW0 rfl rfl rfl rfl (i := 0) Try.underlying116 infoStrS (by decide) ?_) | ((with_reducible refine at_load rfl ?_); (with_reducible refine wpList_load1X rfl (g := q) (f := 0 + 0 * 1) rfl (v := .string (s.extract 0 p)) (by kernel_rfl) ((HO.out _ (by first | exact le_refl _ | exact le_drewN _ _)).cells (g := q) rfl 0 _ rfl) ukindStringQ ?_)) | (with_reducible refine wpList_indexW0 rfl rfl rfl rfl (i := 1) Try.underlying116 infoStrS (by decide) ?_) | ((with_reducible refine at_load rfl ?_); (with_reducible refine wpList_load1X rfl (g := q) (f := 0 + 1 * 1) rfl (v := .string (tailS s p)) (by kernel_rfl) ((HO.out _ (by first | exact le_refl _ | exact le_drewN _ _)).cells (g := q) rfl 1 _ rfl) ukindStringQ ?_)))
  go_ret2
  exact ⟨0, rfl, rfl, F.below⟩
set_option maxRecDepth 100000 in
set_option maxHeartbeats 2000000 in
theorem s_RF_B3 (s : ByteArray) (p : Nat) (w : World) (hs : s.size ≤ 1048576) (hp : p < s.size) (h0 : byteN s p = 47) (h : ∀ i, i < p → byteN s i ≠ 47) (hn : noB (tailS s p) = true) (hk : okW (restS (s.extract 0 p)) = true) (hk2 : okW (tailS s p) = true) (h2 : 2 ≤ wholeN (tailS s p)) (h1k : wholeN (tailS s p) ≤ 1024) (hd : powB (wholeN (tailS s p)) = true) : Calls Try.prog 28 #[.string s] w fun e w' => ∃ v, e = .returned (.tuple #[.float .f32 v, .bool true]) ∧ can .f32 v = fop .quo .f32 (fI (signN (s.extract 0 p))) (fI (wholeN (tailS s p))) ∧ le w w' := by
  have hz : (s.extract 0 p).size = p := (ext_size (by omega) (by omega)).trans (by omega)
  have hz2 : (tailS s p).size = s.size - (p + 1) := ext_size (by omega) (Nat.le_refl _)
  have HN := hid (fun w' => s_l08Signed (s.extract 0 p) w' (by unfold maxLen; omega))
  have HW := hid (fun w' => s_l08Whole (tailS s p) w' (by unfold maxLen; omega))
  have hb := wholeN_bd (tailS s p)
  have HC := hid (show ∀ w' : World, Calls Try.prog 74 #[.string s, .int .u8 47] w' (fun e w'' => ∃ v, e = .returned v ∧ w''.ownsRow w'.heap.size 9 1 v 2 (strs [s.extract 0 p, tailS s p]) ∧ le w' w'') from fun w' => by have h9 := s_l01Split s 47 w' hs; rw [(splL_some hp h0 h).1 hn] at h9; exact h9)
  have i1 : IntKind.i64.wrap (wholeN (tailS s p) - 1) = wholeN (tailS s p) - 1 := IntWalk.i64_in _ (by omega)
  have d1 : ¬ wholeN (tailS s p) < 2 := by omega
  have d2 : ¬ 1024 < wholeN (tailS s p) := by omega
  unfold powB at hd
  have hd' : (bits .and .i64 (wholeN (tailS s p)) (wholeN (tailS s p) - 1) != 0) = false := by rw [bne, hd]; rfl
  rw [hk] at HN
  rw [hk2] at HW
  clear hb hk2 h2 h1k
  clear hs hp h0 h hz hz2 hn hk
  have F := Frg.nil w
  go_enter Try.func28, Try.ntmps28
  go_wp2_with (first | (go_at_call 74; ((with_reducible refine (HC.out _).mono ?_); rintro e w1 ⟨v, rfl, ho, hl⟩; obtain ⟨q, cap, rfl, hq, _⟩ := ho.form (by omega); have HO := hid (fun w' (hl : le w1 w') => ownsRow_le ho hl); replace F := F.le hl; clear hl ho)) | (go_at_call 75; ((with_reducible refine (HN.out _).mono ?_); rintro e w2 ⟨rfl, rfl⟩)) | (go_at_call 76; ((with_reducible refine (HW.out _).mono ?_); rintro e w2 ⟨rfl, rfl⟩)) | (with_reducible refine wpList_farith (op := .quo) rfl rfl rfl rfl rfl ?_; intro r nr er fr) | (with_reducible refine wpList_indexW0 rfl rfl rfl rfl (i := 0) Try.underlying116 infoStrS (by decide) ?_) | ((with_reducible refine at_load rfl ?_); (with_reducible refine wpList_load1X rfl (g := q) (f := 0 + 0 * 1) rfl (v := .string (s.extract 0 p)) (by kernel_rfl) ((HO.out _ (by first | exact le_refl _ | exact le_drewN _ _)).cells (g := q) rfl 0 _ rfl) ukindStringQ ?_)) | (with_reducible refine wpList_indexW0 rfl rfl rfl rfl (i := 1) Try.underlying116 infoStrS (by decide) ?_) | ((with_reducible refine at_load rfl ?_); (with_reducible refine wpList_load1X rfl (g := q) (f := 0 + 1 * 1) rfl (v := .string (tailS s p)) (by kernel_rfl) ((HO.out _ (by first | exact le_refl _ | exact le_drewN _ _)).cells (g := q) rfl 1 _ rfl) ukindStringQ ?_)))
  go_ret2
  exact ⟨r, rfl, er.out, below_drewN F.below nr⟩
set_option maxRecDepth 100000 in
set_option maxHeartbeats 2000000 in
theorem s_RF_B4 (s : ByteArray) (p : Nat) (w : World) (hs : s.size ≤ 1048576) (hp : p < s.size) (h0 : byteN s p = 47) (h : ∀ i, i < p → byteN s i ≠ 47) (hn : noB (tailS s p) = false) (ok : Bool) (hk : okW (restS (s.extract 0 p)) = ok) : Calls Try.prog 28 #[.string s] w fun e w' => ∃ v, e = .returned (.tuple #[.float .f32 v, .bool false]) ∧ can .f32 v = can .f32 0 ∧ le w w' := by
  have hz : (s.extract 0 p).size = p := (ext_size (by omega) (by omega)).trans (by omega)
  have hz2 : (tailS s p).size = s.size - (p + 1) := ext_size (by omega) (Nat.le_refl _)
  have HN := hid (fun w' => s_l08Signed (s.extract 0 p) w' (by unfold maxLen; omega))
  have HW := hid (fun w' => s_l08Whole (tailS s p) w' (by unfold maxLen; omega))
  have hb := wholeN_bd (tailS s p)
  obtain ⟨a, L, eL, hL⟩ := (splL_some hp h0 h).2 hn
  obtain ⟨n, hn3⟩ : ∃ n, n = L.length := ⟨_, rfl⟩
  have HC := hid (show ∀ w' : World, Calls Try.prog 74 #[.string s, .int .u8 47] w' (fun e w'' => ∃ v, e = .returned v ∧ w''.ownsRow w'.heap.size 9 1 v (L.length + 2) (strs (s.extract 0 p :: a :: L)) ∧ le w' w'') from fun w' => by have h9 := s_l01Split s 47 w' hs; rw [eL] at h9; exact h9)
  have HLN := hid (show 0 < L.length + 2 by omega)
  have g2 : (2 : Int) < ((L.length : Nat) : Int) + 2 := by omega
  rw [hk] at HN
  have hsl : L.length + 2 ≤ 1048577 := by have := splN_len (s := s) (c := 47) s.size; have e := congrArg List.length eL; unfold splL at e; simp at e; omega
  clear hb HW eL hn3 n hL
  clear hs hp h0 h hz hz2 hn hk
  have F := Frg.nil w
  cases ok
  all_goals
    go_enter Try.func28, Try.ntmps28
    go_wp2_with (first | (go_at_call 74; ((with_reducible refine (HC.out _).mono ?_); rintro e w1 ⟨v, rfl, ho, hl⟩; obtain ⟨q, cap, rfl, hq, _⟩ := ho.form (by omega); have HO := hid (fun w' (hl : le w1 w') => ownsRow_le ho hl); replace F := F.le hl; clear hl ho)) | (go_at_call 75; ((with_reducible refine (HN.out _).mono ?_); rintro e w2 ⟨rfl, rfl⟩)) | (go_at_call 76; ((with_reducible refine (HW.out _).mono ?_); rintro e w2 ⟨rfl, rfl⟩)) | (with_reducible refine wpList_farith (op := .quo) rfl rfl rfl rfl rfl ?_; intro r nr er fr) | (with_reducible refine wpList_indexW0 rfl rfl rfl rfl (i := 0) Try.underlying116 infoStrS HLN.out ?_) | ((with_reducible refine at_load rfl ?_); (with_reducible refine wpList_load1X rfl (g := q) (f := 0 + 0 * 1) rfl (v := .string (s.extract 0 p)) (by kernel_rfl) ((HO.out _ (by first | exact le_refl _ | exact le_drewN _ _)).cells (g := q) rfl 0 _ rfl) ukindStringQ ?_)))
    go_ret2
    exact ⟨0, rfl, rfl, F.below⟩
theorem s_RF (s : ByteArray) (ok : Bool) (ar : Nat) (w : World) (h : ∀ w, Calls Try.prog 28 #[.string s] w fun e w' => ∃ v, e = .returned (.tuple #[.float .f32 v, .bool ok]) ∧ can .f32 v = ar ∧ le w w') (hz : ok = false → ar = can .f32 0) : Calls Try.prog 7 #[.string s] w (Out_fi ar (if ok then 0 else 5) w) := by
  have HF := hid h; have HZ := hid hz
  clear h hz
  cases ok
  all_goals
    go_enter Try.func7, Try.ntmps7
    go_wp2_with (go_at_call 28; ((with_reducible refine (HF.out _).mono ?_); rintro e w1 ⟨v, rfl, hv, hl⟩; replace hv := hid hv; replace hl := hid hl))
    go_ret2
    first | exact ⟨v, rfl, hv.out, hl.out⟩ | exact ⟨0, rfl, (HZ.out (by first | rfl | trivial)).symm, hl.out⟩
theorem both_ReadFraction (s : ByteArray) (hs : s.size ≤ 1048576) : ∃ (ar0 : Nat) (ar1 : Int), (∀ w : World, Calls Try.prog 7 #[.string s] w (Out_fi ar0 ar1 w)) ∧ (∀ w : World, Calls Try.prog 8 #[.string s] w (Out_fi ar0 ar1 w)) := by
  have hm : s.size ≤ maxLen := by unfold maxLen; omega
  cases hn : noB s
  · obtain ⟨p, hp, h0, h⟩ := noB_no hn
    cases hk : okW (restS (s.extract 0 p))
    · refine ⟨can .f32 0, 5, fun w => s_RF s false _ w (fun w => ?_) (fun _ => rfl), fun w => i_RF_B0 s p w hm hp h0 h hk⟩
      cases ht : noB (tailS s p)
      · exact s_RF_B4 s p w hs hp h0 h ht _ rfl
      · exact s_RF_B0 s p w hs hp h0 h ht hk
    · cases hk2 : okW (tailS s p)
      · refine ⟨can .f32 0, 5, fun w => s_RF s false _ w (fun w => ?_) (fun _ => rfl), fun w => i_RF_B1 s p w hm hp h0 h hk hk2⟩
        cases ht : noB (tailS s p)
        · exact s_RF_B4 s p w hs hp h0 h ht _ rfl
        · exact s_RF_B1 s p w hs hp h0 h ht hk hk2
      · have ht : noB (tailS s p) = true := by
          cases ht : noB (tailS s p)
          · rw [okW_noB ht] at hk2; cases hk2
          · rfl
        cases hk3 : divB (wholeN (tailS s p))
        · refine ⟨can .f32 0, 5, fun w => s_RF s false _ w (fun w => ?_) (fun _ => rfl), fun w => i_RF_B2 s p w hm hp h0 h hk hk2 hk3⟩
          unfold divB at hk3
          rcases divB_int (wholeN (tailS s p)) with d | d | ⟨d1, d2⟩
          · exact s_RF_B2a s p w hs hp h0 h ht hk hk2 d
          · exact s_RF_B2b s p w hs hp h0 h ht hk hk2 d
          · rw [decide_eq_true d1, decide_eq_true d2] at hk3
            exact s_RF_B2c s p w hs hp h0 h ht hk hk2 d1 d2 hk3
        · refine ⟨_, 0, fun w => s_RF s true _ w (fun w => ?_) (fun h => by cases h), fun w => i_RF_B3 s p w hm hp h0 h hk hk2 hk3⟩
          unfold divB at hk3
          simp only [Bool.and_eq_true, decide_eq_true_eq] at hk3
          exact s_RF_B3 s p w hs hp h0 h ht hk hk2 hk3.1.1 hk3.1.2 hk3.2
  · cases hk : okW (restS s)
    · exact ⟨can .f32 0, 5, fun w => s_RF s false _ w (fun w => s_RF_A0 s w hs hn hk) (fun _ => rfl), fun w => i_RF_A0 s w hm hn hk⟩
    · exact ⟨_, 0, fun w => s_RF s true _ w (fun w => s_RF_A1 s w hs hn hk) (fun h => by cases h), fun w => i_RF_A1 s w hm hn hk⟩
end Go.Proofs.Ytnkjmgadnejdlab

/- The walk of 'FnExactReadFraction'. -/
namespace Go.Proofs.Ytnkjmgadnejdlab.fnExactReadFraction
open Go.RowKit Go.Fk
set_option maxRecDepth 100000 in
set_option maxHeartbeats 4000000 in
theorem core (a0 : ByteArray) (ar0 : Nat) (ar1 : Int) (w : World) (hs : a0.size ≤ 1048576)
    (hS : ∀ (w : World), Calls Try.prog 7 #[.string a0] w (Out_fi ar0 ar1 w))
    (hI : ∀ (w : World), Calls Try.prog 8 #[.string a0] w (Out_fi ar0 ar1 w)) :
    Calls Try.prog 3 #[.string a0] w fun e w' => e = .returned (.bool true) ∧ Below w.heap.size w w' := by
  have HS := hid hS; have HI := hid hI; clear hS hI
  have F := Frg.nil w
  have hs' : ¬ (1048576 : Int) < (a0.size : Int) := by omega
  go_enter Try.func3, Try.ntmps3
  go_wp2_with (first | (((with_reducible refine listN F ?_); clear F; intro wN F)) | fail)
  first | ((with_reducible refine callAt0 F ?_); clear F; intro wN F) | ((with_reducible refine callAtN F ?_); clear F; intro wN F)
  refine (HS.out _  ).mono ?_
  rintro e wS ⟨vS0, rfl, cS0, hlS⟩
  replace cS0 := hid cS0
  (replace F := F.le hlS)
  go_wp2_with (first | (((with_reducible refine listN F ?_); clear F; intro wN F)) | fail)
  first | ((with_reducible refine callAt0 F ?_); clear F; intro wN F) | ((with_reducible refine callAtN F ?_); clear F; intro wN F)
  refine (HI.out _  ).mono ?_
  rintro e wI ⟨vI0, rfl, cI0, hlI⟩
  replace cI0 := hid cI0
  (replace F := F.le hlI)
  go_wp2_with (first | (((with_reducible refine listN F ?_); clear F; intro wN F)) | ((with_reducible refine at_convert rfl ?_); first | (with_reducible refine wpList_widen rfl rfl rfl Try.underlying22 Try.underlying26 ?_; intro s1 n1 h1 f1) | (with_reducible refine wpList_widenG rfl rfl Try.underlying22 Try.underlying26 (by kernel_rfl) ?_; intro s1 n1 h1 f1)) | (go_at_call 9; ((with_reducible refine (sameFloat_yes _ _ _ (by exact ((Hid.out ‹Hid (can .f64 _ = can .f64 (widen vI0))›).trans ((congrArg (can .f64) (widen_congr (cI0.out.trans cS0.out.symm))).trans (Hid.out ‹Hid (can .f64 _ = can .f64 (widen vS0))›).symm)))).mono ?_); rintro e w7 ⟨rfl, dq7, rfl⟩; skip)))
  go_ret
  first | exact ⟨rfl, F.below⟩ | exact ⟨rfl, below_drewN F.below _⟩
theorem walk (a0 : ByteArray) (w : World) (w0 : a0.size ≤ maxLen) :
    Calls Try.prog 3 #[.string a0] w fun e w' => e = .returned (.bool true) ∧ Below w.heap.size w w' := by
  by_cases hs : a0.size ≤ 1048576
  · obtain ⟨ar0, ar1, hS, hI⟩ := both_ReadFraction a0 hs
    exact core a0 ar0 ar1 w hs hS hI
  · have hs' : (1048576 : Int) < (a0.size : Int) := by omega
    unfold maxLen at w0
    go_enter Try.func3, Try.ntmps3
    go_wp2
    go_ret
    exact ⟨rfl, le_refl _⟩
end Go.Proofs.Ytnkjmgadnejdlab.fnExactReadFraction
