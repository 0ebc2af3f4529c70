/- 'areUsed': the first numbers are finite, the others 0. -/
import Derived.Test.YtpfdegimnjbehacKept
import Derived.Test.YtpfdegimnjbehacRow
namespace Go.Fk
open Go Go.RowKit
def usedB (f : Nat → Nat) (n u : Nat) : Bool := (List.range n).all fun i => if i < u then fin (f i) else sameB (f i) 0
theorem usedB_fin {f : Nat → Nat} {n u i : Nat} (hi : i < u) (hu : u ≤ n) (h : fin (f i) = false) : usedB f n u = false := by
  simp only [usedB, List.all_eq_false, List.mem_range]
  exact ⟨i, by omega, by simp [hi, h]⟩
theorem usedB_zero {f : Nat → Nat} {n u i : Nat} (hi : u ≤ i) (hn : i < n) (h : sameB (f i) 0 = false) : usedB f n u = false := by
  simp only [usedB, List.all_eq_false, List.mem_range]
  exact ⟨i, hn, by simp [show ¬ i < u by omega, h]⟩
theorem usedB_yes {f : Nat → Nat} {n u : Nat} (h1 : ∀ i, i < u → fin (f i) = true) (h2 : ∀ i, u ≤ i → i < n → sameB (f i) 0 = true) : usedB f n u = true := by
  simp only [usedB, List.all_eq_true, List.mem_range]
  intro i hi
  by_cases c : i < u
  · simp [c, h1 i c]
  · simp [c, h2 i (by omega) hi]
end Go.Fk
namespace Go.Proofs.Ytpfdegimnjbehac
open Go.RowKit Go.Fk
set_option maxHeartbeats 1000000 in
theorem i_areUsed (f : Nat → Nat) (g o n u : Nat) (w : World) (hn : n < 100) (hu : u ≤ n) (hf : ∀ i, i < n → fits .f32 (f i)) (hc : ∀ i, i < n → w.cell? ⟨g, o + i, none⟩ = some (.float .f32 (f i))) :
    Calls Try.prog 44 #[.slice (some ⟨g, o, none⟩) n n, .int .i64 u] w fun e w' => e = .returned (.bool (usedB f n u)) ∧ w = w' := by
  have Hf := hid hf; have Hc := hid hc; clear hf hc
  rcases Nat.lt_or_ge u n with hlt0 | hge0
  · have h1 : (u : Int) ≤ n := by omega
    have h2 : (u : Int) < n := by omega
    go_enter Try.func44, Try.ntmps44
    go_wp2
    go_loop [13] (fun i => ∃ j : Nat, j ≤ u ∧ i = .int .i64 j ∧ Hid (∀ i, i < j → fin (f i) = true)) (fun i => u - (intOf i).toNat)
    case atStart => exact ⟨0, by omega, rfl, fun i hi => absurd hi (by omega)⟩
    case round =>
      obtain ⟨j, hj, rfl, HJ⟩ := hrel
      by_cases hlt : j < u
      · have cj := Hc.out j (by omega)
        have fj := hid (Hf.out j (by omega))
        cases hb : fin (f j)
        · go_wp2_with (go_at_call 58; refine (i_isFinite _ _ fj).mono ?_; rintro e w' ⟨rfl, rfl⟩)
          go_ret
          exact ⟨ret_b (usedB_fin hlt hu hb).symm, rfl⟩
        · go_wp2_with (go_at_call 58; refine (i_isFinite _ _ fj).mono ?_; rintro e w' ⟨rfl, rfl⟩)
          go_round
          case rel => exact ⟨j + 1, by omega, by go_num, fun i hi => by rcases Nat.lt_or_ge i j with h | h; exact HJ.out i h; rw [show i = j by omega]; exact hb⟩
          case measure => simp [intOf]; omega
      · obtain rfl : j = u := by omega
        go_wp2
        go_loop [25] (fun i => ∃ k : Nat, k ≤ n - j ∧ i = .int .i64 k ∧ Hid (∀ i, j ≤ i → i < j + k → sameB (f i) 0 = true)) (fun i => (n - j) - (intOf i).toNat)
        case atStart => exact ⟨0, by omega, rfl, fun i h1 h2 => absurd h2 (by omega)⟩
        case round =>
          obtain ⟨k, hk, rfl, HK⟩ := hrel
          by_cases hkt : k < n - j
          · have ck : w.cell? ⟨g, o + j + k, none⟩ = some (.float .f32 (f (j + k))) := by rw [Nat.add_assoc]; exact Hc.out (j + k) (by omega)
            have k1 : (k : Int) < (n : Int) - j := by omega
            cases hb : sameB (f (j + k)) 0
            · go_wp2_with (go_at_call 47; refine (i_SameSample _ _ _).mono ?_; rintro e w' ⟨rfl, rfl⟩)
              go_ret
              exact ⟨ret_b (usedB_zero (show j ≤ j + k by omega) (by omega) hb).symm, rfl⟩
            · go_wp2_with (go_at_call 47; refine (i_SameSample _ _ _).mono ?_; rintro e w' ⟨rfl, rfl⟩)
              go_round
              case rel => exact ⟨k + 1, by omega, by go_num, fun i h1 h2 => by rcases Nat.lt_or_ge i (j + k) with h | h; exact HK.out i h1 h; rw [show i = j + k by omega]; exact hb⟩
              case measure => simp [intOf]; omega
          · have k1 : ¬ (k : Int) < (n : Int) - j := by omega
            go_wp2
            go_ret
            exact ⟨ret_b (usedB_yes (HJ.out) (fun i h1 h2 => HK.out i h1 (by omega))).symm, rfl⟩
  · obtain rfl : u = n := by omega
    clear hu hge0
    go_enter Try.func44, Try.ntmps44
    go_wp2
    go_loop [13] (fun i => ∃ j : Nat, j ≤ u ∧ i = .int .i64 j ∧ Hid (∀ i, i < j → fin (f i) = true)) (fun i => u - (intOf i).toNat)
    case atStart => exact ⟨0, by omega, rfl, fun i hi => absurd hi (by omega)⟩
    case round =>
      obtain ⟨j, hj, rfl, HJ⟩ := hrel
      by_cases hlt : j < u
      · have cj := Hc.out j (by omega)
        have fj := hid (Hf.out j (by omega))
        cases hb : fin (f j)
        · go_wp2_with (go_at_call 58; refine (i_isFinite _ _ fj).mono ?_; rintro e w' ⟨rfl, rfl⟩)
          go_ret
          exact ⟨ret_b (usedB_fin hlt (Nat.le_refl _) hb).symm, rfl⟩
        · go_wp2_with (go_at_call 58; refine (i_isFinite _ _ fj).mono ?_; rintro e w' ⟨rfl, rfl⟩)
          go_round
          case rel => exact ⟨j + 1, by omega, by go_num, fun i hi => by rcases Nat.lt_or_ge i j with h | h; exact HJ.out i h; rw [show i = j by omega]; exact hb⟩
          case measure => simp [intOf]; omega
      · obtain rfl : j = u := by omega
        go_wp2
        go_loop [25] (fun i => i = .int .i64 0) (fun i => 0)
        case atStart => rfl
        case round =>
          obtain rfl := hrel
          go_wp2
          go_ret
          exact ⟨ret_b (usedB_yes (HJ.out) (fun i h1 h2 => absurd h2 (by omega))).symm, rfl⟩
end Go.Proofs.Ytpfdegimnjbehac
