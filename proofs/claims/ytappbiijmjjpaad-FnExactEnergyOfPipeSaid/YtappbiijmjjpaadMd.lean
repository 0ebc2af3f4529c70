/- Texts of the walk, laid in one file. -/
import Derived.BigRegion
import Derived.BigQuiet
import Derived.RegionTactic
import Derived.OwnWalk
import Derived.Deep.AppendLies
import Derived.Great.BuildSlice
import Derived.Test.YtappbiijmjjpaadMc
set_option linter.unusedVariables false
set_option linter.unusedSimpArgs false
/- What pipes ask of their lists: 'l04All', 'l04Rings'; 'areScatters', 'isFiniteRing', 'areSections'. -/
namespace Go.Fk
open Go Go.RowKit
/-- Two lists of sections. -/
def secOk (x y : Nat → CD) (k : Nat) : Bool := rgOk x k && rgOk y k && (rgN x k == rgN y k)
theorem withinB_can {y x l g : Nat} (h : can .f32 y = x) : withinB y l g = withinB x l g := by
  unfold withinB; rw [← h, order_can_l, order_can_l]
def scB (x : Nat → Nat) (n : Nat) : Bool := allB (fun i => withinB (x i) 3212836864 1065353216) n
end Go.Fk
namespace Go.Proofs.Ytappbiijmjjpaad
open Go.RowKit Go.Fk
set_option maxRecDepth 100000 in
set_option maxHeartbeats 1000000 in
theorem s_l04All (B : Nat) (s : Value) (x : Nat → Nat) (n : Nat) (w : World) (hs : RdS w B s x n) : Calls Try.prog 25 #[s] w fun e w' => e = .returned (.bool (finB x n)) ∧ ∃ m, w' = w.drewN m := by
  have hrd := hid hs
  rcases hs with ⟨rfl, rfl⟩ | ⟨a, cap, rfl, hc, hm, hx⟩
  · clear hrd
    go_enter Try.func25, Try.ntmps25
    go_wp2
    go_loop [3] (fun i => i = .int .i64 0) (fun _ => 0)
    case atStart => rfl
    case round =>
      obtain rfl := hrel
      go_wp2
      go_ret
      exact ⟨rfl, 0, rfl⟩
  · have HX := hid hx
    unfold maxLen at hm
    clear hx
    go_enter Try.func25, Try.ntmps25
    go_wp2
    go_loopw [3] (fun i wr => ∃ j : Nat, j ≤ n ∧ i = .int .i64 j ∧ Hid (∀ i, i < j → fin (x i) = true) ∧ ∃ m, wr = w.drewN m) (fun i _ => n - (intOf i).toNat)
    case atStart => exact ⟨0, by omega, rfl, fun i hi => absurd hi (by omega), 0, rfl⟩
    case round =>
      obtain ⟨j, hj, rfl, HJ, m, rfl⟩ := hrel
      by_cases hlt : j < n
      · obtain ⟨_, y, c1, f1, e1⟩ := HX.out j hlt
        have hfy : fin y = fin (x j) := fin_can ((e1).trans (by rw [← e1, can_can]))
        cases hb : fin (x j)
        · have HF := hid (fun w => (hfy.trans hb) ▸ s_l01Finite y w)
          clear hfy e1
          go_wp2_with (go_at_call 39; ((with_reducible refine (HF.out _).mono ?_); rintro e w' ⟨rfl, q, rfl⟩))
          go_ret
          exact ⟨ret_b (finB_no hlt hb).symm, _, rfl⟩
        · have HF := hid (fun w => (hfy.trans hb) ▸ s_l01Finite y w)
          clear hfy e1
          go_wp2_with (go_at_call 39; ((with_reducible refine (HF.out _).mono ?_); rintro e w' ⟨rfl, q, rfl⟩))
          go_roundw
          case rel => exact ⟨j + 1, by omega, by go_num, fun i hi => by rcases Nat.lt_or_ge i j with h | h; exact HJ.out i h; rw [show i = j by omega]; exact hb, _, rfl⟩
          case measure => simp [intOf]; omega
      · obtain rfl : j = n := by omega
        go_wp2
        go_ret
        exact ⟨ret_b (finB_yes HJ.out).symm, _, rfl⟩
set_option maxRecDepth 100000 in
set_option maxHeartbeats 1000000 in
theorem s_l04Rings (B : Nat) (s : Value) (x : Nat → CD) (n : Nat) (w : World) (hs : (CD.sl 2 n x).RdN w B s) (hx : RgsOk x n) : Calls Try.prog 23 #[s] w fun e w' => e = .returned (.bool (allB (rgOk x) n)) ∧ ∃ m, w' = w.drewN m := by
  rcases hs.form with ⟨rfl, rfl⟩ | ⟨b, o, cap, rfl, hc, hm⟩
  · clear hs hx
    go_enter Try.func23, Try.ntmps23
    go_wp2
    go_loop [3] (fun i => i = .int .i64 0) (fun _ => 0)
    case atStart => rfl
    case round =>
      obtain rfl := hrel
      go_wp2
      go_ret
      exact ⟨rfl, 0, rfl⟩
  · have HA := hid (fun k (hk : k < n) => hx.at hs hk)
    unfold maxLen at hm
    clear hx hs
    go_enter Try.func23, Try.ntmps23
    go_wp2
    go_loopw [3] (fun i wr => ∃ j : Nat, j ≤ n ∧ i = .int .i64 j ∧ Hid (∀ i, i < j → rgOk x i = true) ∧ ∃ m, wr = w.drewN m) (fun i _ => n - (intOf i).toNat)
    case atStart => exact ⟨0, by omega, rfl, fun i hi => absurd hi (by omega), 0, rfl⟩
    case round =>
      obtain ⟨j, hj, rfl, HJ, m, rfl⟩ := hrel
      by_cases hlt : j < n
      · obtain ⟨u, c0, c1, hw, hr⟩ := HA.out j hlt
        have HR := hid (fun (m : Nat) => s_l02RingR B u (rgX x j) (rgN x j) (rgK x j) b (o + j * 2) (w.drewN m) (hr.le (le_drewN w m)) c0 c1 hw)
        have HL := hid (fun (m : Nat) => s_l04All B u (rgX x j) (rgN x j) (w.drewN m) (hr.le (le_drewN w m)))
        cases h1 : okRing (rgN x j) (rgK x j)
        · rw [h1] at HR
          have hb : rgOk x j = false := by unfold rgOk; rw [h1]; rfl
          clear h1 c1 hw hr
          go_wp2_with (first | (with_reducible refine wpList_indexW0 rfl rfl rfl rfl Try.underlying35 uinfoRingI hlt ?_) | (go_at_call 36; ((with_reducible refine (HR.out _).mono ?_); rintro e w' ⟨rfl, rfl⟩)))
          go_ret
          exact ⟨ret_b (allB_no hlt hb).symm, _, rfl⟩
        cases h2 : finB (rgX x j) (rgN x j)
        · rw [h1] at HR; rw [h2] at HL
          have hb : rgOk x j = false := by unfold rgOk; rw [h2, Bool.and_false]
          clear h1 h2 c1 hw hr
          go_wp2_with (first | (with_reducible refine wpList_indexW0 rfl rfl rfl rfl Try.underlying35 uinfoRingI hlt ?_) | (with_reducible refine wpList_indexW0G rfl rfl rfl Try.underlying35 uinfoRingI hlt (by kernel_rfl) ?_) | (go_at_call 36; ((with_reducible refine (HR.out _).mono ?_); rintro e w' ⟨rfl, rfl⟩)) | (go_at_call 25; ((with_reducible refine (HL.out _).mono ?_); rintro e w' ⟨rfl, q, rfl⟩)))
          go_ret
          exact ⟨ret_b (allB_no hlt hb).symm, _, rfl⟩
        · rw [h1] at HR; rw [h2] at HL
          have hb : rgOk x j = true := by unfold rgOk; rw [h1, h2]; rfl
          clear h1 h2 c1 hw hr
          go_wp2_with (first | (with_reducible refine wpList_indexW0 rfl rfl rfl rfl Try.underlying35 uinfoRingI hlt ?_) | (with_reducible refine wpList_indexW0G rfl rfl rfl Try.underlying35 uinfoRingI hlt (by kernel_rfl) ?_) | (go_at_call 36; ((with_reducible refine (HR.out _).mono ?_); rintro e w' ⟨rfl, rfl⟩)) | (go_at_call 25; ((with_reducible refine (HL.out _).mono ?_); rintro e w' ⟨rfl, q, rfl⟩)))
          go_roundw
          case rel => exact ⟨j + 1, by omega, by go_num, fun i hi => by rcases Nat.lt_or_ge i j with h | h; exact HJ.out i h; rw [show i = j by omega]; exact hb, _, rfl⟩
          case measure => simp [intOf]; omega
      · obtain rfl : j = n := by omega
        go_wp2
        go_ret
        exact ⟨ret_b (allB_yes HJ.out).symm, _, rfl⟩
set_option maxRecDepth 100000 in
set_option maxHeartbeats 1000000 in
theorem i_areScatters (B : Nat) (s : Value) (x : Nat → Nat) (n : Nat) (w : World) (hs : RdS w B s x n) : Calls Try.prog 31 #[s] w fun e w' => e = .returned (.bool (scB x n)) ∧ w = w' := by
  rcases hs with ⟨rfl, rfl⟩ | ⟨a, cap, rfl, hc, hm, hx⟩
  · go_enter Try.func31, Try.ntmps31
    go_wp2
    go_loop [7] (fun i => i = .int .i64 0) (fun _ => 0)
    case atStart => rfl
    case round =>
      obtain rfl := hrel
      go_wp2
      go_ret
      exact ⟨rfl, rfl⟩
  · have HX := hid hx
    unfold maxLen at hm
    clear hx
    go_enter Try.func31, Try.ntmps31
    go_wp2
    go_loop [7] (fun i => ∃ j : Nat, j ≤ n ∧ i = .int .i64 j ∧ Hid (∀ i, i < j → withinB (x i) 3212836864 1065353216 = true)) (fun i => n - (intOf i).toNat)
    case atStart => exact ⟨0, by omega, rfl, fun i hi => absurd hi (by omega)⟩
    case round =>
      obtain ⟨j, hj, rfl, HJ⟩ := hrel
      by_cases hlt : j < n
      · obtain ⟨_, y, c1, f1, e1⟩ := HX.out j hlt
        have hfy := withinB_can (l := 3212836864) (g := 1065353216) e1
        cases hb : withinB (x j) 3212836864 1065353216
        · have HF := hid (fun w => (hfy.trans hb) ▸ i_isWithin y 3212836864 1065353216 w)
          clear hfy e1
          go_wp2_with (go_at_call 45; ((with_reducible refine (HF.out _).mono ?_); rintro e w' ⟨rfl, rfl⟩))
          go_ret
          exact ⟨ret_b (allB_no (p := fun i => withinB (x i) 3212836864 1065353216) hlt hb).symm, rfl⟩
        · have HF := hid (fun w => (hfy.trans hb) ▸ i_isWithin y 3212836864 1065353216 w)
          clear hfy e1
          go_wp2_with (go_at_call 45; ((with_reducible refine (HF.out _).mono ?_); rintro e w' ⟨rfl, rfl⟩))
          go_round
          case rel => exact ⟨j + 1, by omega, by go_num, fun i hi => by rcases Nat.lt_or_ge i j with h | h; exact HJ.out i h; rw [show i = j by omega]; exact hb⟩
          case measure => simp [intOf]; omega
      · obtain rfl : j = n := by omega
        go_wp2
        go_ret
        exact ⟨ret_b (allB_yes HJ.out).symm, rfl⟩
theorem i_areFiniteQ (B : Nat) (s : Value) (x : Nat → Nat) (n : Nat) (w : World) (hs : RdS w B s x n) : Calls Try.prog 48 #[s] w fun e w' => e = .returned (.bool (finB x n)) ∧ w = w' := by
  rcases hs with ⟨rfl, rfl⟩ | ⟨a, cap, rfl, h2, h3, h4⟩
  · exact i_areFinite_nil x w
  · obtain ⟨y, hy⟩ : ∃ y : Nat → Nat, ∀ i, i < n → w.cell? (a.add i) = some (.float .f32 (y i)) ∧ fits .f32 (y i) ∧ can .f32 (y i) = x i := by
      have : ∀ i, ∃ y, i < n → w.cell? (a.add i) = some (.float .f32 y) ∧ fits .f32 y ∧ can .f32 y = x i := fun i => by
        by_cases hi : i < n
        · obtain ⟨_, y, e⟩ := h4 i hi; exact ⟨y, fun _ => e⟩
        · exact ⟨0, fun h => absurd h hi⟩
      exact Classical.skolem.1 this
    have he : finB x n = finB y n := by
      have key : ∀ i, i < n → fin (x i) = fin (y i) := fun i hi => by
        rw [← (hy i hi).2.2]; exact fin_can (can_can _ _)
      cases hb : finB y n
      · obtain ⟨i, hi, hf⟩ := finB_ex hb
        exact finB_no hi ((key i hi).trans hf)
      · exact finB_yes (fun i hi => (key i hi).trans (finB_all hb i hi))
    rw [he]
    exact i_areFinite y a n cap w (by unfold maxLen at h3; omega) (fun i hi => (hy i hi).2.1) (fun i hi => (hy i hi).1)
set_option maxRecDepth 100000 in
set_option maxHeartbeats 1000000 in
theorem i_isFiniteRing (B : Nat) (s : Value) (x : Nat → Nat) (n : Nat) (k : Int) (w : World) (hs : RdS w B s x n) : Calls Try.prog 46 #[.agg #[s, .int .i64 k]] w fun e w' => e = .returned (.bool (okRing n k && finB x n)) ∧ le w w' := by
  have HV := hid (fun (w' : World) (hl : le w w') => i_ValidRingR B s x n k w' (hs.le hl))
  have HF := hid (fun (w' : World) (hl : le w w') => i_areFiniteQ B s x n w' (hs.le hl))
  have F := (Frg.nil w).box 48 #[s, .int .i64 k]
  clear hs
  cases h1 : okRing n k <;> cases h2 : finB x n
  all_goals
    rw [h1] at HV; rw [h2] at HF
    clear h1 h2
    go_enter Try.func46, Try.ntmps46
    go_wp2_with (first | ((with_reducible refine at_loadU (ty := 48) rfl rfl ?_); (with_reducible refine wpList_loadG F rfl rfl rfl m0 Try.underlying48 rfl uinfoRingI rfl ?_)) | (go_at_call 50; ((with_reducible refine (HV.out _ F.below).mono ?_); rintro e w1 ⟨rfl, hl⟩; replace F := F.le hl; clear hl; have c0 := (F.row m0).cell? 0)) | (go_at_call 48; ((with_reducible refine (HF.out _ F.below).mono ?_); rintro e w1 ⟨rfl, rfl⟩)))
    go_ret
    exact ⟨rfl, F.below⟩
set_option maxRecDepth 100000 in
set_option maxHeartbeats 4000000 in
theorem i_areSections (B B' : Nat) (s s' : Value) (x y : Nat → CD) (n : Nat) (w : World) (hs : (CD.sl 2 n x).RdN w B s) (hs' : (CD.sl 2 n y).RdN w B' s') (hx : RgsOk x n) (hy : RgsOk y n) : Calls Try.prog 32 #[s, s'] w fun e w' => e = .returned (.bool (allB (secOk x y) n)) ∧ le w w' := by
  by_cases h0 : n = 0
  · subst h0
    rcases hs.form with ⟨rfl, _⟩ | ⟨b, o, cap, rfl, hc, hm⟩
    all_goals
      clear hs hs' hx hy
      go_enter Try.func32, Try.ntmps32
      go_wp2
      go_loop [10] (fun i => i = .int .i64 0) (fun _ => 0)
      case atStart => rfl
      case round =>
        obtain rfl := hrel
        go_wp2
        go_ret
        exact ⟨rfl, le_refl _⟩
  rcases hs.form with ⟨_, h⟩ | ⟨b, o, cap, rfl, hc, hm⟩
  · exact absurd h h0
  rcases hs'.form with ⟨_, h⟩ | ⟨b', o', cap', rfl, hc', hm'⟩
  · exact absurd h h0
  have HA := hid (fun k (hk : k < n) => hx.at hs hk)
  have HB := hid (fun k (hk : k < n) => hy.at hs' hk)
  unfold maxLen at hm hm'
  clear hx hy hs hs' h0
  go_enter Try.func32, Try.ntmps32
  go_wp2
  go_loopw [10] (fun i wr => ∃ k : Nat, k ≤ n ∧ i = .int .i64 k ∧ Hid (∀ i, i < k → secOk x y i = true) ∧ Hid (le w wr)) (fun i _ => n - (intOf i).toNat)
  case atStart => exact ⟨0, by omega, rfl, fun i hi => absurd hi (by omega), le_refl _⟩
  case round =>
    obtain ⟨k, hk, rfl, HJ, HL⟩ := hrel
    rename_i wr _
    by_cases hlt : k < n
    · obtain ⟨u, c0, c1, hwu, hr⟩ := HA.out k hlt
      obtain ⟨v, e0, e1, hwv, hq⟩ := HB.out k hlt
      have gx : Hid (∀ (j : Nat) (q : Value), [u, .int .i64 (rgK x k)][j]? = some q → wr.cell? ((⟨b, o + k * 2, none⟩ : Addr).add j) = some q) := fun j q hj => by
        rw [add_none]
        match j, hj with
        | 0, hj => simp at hj; subst hj; exact (Below.cell HL.out (cell_lt' c0)).trans c0
        | 1, hj => simp at hj; subst hj; exact (Below.cell HL.out (cell_lt' c1)).trans c1
      have gy0 : Hid (∀ (w2 : World) (_ : le wr w2) (j : Nat) (q : Value), [v, .int .i64 (rgK y k)][j]? = some q → w2.cell? ((⟨b', o' + k * 2, none⟩ : Addr).add j) = some q) := fun w2 h2 j q hj => by
        rw [add_none]
        match j, hj with
        | 0, hj => simp at hj; subst hj; exact (Below.cell (le_trans HL.out h2) (cell_lt' e0)).trans e0
        | 1, hj => simp at hj; subst hj; exact (Below.cell (le_trans HL.out h2) (cell_lt' e1)).trans e1
      have ou := hid hr.one
      have ov := hid hq.one
      have HR := hid (fun (w' : World) (hl : le wr w') => i_isFiniteRing B u (rgX x k) (rgN x k) (rgK x k) w' (hr.le (le_trans HL.out hl)))
      have HS := hid (fun (w' : World) (hl : le wr w') => i_isFiniteRing B' v (rgX y k) (rgN y k) (rgK y k) w' (hq.le (le_trans HL.out hl)))
      have F := Frg.nil wr
      clear c0 c1 e0 e1 hwu hwv
      cases h1 : rgOk x k
      · have hb : secOk x y k = false := by unfold secOk; rw [h1]; rfl
        rw [show (okRing (rgN x k) (rgK x k) && finB (rgX x k) (rgN x k)) = false from h1] at HR
        clear h1 hr hq
        go_wp2_with (first | (with_reducible refine wpList_indexW0 rfl rfl rfl rfl Try.underlying35 uinfoRingI hlt ?_) | ((with_reducible refine at_loadU (ty := 48) rfl rfl ?_); first | (with_reducible refine wpList_loadW rfl rfl rfl [u, .int .i64 (rgK x k)] gx.out Try.underlying48 rfl uinfoRingI rfl ?_) | (with_reducible refine wpList_loadW rfl rfl rfl [v, .int .i64 (rgK y k)] (gy0.out _ F.below) Try.underlying48 rfl uinfoRingI rfl ?_) | (with_reducible refine wpList_loadG F rfl rfl rfl (by first | exact m0 | exact m1) Try.underlying48 rfl uinfoRingI rfl ?_)) | ((with_reducible refine at_store rfl ?_); (refine wpList_storeG F rfl rfl rfl rfl rfl uinfoRingI rfl (by first | exact one_head ou.out rfl | exact one_head ov.out rfl) ?_; clear F; intro W F zW; clear zW)) | (go_at_call 46; ((with_reducible refine (HR.out _ F.below).mono ?_); rintro e w1 ⟨rfl, hl⟩; replace F := F.le hl; clear hl)))
        go_ret
        exact ⟨ret_b (allB_no (p := secOk x y) hlt hb).symm, le_trans HL.out F.below⟩
      cases h2 : rgOk y k
      · have hb : secOk x y k = false := by unfold secOk; rw [h1, h2]; rfl
        rw [show (okRing (rgN x k) (rgK x k) && finB (rgX x k) (rgN x k)) = true from h1] at HR
        rw [show (okRing (rgN y k) (rgK y k) && finB (rgX y k) (rgN y k)) = false from h2] at HS
        clear h1 h2 hr hq
        go_wp2_with (first | (with_reducible refine wpList_indexW0 rfl rfl rfl rfl Try.underlying35 uinfoRingI hlt ?_) | ((with_reducible refine at_loadU (ty := 48) rfl rfl ?_); first | (with_reducible refine wpList_loadW rfl rfl rfl [u, .int .i64 (rgK x k)] gx.out Try.underlying48 rfl uinfoRingI rfl ?_) | (with_reducible refine wpList_loadW rfl rfl rfl [v, .int .i64 (rgK y k)] (gy0.out _ F.below) Try.underlying48 rfl uinfoRingI rfl ?_) | (with_reducible refine wpList_loadG F rfl rfl rfl (by first | exact m0 | exact m1) Try.underlying48 rfl uinfoRingI rfl ?_)) | ((with_reducible refine at_loadV (ty := 48) rfl rfl ?_); (with_reducible refine wpList_loadGG F rfl rfl (by first | exact m0 | exact m1) Try.underlying48 rfl uinfoRingI rfl (by kernel_rfl) ?_)) | ((with_reducible refine at_store rfl ?_); (refine wpList_storeG F rfl rfl rfl rfl rfl uinfoRingI rfl (by first | exact one_head ou.out rfl | exact one_head ov.out rfl) ?_; clear F; intro W F zW; clear zW)) | (go_at_call 46; first | ((with_reducible refine (HR.out _ F.below).mono ?_); rintro e w1 ⟨rfl, hl⟩; replace F := F.le hl; clear hl) | ((with_reducible refine (HS.out _ F.below).mono ?_); rintro e w1 ⟨rfl, hl⟩; replace F := F.le hl; clear hl; have d0 := (F.row m1).cell? 0; have d1 := (F.row m0).cell? 0)))
        go_ret
        exact ⟨ret_b (allB_no (p := secOk x y) hlt hb).symm, le_trans HL.out F.below⟩
      have n1 : 1 ≤ rgN x k := by have := h1; unfold rgOk at this; simp only [Bool.and_eq_true] at this; exact (okRing_iff.1 this.1).1
      have n2 : 1 ≤ rgN y k := by have := h2; unfold rgOk at this; simp only [Bool.and_eq_true] at this; exact (okRing_iff.1 this.1).1
      rw [show (okRing (rgN x k) (rgK x k) && finB (rgX x k) (rgN x k)) = true from h1] at HR
      rw [show (okRing (rgN y k) (rgK y k) && finB (rgX y k) (rgN y k)) = true from h2] at HS
      obtain ⟨au, cu, _, rfl, hcu, hmu, _⟩ := hr.raw n1
      obtain ⟨av, cv, _, rfl, hcv, hmv, _⟩ := hq.raw n2
      unfold maxLen at hmu hmv
      by_cases h3 : rgN x k = rgN y k
      · have hb : secOk x y k = true := by unfold secOk; rw [h1, h2, h3]; simp
        clear h1 h2 hr hq n1 n2
        have h4 : (((rgN x k : Nat) : Int) != ((rgN y k : Nat) : Int)) = false := by simp [h3]
        replace h3 := hid h3
        go_wp2_with (first | (with_reducible refine wpList_indexW0 rfl rfl rfl rfl Try.underlying35 uinfoRingI hlt ?_) | ((with_reducible refine at_loadU (ty := 48) rfl rfl ?_); first | (with_reducible refine wpList_loadW rfl rfl rfl [(.slice (some au) (rgN x k) cu), .int .i64 (rgK x k)] gx.out Try.underlying48 rfl uinfoRingI rfl ?_) | (with_reducible refine wpList_loadW rfl rfl rfl [(.slice (some av) (rgN y k) cv), .int .i64 (rgK y k)] (gy0.out _ F.below) Try.underlying48 rfl uinfoRingI rfl ?_) | (with_reducible refine wpList_loadG F rfl rfl rfl (by first | exact m0 | exact m1) Try.underlying48 rfl uinfoRingI rfl ?_)) | ((with_reducible refine at_loadV (ty := 48) rfl rfl ?_); (with_reducible refine wpList_loadGG F rfl rfl (by first | exact m0 | exact m1) Try.underlying48 rfl uinfoRingI rfl (by kernel_rfl) ?_)) | ((with_reducible refine at_store rfl ?_); (refine wpList_storeG F rfl rfl rfl rfl rfl uinfoRingI rfl (by first | exact one_head ou.out rfl | exact one_head ov.out rfl) ?_; clear F; intro W F zW; clear zW)) | (go_at_call 46; first | ((with_reducible refine (HR.out _ F.below).mono ?_); rintro e w1 ⟨rfl, hl⟩; replace F := F.le hl; clear hl) | ((with_reducible refine (HS.out _ F.below).mono ?_); rintro e w1 ⟨rfl, hl⟩; replace F := F.le hl; clear hl; have d0 := (F.row m1).cell? 0; have d1 := (F.row m0).cell? 0)))
        have HL1 := hid (le_trans HL.out F.below)
        go_roundw
        case rel => exact ⟨k + 1, by omega, by go_num, fun i hi => by rcases Nat.lt_or_ge i k with h | h; exact HJ.out i h; rw [show i = k by omega]; exact hb, HL1.out⟩
        case measure => simp [intOf]; omega
      · have hb : secOk x y k = false := by unfold secOk; rw [h1, h2]; simp [h3]
        clear h1 h2 hr hq n1 n2
        have h4 : (((rgN x k : Nat) : Int) != ((rgN y k : Nat) : Int)) = true := by simp; omega
        replace h3 := hid h3
        go_wp2_with (first | (with_reducible refine wpList_indexW0 rfl rfl rfl rfl Try.underlying35 uinfoRingI hlt ?_) | ((with_reducible refine at_loadU (ty := 48) rfl rfl ?_); first | (with_reducible refine wpList_loadW rfl rfl rfl [(.slice (some au) (rgN x k) cu), .int .i64 (rgK x k)] gx.out Try.underlying48 rfl uinfoRingI rfl ?_) | (with_reducible refine wpList_loadW rfl rfl rfl [(.slice (some av) (rgN y k) cv), .int .i64 (rgK y k)] (gy0.out _ F.below) Try.underlying48 rfl uinfoRingI rfl ?_) | (with_reducible refine wpList_loadG F rfl rfl rfl (by first | exact m0 | exact m1) Try.underlying48 rfl uinfoRingI rfl ?_)) | ((with_reducible refine at_loadV (ty := 48) rfl rfl ?_); (with_reducible refine wpList_loadGG F rfl rfl (by first | exact m0 | exact m1) Try.underlying48 rfl uinfoRingI rfl (by kernel_rfl) ?_)) | ((with_reducible refine at_store rfl ?_); (refine wpList_storeG F rfl rfl rfl rfl rfl uinfoRingI rfl (by first | exact one_head ou.out rfl | exact one_head ov.out rfl) ?_; clear F; intro W F zW; clear zW)) | (go_at_call 46; first | ((with_reducible refine (HR.out _ F.below).mono ?_); rintro e w1 ⟨rfl, hl⟩; replace F := F.le hl; clear hl) | ((with_reducible refine (HS.out _ F.below).mono ?_); rintro e w1 ⟨rfl, hl⟩; replace F := F.le hl; clear hl; have d0 := (F.row m1).cell? 0; have d1 := (F.row m0).cell? 0)))
        go_ret
        exact ⟨ret_b (allB_no (p := secOk x y) hlt hb).symm, le_trans HL.out F.below⟩
    · obtain rfl : k = n := by omega
      go_wp2
      go_ret
      exact ⟨ret_b (allB_yes HJ.out).symm, HL.out⟩
end Go.Proofs.Ytappbiijmjjpaad

/- The kinds of filters as the program has them: 'modelOf', 'sizesOf'; 'ValidFilter' of both. -/
namespace Go.Proofs.Ytappbiijmjjpaad
open Go.RowKit Go.Fk
/-- The value of a kind. -/
def mdl (k : Int) (a b c : Nat) : Value :=
  if k = 1 then .iface 87 (.agg #[.float .f32 a, .float .f32 b, .float .f32 c])
  else if k = 2 then .iface 88 (.agg #[.float .f32 a, .float .f32 b, .float .f32 c])
  else if k = 3 then .iface 89 (.agg #[.float .f32 a, .float .f32 b, .float .f32 c])
  else if k = 4 then .iface 90 (.agg #[.float .f32 a, .float .f32 b, .float .f32 c])
  else if k = 5 then .iface 91 (.agg #[.float .f32 a, .float .f32 b, .float .f32 c])
  else .nilIface
set_option maxRecDepth 100000 in
@[go_sem] theorem ta11 (v : Value) (w : World) : (Instr.typeAssert (.iface 87 v) 79 87 true).run Try.prog w = .ok (.tuple #[v, .bool true]) w := by rfl
set_option maxRecDepth 100000 in
@[go_sem] theorem ta12 (v : Value) (w : World) : (Instr.typeAssert (.iface 87 v) 79 88 true).run Try.prog w = .ok (.tuple #[.agg #[.float .f32 0, .float .f32 0, .float .f32 0], .bool false]) w := by rfl
set_option maxRecDepth 100000 in
@[go_sem] theorem ta13 (v : Value) (w : World) : (Instr.typeAssert (.iface 87 v) 79 89 true).run Try.prog w = .ok (.tuple #[.agg #[.float .f32 0, .float .f32 0, .float .f32 0], .bool false]) w := by rfl
set_option maxRecDepth 100000 in
@[go_sem] theorem ta15 (v : Value) (w : World) : (Instr.typeAssert (.iface 87 v) 79 91 true).run Try.prog w = .ok (.tuple #[.agg #[.float .f32 0, .float .f32 0, .float .f32 0], .bool false]) w := by rfl
set_option maxRecDepth 100000 in
@[go_sem] theorem ta21 (v : Value) (w : World) : (Instr.typeAssert (.iface 88 v) 79 87 true).run Try.prog w = .ok (.tuple #[.agg #[.float .f32 0, .float .f32 0, .float .f32 0], .bool false]) w := by rfl
set_option maxRecDepth 100000 in
@[go_sem] theorem ta22 (v : Value) (w : World) : (Instr.typeAssert (.iface 88 v) 79 88 true).run Try.prog w = .ok (.tuple #[v, .bool true]) w := by rfl
set_option maxRecDepth 100000 in
@[go_sem] theorem ta23 (v : Value) (w : World) : (Instr.typeAssert (.iface 88 v) 79 89 true).run Try.prog w = .ok (.tuple #[.agg #[.float .f32 0, .float .f32 0, .float .f32 0], .bool false]) w := by rfl
set_option maxRecDepth 100000 in
@[go_sem] theorem ta25 (v : Value) (w : World) : (Instr.typeAssert (.iface 88 v) 79 91 true).run Try.prog w = .ok (.tuple #[.agg #[.float .f32 0, .float .f32 0, .float .f32 0], .bool false]) w := by rfl
set_option maxRecDepth 100000 in
@[go_sem] theorem ta31 (v : Value) (w : World) : (Instr.typeAssert (.iface 89 v) 79 87 true).run Try.prog w = .ok (.tuple #[.agg #[.float .f32 0, .float .f32 0, .float .f32 0], .bool false]) w := by rfl
set_option maxRecDepth 100000 in
@[go_sem] theorem ta32 (v : Value) (w : World) : (Instr.typeAssert (.iface 89 v) 79 88 true).run Try.prog w = .ok (.tuple #[.agg #[.float .f32 0, .float .f32 0, .float .f32 0], .bool false]) w := by rfl
set_option maxRecDepth 100000 in
@[go_sem] theorem ta33 (v : Value) (w : World) : (Instr.typeAssert (.iface 89 v) 79 89 true).run Try.prog w = .ok (.tuple #[v, .bool true]) w := by rfl
set_option maxRecDepth 100000 in
@[go_sem] theorem ta35 (v : Value) (w : World) : (Instr.typeAssert (.iface 89 v) 79 91 true).run Try.prog w = .ok (.tuple #[.agg #[.float .f32 0, .float .f32 0, .float .f32 0], .bool false]) w := by rfl
set_option maxRecDepth 100000 in
@[go_sem] theorem ta41 (v : Value) (w : World) : (Instr.typeAssert (.iface 90 v) 79 87 true).run Try.prog w = .ok (.tuple #[.agg #[.float .f32 0, .float .f32 0, .float .f32 0], .bool false]) w := by rfl
set_option maxRecDepth 100000 in
@[go_sem] theorem ta42 (v : Value) (w : World) : (Instr.typeAssert (.iface 90 v) 79 88 true).run Try.prog w = .ok (.tuple #[.agg #[.float .f32 0, .float .f32 0, .float .f32 0], .bool false]) w := by rfl
set_option maxRecDepth 100000 in
@[go_sem] theorem ta43 (v : Value) (w : World) : (Instr.typeAssert (.iface 90 v) 79 89 true).run Try.prog w = .ok (.tuple #[.agg #[.float .f32 0, .float .f32 0, .float .f32 0], .bool false]) w := by rfl
set_option maxRecDepth 100000 in
@[go_sem] theorem ta45 (v : Value) (w : World) : (Instr.typeAssert (.iface 90 v) 79 91 true).run Try.prog w = .ok (.tuple #[.agg #[.float .f32 0, .float .f32 0, .float .f32 0], .bool false]) w := by rfl
set_option maxRecDepth 100000 in
@[go_sem] theorem ta51 (v : Value) (w : World) : (Instr.typeAssert (.iface 91 v) 79 87 true).run Try.prog w = .ok (.tuple #[.agg #[.float .f32 0, .float .f32 0, .float .f32 0], .bool false]) w := by rfl
set_option maxRecDepth 100000 in
@[go_sem] theorem ta52 (v : Value) (w : World) : (Instr.typeAssert (.iface 91 v) 79 88 true).run Try.prog w = .ok (.tuple #[.agg #[.float .f32 0, .float .f32 0, .float .f32 0], .bool false]) w := by rfl
set_option maxRecDepth 100000 in
@[go_sem] theorem ta53 (v : Value) (w : World) : (Instr.typeAssert (.iface 91 v) 79 89 true).run Try.prog w = .ok (.tuple #[.agg #[.float .f32 0, .float .f32 0, .float .f32 0], .bool false]) w := by rfl
set_option maxRecDepth 100000 in
@[go_sem] theorem ta55 (v : Value) (w : World) : (Instr.typeAssert (.iface 91 v) 79 91 true).run Try.prog w = .ok (.tuple #[v, .bool true]) w := by rfl
set_option maxRecDepth 100000 in
theorem mdl1 (a b c : Nat) : mdl 1 a b c = .iface 87 (.agg #[.float .f32 a, .float .f32 b, .float .f32 c]) := by simp [mdl]
theorem i_modelOf1 (a b c x y : Nat) (w : World) : Calls Try.prog 41 #[(.agg #[.int .i64 1, .float .f32 a, .float .f32 b, .float .f32 c, .float .f32 x, .float .f32 y])] w fun e w' => e = .returned (.iface 87 (.agg #[.float .f32 a, .float .f32 b, .float .f32 c])) ∧ Below w.heap.size w w' := by
  go_enter Try.func41, Try.ntmps41
  go_wp2
  go_ret
  exact ⟨rfl, by repeat' (first | (with_reducible exact Below.refl _ _) | (with_reducible assumption) | (with_reducible refine below_drewN ?_ _) | (with_reducible refine Below.alloc ?_ ?_ _) | (with_reducible refine Below.drew ?_) | (with_reducible refine Below.setCell ?_ ?_ _) | go_size)⟩
set_option maxRecDepth 100000 in
theorem i_sizesOf1 (v : Value) (w : World) : Calls Try.prog 42 #[.iface 87 v] w fun e w' => e = .returned (.tuple #[.int .i64 (cU 1), .int .i64 (sU 1)]) ∧ w = w' := by
  go_enter Try.func42, Try.ntmps42
  go_wp2
  go_ret2
  exact ⟨rfl, rfl⟩
set_option maxRecDepth 100000 in
theorem mdl2 (a b c : Nat) : mdl 2 a b c = .iface 88 (.agg #[.float .f32 a, .float .f32 b, .float .f32 c]) := by simp [mdl]
theorem i_modelOf2 (a b c x y : Nat) (w : World) : Calls Try.prog 41 #[(.agg #[.int .i64 2, .float .f32 a, .float .f32 b, .float .f32 c, .float .f32 x, .float .f32 y])] w fun e w' => e = .returned (.iface 88 (.agg #[.float .f32 a, .float .f32 b, .float .f32 c])) ∧ Below w.heap.size w w' := by
  go_enter Try.func41, Try.ntmps41
  go_wp2
  go_ret
  exact ⟨rfl, by repeat' (first | (with_reducible exact Below.refl _ _) | (with_reducible assumption) | (with_reducible refine below_drewN ?_ _) | (with_reducible refine Below.alloc ?_ ?_ _) | (with_reducible refine Below.drew ?_) | (with_reducible refine Below.setCell ?_ ?_ _) | go_size)⟩
set_option maxRecDepth 100000 in
theorem i_sizesOf2 (v : Value) (w : World) : Calls Try.prog 42 #[.iface 88 v] w fun e w' => e = .returned (.tuple #[.int .i64 (cU 2), .int .i64 (sU 2)]) ∧ w = w' := by
  go_enter Try.func42, Try.ntmps42
  go_wp2
  go_ret2
  exact ⟨rfl, rfl⟩
set_option maxRecDepth 100000 in
theorem mdl3 (a b c : Nat) : mdl 3 a b c = .iface 89 (.agg #[.float .f32 a, .float .f32 b, .float .f32 c]) := by simp [mdl]
theorem i_modelOf3 (a b c x y : Nat) (w : World) : Calls Try.prog 41 #[(.agg #[.int .i64 3, .float .f32 a, .float .f32 b, .float .f32 c, .float .f32 x, .float .f32 y])] w fun e w' => e = .returned (.iface 89 (.agg #[.float .f32 a, .float .f32 b, .float .f32 c])) ∧ Below w.heap.size w w' := by
  go_enter Try.func41, Try.ntmps41
  go_wp2
  go_ret
  exact ⟨rfl, by repeat' (first | (with_reducible exact Below.refl _ _) | (with_reducible assumption) | (with_reducible refine below_drewN ?_ _) | (with_reducible refine Below.alloc ?_ ?_ _) | (with_reducible refine Below.drew ?_) | (with_reducible refine Below.setCell ?_ ?_ _) | go_size)⟩
set_option maxRecDepth 100000 in
theorem i_sizesOf3 (v : Value) (w : World) : Calls Try.prog 42 #[.iface 89 v] w fun e w' => e = .returned (.tuple #[.int .i64 (cU 3), .int .i64 (sU 3)]) ∧ w = w' := by
  go_enter Try.func42, Try.ntmps42
  go_wp2
  go_ret2
  exact ⟨rfl, rfl⟩
set_option maxRecDepth 100000 in
theorem mdl4 (a b c : Nat) : mdl 4 a b c = .iface 90 (.agg #[.float .f32 a, .float .f32 b, .float .f32 c]) := by simp [mdl]
theorem i_modelOf4 (a b c x y : Nat) (w : World) : Calls Try.prog 41 #[(.agg #[.int .i64 4, .float .f32 a, .float .f32 b, .float .f32 c, .float .f32 x, .float .f32 y])] w fun e w' => e = .returned (.iface 90 (.agg #[.float .f32 a, .float .f32 b, .float .f32 c])) ∧ Below w.heap.size w w' := by
  go_enter Try.func41, Try.ntmps41
  go_wp2
  go_ret
  exact ⟨rfl, by repeat' (first | (with_reducible exact Below.refl _ _) | (with_reducible assumption) | (with_reducible refine below_drewN ?_ _) | (with_reducible refine Below.alloc ?_ ?_ _) | (with_reducible refine Below.drew ?_) | (with_reducible refine Below.setCell ?_ ?_ _) | go_size)⟩
set_option maxRecDepth 100000 in
theorem i_sizesOf4 (v : Value) (w : World) : Calls Try.prog 42 #[.iface 90 v] w fun e w' => e = .returned (.tuple #[.int .i64 (cU 4), .int .i64 (sU 4)]) ∧ w = w' := by
  go_enter Try.func42, Try.ntmps42
  go_wp2
  go_ret2
  exact ⟨rfl, rfl⟩
set_option maxRecDepth 100000 in
theorem mdl5 (a b c : Nat) : mdl 5 a b c = .iface 91 (.agg #[.float .f32 a, .float .f32 b, .float .f32 c]) := by simp [mdl]
theorem i_modelOf5 (a b c x y : Nat) (w : World) : Calls Try.prog 41 #[(.agg #[.int .i64 5, .float .f32 a, .float .f32 b, .float .f32 c, .float .f32 x, .float .f32 y])] w fun e w' => e = .returned (.iface 91 (.agg #[.float .f32 a, .float .f32 b, .float .f32 c])) ∧ Below w.heap.size w w' := by
  go_enter Try.func41, Try.ntmps41
  go_wp2
  go_ret
  exact ⟨rfl, by repeat' (first | (with_reducible exact Below.refl _ _) | (with_reducible assumption) | (with_reducible refine below_drewN ?_ _) | (with_reducible refine Below.alloc ?_ ?_ _) | (with_reducible refine Below.drew ?_) | (with_reducible refine Below.setCell ?_ ?_ _) | go_size)⟩
set_option maxRecDepth 100000 in
theorem i_sizesOf5 (v : Value) (w : World) : Calls Try.prog 42 #[.iface 91 v] w fun e w' => e = .returned (.tuple #[.int .i64 (cU 5), .int .i64 (sU 5)]) ∧ w = w' := by
  go_enter Try.func42, Try.ntmps42
  go_wp2
  go_ret2
  exact ⟨rfl, rfl⟩
set_option maxRecDepth 100000 in
theorem mdl_no {k : Int} (h : ¬ (1 ≤ k ∧ k ≤ 5)) (a b c : Nat) : mdl k a b c = .nilIface := by
  unfold mdl
  rw [if_neg (by omega), if_neg (by omega), if_neg (by omega), if_neg (by omega), if_neg (by omega)]
set_option maxRecDepth 100000 in
theorem i_modelOf_no (k : Int) (a b c x y : Nat) (w : World) (h : ¬ (1 ≤ k ∧ k ≤ 5)) : Calls Try.prog 41 #[(.agg #[.int .i64 k, .float .f32 a, .float .f32 b, .float .f32 c, .float .f32 x, .float .f32 y])] w fun e w' => e = .returned .nilIface ∧ Below w.heap.size w w' := by
  have h1 : ((k : Int) == 1) = false := by simp only [beq_eq_false_iff_ne]; omega
  have h2 : ((k : Int) == 2) = false := by simp only [beq_eq_false_iff_ne]; omega
  have h3 : ((k : Int) == 3) = false := by simp only [beq_eq_false_iff_ne]; omega
  have h4 : ((k : Int) == 4) = false := by simp only [beq_eq_false_iff_ne]; omega
  have h5 : ((k : Int) == 5) = false := by simp only [beq_eq_false_iff_ne]; omega
  clear h
  go_enter Try.func41, Try.ntmps41
  go_wp2
  go_ret
  exact ⟨rfl, by repeat' (first | (with_reducible exact Below.refl _ _) | (with_reducible assumption) | (with_reducible refine below_drewN ?_ _) | (with_reducible refine Below.alloc ?_ ?_ _) | (with_reducible refine Below.drew ?_) | (with_reducible refine Below.setCell ?_ ?_ _) | go_size)⟩
set_option maxRecDepth 100000 in
theorem i_modelOf (k : Int) (a b c x y : Nat) (w : World) : Calls Try.prog 41 #[(.agg #[.int .i64 k, .float .f32 a, .float .f32 b, .float .f32 c, .float .f32 x, .float .f32 y])] w fun e w' => e = .returned (mdl k a b c) ∧ Below w.heap.size w w' := by
  by_cases h : 1 ≤ k ∧ k ≤ 5
  · rcases (show k = 1 ∨ k = 2 ∨ k = 3 ∨ k = 4 ∨ k = 5 by omega) with rfl | rfl | rfl | rfl | rfl
    · rw [mdl1]; exact i_modelOf1 a b c x y w
    · rw [mdl2]; exact i_modelOf2 a b c x y w
    · rw [mdl3]; exact i_modelOf3 a b c x y w
    · rw [mdl4]; exact i_modelOf4 a b c x y w
    · rw [mdl5]; exact i_modelOf5 a b c x y w
  · rw [mdl_no h]; exact i_modelOf_no k a b c x y w h
set_option maxRecDepth 100000 in
theorem i_ValidFilter_no (k : Int) (a b c x y : Nat) (w : World) (h : ¬ (1 ≤ k ∧ k ≤ 5)) : Calls Try.prog 29 #[(.agg #[.int .i64 k, .float .f32 a, .float .f32 b, .float .f32 c, .float .f32 x, .float .f32 y])] w fun e w' => e = .returned (.bool false) ∧ Below w.heap.size w w' := by
  go_enter Try.func29, Try.ntmps29
  go_wp2_with (first | (go_at_call 41; refine (i_modelOf_no _ _ _ _ _ _ _ h).mono ?_; rintro e w' ⟨rfl, hb⟩))
  go_ret
  exact ⟨rfl, le_trans (le_alloc w _) hb⟩
set_option maxRecDepth 100000 in
set_option maxHeartbeats 1000000 in
theorem i_ValidFilter1 (a b c x y : Nat) (w : World) (fa : fits .f32 a) (fb : fits .f32 b) (fc : fits .f32 c) (fx : fits .f32 x) (fy : fits .f32 y) : Calls Try.prog 29 #[(.agg #[.int .i64 1, .float .f32 a, .float .f32 b, .float .f32 c, .float .f32 x, .float .f32 y])] w fun e w' => e = .returned (.bool (usedB (tri a b c) 3 (cU 1) && usedB (duo x y) 2 (sU 1))) ∧ Below w.heap.size w w' := by
  have F3 := hid (fits_tri fa fb fc)
  have F2 := hid (fits_duo fx fy)
  clear fa fb fc fx fy
  have F := (Frm.nil w).box 36 (#[.int .i64 1, .float .f32 a, .float .f32 b, .float .f32 c, .float .f32 x, .float .f32 y] : Array Value)
  cases h1 : usedB (tri a b c) 3 (cU 1) <;> cases h2 : usedB (duo x y) 2 (sU 1)
  all_goals
    have H1 := hid h1
    have H2 := hid h2
    clear h1 h2
    go_enter Try.func29, Try.ntmps29
    go_wp2_with (first | (go_at_call 41; refine (i_modelOf1 _ _ _ _ _ _).mono ?_; rintro e w' ⟨rfl, hb⟩; replace F := F.le hb; have R := hid (F.row List.mem_cons_self)) | (go_at_call 42; refine (i_sizesOf1 _ _).mono ?_; rintro e w' ⟨rfl, rfl⟩) | (go_at_call 43; (with_reducible refine (i_areUsed (tri a b c) _ 1 3 (cU 1) _ (by omega) (cU_le _) F3.out (fun i hi => R.out.tri i hi)).mono ?_); rw [H1.out]; rintro e w' ⟨rfl, rfl⟩) | (go_at_call 43; (with_reducible refine (i_areUsed (duo x y) _ 4 2 (sU 1) _ (by omega) (sU_le _) F2.out (fun i hi => R.out.duo i hi)).mono ?_); rw [H2.out]; rintro e w' ⟨rfl, rfl⟩))
    go_ret
    exact ⟨rfl, F.below⟩
set_option maxRecDepth 100000 in
set_option maxHeartbeats 1000000 in
theorem i_ValidFilter2 (a b c x y : Nat) (w : World) (fa : fits .f32 a) (fb : fits .f32 b) (fc : fits .f32 c) (fx : fits .f32 x) (fy : fits .f32 y) : Calls Try.prog 29 #[(.agg #[.int .i64 2, .float .f32 a, .float .f32 b, .float .f32 c, .float .f32 x, .float .f32 y])] w fun e w' => e = .returned (.bool (usedB (tri a b c) 3 (cU 2) && usedB (duo x y) 2 (sU 2))) ∧ Below w.heap.size w w' := by
  have F3 := hid (fits_tri fa fb fc)
  have F2 := hid (fits_duo fx fy)
  clear fa fb fc fx fy
  have F := (Frm.nil w).box 36 (#[.int .i64 2, .float .f32 a, .float .f32 b, .float .f32 c, .float .f32 x, .float .f32 y] : Array Value)
  cases h1 : usedB (tri a b c) 3 (cU 2) <;> cases h2 : usedB (duo x y) 2 (sU 2)
  all_goals
    have H1 := hid h1
    have H2 := hid h2
    clear h1 h2
    go_enter Try.func29, Try.ntmps29
    go_wp2_with (first | (go_at_call 41; refine (i_modelOf2 _ _ _ _ _ _).mono ?_; rintro e w' ⟨rfl, hb⟩; replace F := F.le hb; have R := hid (F.row List.mem_cons_self)) | (go_at_call 42; refine (i_sizesOf2 _ _).mono ?_; rintro e w' ⟨rfl, rfl⟩) | (go_at_call 43; (with_reducible refine (i_areUsed (tri a b c) _ 1 3 (cU 2) _ (by omega) (cU_le _) F3.out (fun i hi => R.out.tri i hi)).mono ?_); rw [H1.out]; rintro e w' ⟨rfl, rfl⟩) | (go_at_call 43; (with_reducible refine (i_areUsed (duo x y) _ 4 2 (sU 2) _ (by omega) (sU_le _) F2.out (fun i hi => R.out.duo i hi)).mono ?_); rw [H2.out]; rintro e w' ⟨rfl, rfl⟩))
    go_ret
    exact ⟨rfl, F.below⟩
set_option maxRecDepth 100000 in
set_option maxHeartbeats 1000000 in
theorem i_ValidFilter3 (a b c x y : Nat) (w : World) (fa : fits .f32 a) (fb : fits .f32 b) (fc : fits .f32 c) (fx : fits .f32 x) (fy : fits .f32 y) : Calls Try.prog 29 #[(.agg #[.int .i64 3, .float .f32 a, .float .f32 b, .float .f32 c, .float .f32 x, .float .f32 y])] w fun e w' => e = .returned (.bool (usedB (tri a b c) 3 (cU 3) && usedB (duo x y) 2 (sU 3))) ∧ Below w.heap.size w w' := by
  have F3 := hid (fits_tri fa fb fc)
  have F2 := hid (fits_duo fx fy)
  clear fa fb fc fx fy
  have F := (Frm.nil w).box 36 (#[.int .i64 3, .float .f32 a, .float .f32 b, .float .f32 c, .float .f32 x, .float .f32 y] : Array Value)
  cases h1 : usedB (tri a b c) 3 (cU 3) <;> cases h2 : usedB (duo x y) 2 (sU 3)
  all_goals
    have H1 := hid h1
    have H2 := hid h2
    clear h1 h2
    go_enter Try.func29, Try.ntmps29
    go_wp2_with (first | (go_at_call 41; refine (i_modelOf3 _ _ _ _ _ _).mono ?_; rintro e w' ⟨rfl, hb⟩; replace F := F.le hb; have R := hid (F.row List.mem_cons_self)) | (go_at_call 42; refine (i_sizesOf3 _ _).mono ?_; rintro e w' ⟨rfl, rfl⟩) | (go_at_call 43; (with_reducible refine (i_areUsed (tri a b c) _ 1 3 (cU 3) _ (by omega) (cU_le _) F3.out (fun i hi => R.out.tri i hi)).mono ?_); rw [H1.out]; rintro e w' ⟨rfl, rfl⟩) | (go_at_call 43; (with_reducible refine (i_areUsed (duo x y) _ 4 2 (sU 3) _ (by omega) (sU_le _) F2.out (fun i hi => R.out.duo i hi)).mono ?_); rw [H2.out]; rintro e w' ⟨rfl, rfl⟩))
    go_ret
    exact ⟨rfl, F.below⟩
set_option maxRecDepth 100000 in
set_option maxHeartbeats 1000000 in
theorem i_ValidFilter4 (a b c x y : Nat) (w : World) (fa : fits .f32 a) (fb : fits .f32 b) (fc : fits .f32 c) (fx : fits .f32 x) (fy : fits .f32 y) : Calls Try.prog 29 #[(.agg #[.int .i64 4, .float .f32 a, .float .f32 b, .float .f32 c, .float .f32 x, .float .f32 y])] w fun e w' => e = .returned (.bool (usedB (tri a b c) 3 (cU 4) && usedB (duo x y) 2 (sU 4))) ∧ Below w.heap.size w w' := by
  have F3 := hid (fits_tri fa fb fc)
  have F2 := hid (fits_duo fx fy)
  clear fa fb fc fx fy
  have F := (Frm.nil w).box 36 (#[.int .i64 4, .float .f32 a, .float .f32 b, .float .f32 c, .float .f32 x, .float .f32 y] : Array Value)
  cases h1 : usedB (tri a b c) 3 (cU 4) <;> cases h2 : usedB (duo x y) 2 (sU 4)
  all_goals
    have H1 := hid h1
    have H2 := hid h2
    clear h1 h2
    go_enter Try.func29, Try.ntmps29
    go_wp2_with (first | (go_at_call 41; refine (i_modelOf4 _ _ _ _ _ _).mono ?_; rintro e w' ⟨rfl, hb⟩; replace F := F.le hb; have R := hid (F.row List.mem_cons_self)) | (go_at_call 42; refine (i_sizesOf4 _ _).mono ?_; rintro e w' ⟨rfl, rfl⟩) | (go_at_call 43; (with_reducible refine (i_areUsed (tri a b c) _ 1 3 (cU 4) _ (by omega) (cU_le _) F3.out (fun i hi => R.out.tri i hi)).mono ?_); rw [H1.out]; rintro e w' ⟨rfl, rfl⟩) | (go_at_call 43; (with_reducible refine (i_areUsed (duo x y) _ 4 2 (sU 4) _ (by omega) (sU_le _) F2.out (fun i hi => R.out.duo i hi)).mono ?_); rw [H2.out]; rintro e w' ⟨rfl, rfl⟩))
    go_ret
    exact ⟨rfl, F.below⟩
set_option maxRecDepth 100000 in
set_option maxHeartbeats 1000000 in
theorem i_ValidFilter5 (a b c x y : Nat) (w : World) (fa : fits .f32 a) (fb : fits .f32 b) (fc : fits .f32 c) (fx : fits .f32 x) (fy : fits .f32 y) : Calls Try.prog 29 #[(.agg #[.int .i64 5, .float .f32 a, .float .f32 b, .float .f32 c, .float .f32 x, .float .f32 y])] w fun e w' => e = .returned (.bool (usedB (tri a b c) 3 (cU 5) && usedB (duo x y) 2 (sU 5))) ∧ Below w.heap.size w w' := by
  have F3 := hid (fits_tri fa fb fc)
  have F2 := hid (fits_duo fx fy)
  clear fa fb fc fx fy
  have F := (Frm.nil w).box 36 (#[.int .i64 5, .float .f32 a, .float .f32 b, .float .f32 c, .float .f32 x, .float .f32 y] : Array Value)
  cases h1 : usedB (tri a b c) 3 (cU 5) <;> cases h2 : usedB (duo x y) 2 (sU 5)
  all_goals
    have H1 := hid h1
    have H2 := hid h2
    clear h1 h2
    go_enter Try.func29, Try.ntmps29
    go_wp2_with (first | (go_at_call 41; refine (i_modelOf5 _ _ _ _ _ _).mono ?_; rintro e w' ⟨rfl, hb⟩; replace F := F.le hb; have R := hid (F.row List.mem_cons_self)) | (go_at_call 42; refine (i_sizesOf5 _ _).mono ?_; rintro e w' ⟨rfl, rfl⟩) | (go_at_call 43; (with_reducible refine (i_areUsed (tri a b c) _ 1 3 (cU 5) _ (by omega) (cU_le _) F3.out (fun i hi => R.out.tri i hi)).mono ?_); rw [H1.out]; rintro e w' ⟨rfl, rfl⟩) | (go_at_call 43; (with_reducible refine (i_areUsed (duo x y) _ 4 2 (sU 5) _ (by omega) (sU_le _) F2.out (fun i hi => R.out.duo i hi)).mono ?_); rw [H2.out]; rintro e w' ⟨rfl, rfl⟩))
    go_ret
    exact ⟨rfl, F.below⟩
set_option maxRecDepth 100000 in
theorem i_ValidFilter (k : Int) (a b c x y : Nat) (w : World) (hf : fits .f32 a ∧ fits .f32 b ∧ fits .f32 c ∧ fits .f32 x ∧ fits .f32 y) : Calls Try.prog 29 #[(.agg #[.int .i64 k, .float .f32 a, .float .f32 b, .float .f32 c, .float .f32 x, .float .f32 y])] w fun e w' => e = .returned (.bool (okF k a b c x y)) ∧ Below w.heap.size w w' := by
  obtain ⟨fa, fb, fc, fx, fy⟩ := hf
  by_cases h : 1 ≤ k ∧ k ≤ 5
  · have E : okF k a b c x y = (usedB (tri a b c) 3 (cU k) && usedB (duo x y) 2 (sU k)) := by simp [okF, h.1, h.2]
    rw [E]
    rcases (show k = 1 ∨ k = 2 ∨ k = 3 ∨ k = 4 ∨ k = 5 by omega) with rfl | rfl | rfl | rfl | rfl
    · exact i_ValidFilter1 a b c x y w fa fb fc fx fy
    · exact i_ValidFilter2 a b c x y w fa fb fc fx fy
    · exact i_ValidFilter3 a b c x y w fa fb fc fx fy
    · exact i_ValidFilter4 a b c x y w fa fb fc fx fy
    · exact i_ValidFilter5 a b c x y w fa fb fc fx fy
  · rw [okF_out h]; exact i_ValidFilter_no k a b c x y w h
end Go.Proofs.Ytappbiijmjjpaad

/- Steps of a region that draws its order: guarded operations, loads of one cell, addresses of elements, new rows, lengths. Nothing here names a program. -/
namespace Go.Fk
open Go Go.RowKit
section
variable {E : Ext} {P : Program} {ops : Array Oper} {W : World} {K : FuncId → Array Value → World → Value → Prop} {Q : Act → World → Prop} {F : Facts} {k : Nat} {o : Oper} {rest : List Oper} {a : Act}
theorem wpFreeD_oneW (hw : Region.wanted o (yielded ops a.tmps) = true) (v : Value) (hr : ∀ w, E.R W w → (execOp a.eval o).run P w = .ok (.value v) w)
    (h : wpFreeD E P ops .any W K Q rest (k + 1) (a.put o.dst v) (F.with k (fun _ => True))) : wpFreeD E P ops .any W K Q (o :: rest) k a F := by
  refine ⟨fun _ u => u = v, ⟨fun _ _ _ _ h => h, .inl ⟨hw, fun w hw _ => ?_⟩⟩, fun u hu => ?_⟩
  · rw [hr w hw]; exact ⟨E.refl w, rfl⟩
  · obtain ⟨w, _, _, rfl⟩ := hu
    exact wpFreeD_weaken _ _ _ _ _ (fun e w h => ⟨h.1, fun _ => trivial⟩) h
theorem wpFreeD_skip (hw : Region.wanted o (yielded ops a.tmps) = false)
    (h : wpFreeD E P ops .any W K Q rest (k + 1) (a.put o.dst undef) (F.with k (fun _ => True))) : wpFreeD E P ops .any W K Q (o :: rest) k a F := by
  refine ⟨fun _ u => u = undef, ⟨fun _ _ _ _ h => h, .inr ⟨hw, fun w _ _ => rfl⟩⟩, fun u hu => ?_⟩
  obtain ⟨w, _, _, rfl⟩ := hu
  exact wpFreeD_weaken _ _ _ _ _ (fun e w h => ⟨h.1, fun _ => trivial⟩) h
theorem wpFreeD_callW (hw : Region.wanted o (yielded ops a.tmps) = true) {f : FuncId} {xs : Array Operand} {ts : Array TypeId} (hop : o.op = Op.call { callee := Callee.value (Operand.func f), args := xs, argTypes := ts }) {fn : Func} (hf : P.funcs[f]? = some fn)
    (hb : fn.body.isNone = false) (hn : (fn.name == "runtime.NumGoroutine") = false) {args : Array Value} (ha : xs.map a.eval = args) (hm : MonoT E (K f args))
    (h1 : ∀ w, E.R W w → behind .any o F w → Calls P f args w (fun e w' => ∃ v, e = .returned v ∧ le w w' ∧ K f args w' v)) (h2 : ∀ v, (∃ w, E.R W w ∧ (∀ e, F e w) ∧ K f args w v) → wpFreeD E P ops .any W K Q rest (k + 1) (a.put o.dst v) (F.with k (fun w => K f args w v))) : wpFreeD E P ops .any W K Q (o :: rest) k a F := by
  refine ⟨K f args, ⟨hm, .inl ⟨hw, fun w hw hbe => ?_⟩⟩, fun v hv => h2 v hv⟩
  rw [run_enter hop hf hb hn ha]
  refine ⟨E.refl w, (h1 w hw hbe).mono ?_, fun _ _ h => h⟩
  rintro e w' ⟨v, rfl, hl, hk⟩
  exact ⟨v, rfl, E.of_le hl, hk⟩
theorem wpFreeD_madeW (hwt : Region.wanted o (yielded ops a.tmps) = true) (f : Nat → Value) (t : TypeId) (cs : Array Value) (hr : ∀ w, (execOp a.eval o).run P w = .ok (.value (f w.heap.size)) (w.alloc (.cells cs t)))
    (h : ∀ b, wpFreeD leX P ops .any W K Q rest (k + 1) (a.put o.dst (f b)) (F.with k (fun w => ∃ b', f b = f b' ∧ Row w b' t cs))) : wpFreeD leX P ops .any W K Q (o :: rest) k a F := by
  refine ⟨fun w v => ∃ b', v = f b' ∧ Row w b' t cs, ⟨fun v w w' hw hv => ?_, .inl ⟨hwt, fun w hw _ => ?_⟩⟩, fun v hv => ?_⟩
  · obtain ⟨b', e, hrow⟩ := hv
    exact ⟨b', e, hrow.le hw⟩
  · rw [hr w]
    exact ⟨le_alloc w _, w.heap.size, rfl, Row.new w t cs⟩
  · obtain ⟨w, _, _, b, rfl, _⟩ := hv
    exact h b
theorem wpFreeD_load1 (hg : o.guard = none) {ty : TypeId} {x : Operand} (hop : o.op = .load ty x) {p : Addr} (hx : a.eval x = .pointer (some p)) {v : Value} (hv : ∀ w, E.R W w → w.cell? p = some v) (hu : ∀ w, (isAgg ty).run P w = .ok false w)
    (h : wpFreeD E P ops .any W K Q rest (k + 1) (a.put o.dst v) (F.with k (fun _ => True))) : wpFreeD E P ops .any W K Q (o :: rest) k a F := by
  refine wpFreeD_one hg v (fun w hw => ?_) h
  have hl : (Instr.loadAt ty (.pointer (some p))).run P w = .ok v w := by
    simp [Instr.loadAt, Instr.sureAddr, loadVar, hu, hv w hw]
  simp [execOp, hop, hx, hl, Result.andThen]
theorem wpFreeD_load1W (hw : Region.wanted o (yielded ops a.tmps) = true) {ty : TypeId} {x : Operand} (hop : o.op = .load ty x) {p : Addr} (hx : a.eval x = .pointer (some p)) {v : Value} (hv : ∀ w, E.R W w → w.cell? p = some v) (hu : ∀ w, (isAgg ty).run P w = .ok false w)
    (h : wpFreeD E P ops .any W K Q rest (k + 1) (a.put o.dst v) (F.with k (fun _ => True))) : wpFreeD E P ops .any W K Q (o :: rest) k a F := by
  refine wpFreeD_oneW hw v (fun w hw => ?_) h
  have hl : (Instr.loadAt ty (.pointer (some p))).run P w = .ok v w := by
    simp [Instr.loadAt, Instr.sureAddr, loadVar, hu, hv w hw]
  simp [execOp, hop, hx, hl, Result.andThen]
theorem wpFreeD_indexW0 (hg : o.guard = none) {t : TypeId} {x y : Operand} (hop : o.op = .indexAddr t x y) {b off n cap sz i : Nat} {kk : IntKind} {e : TypeId} (hx : a.eval x = .slice (some ⟨b, off, none⟩) n cap) (hy : a.eval y = .int kk (i : Int)) (hu : P.underlying t = some (.slice e)) (hs : (P.info? e).map (·.size) = some sz) (hi : i < n)
    (h : wpFreeD E P ops .any W K Q rest (k + 1) (a.put o.dst (.pointer (some ⟨b, off + i * sz, none⟩))) (F.with k (fun _ => True))) : wpFreeD E P ops .any W K Q (o :: rest) k a F :=
  wpFreeD_indexW hg hop hx hy hu hs hi (by rw [add_none]; exact h)
theorem wpFreeD_lenR (hg : o.guard = none) {x : Operand} {t : TypeId} (hop : o.op = Op.call { callee := Callee.builtin Builtin.len, args := #[x], argTypes := #[t] }) {v : Value} (hx : a.eval x = v) {e : TypeId} (hu : P.underlying t = some (.slice e)) {w1 : World} {B : Nat} {y : Nat → Nat} {n : Nat} (hv : RdS w1 B v y n)
    (h : wpFreeD E P ops .any W K Q rest (k + 1) (a.put o.dst (.int .i64 n)) (F.with k (fun _ => True))) : wpFreeD E P ops .any W K Q (o :: rest) k a F := by
  refine wpFreeD_one hg (.int .i64 n) (fun w _ => ?_) h
  rcases hv.form with ⟨rfl, rfl⟩ | ⟨ad, cap, rfl, _, _⟩
  all_goals
    simp [execOp, hop, hx, Result.andThen, resolve, invoke, builtin, Builtin.len_, run_underlying hu]
    try rfl
end
end Go.Fk

/- 'ValidPipe' of both. -/
namespace Go.Fk
open Go Go.RowKit
/-- Is a pipe valid? -/
def okP (nR nL nS : Nat) (xR xL : Nat → CD) (yS : Nat → Nat) (k : Int) (a b c x y l r s : Nat) : Bool := decide (1 ≤ nR) && decide (nR ≤ 3) && (nL == nR) && (nS + 1 == nR) && (k == 1) && okF k a b c x y && fin l && fin r && fin s && scB yS nS && allB (secOk xR xL) nR
theorem okP_sec {nR nL nS : Nat} {xR xL : Nat → CD} {yS : Nat → Nat} {k : Int} {a b c x y l r s : Nat} (h : allB (secOk xR xL) nR = false) : okP nR nL nS xR xL yS k a b c x y l r s = false := by unfold okP; rw [h, Bool.and_false]
end Go.Fk
namespace Go.Proofs.Ytappbiijmjjpaad
open Go.RowKit Go.Fk
set_option maxRecDepth 100000 in
set_option maxHeartbeats 4000000 in
theorem i_ValidPipe (B : Nat) (v0 v1 v2 : Value) (nR nL nS : Nat) (xR xL : Nat → CD) (yS : Nat → Nat) (k : Int) (a b c x y : Nat) (op : Bool) (l r s : Nat) (w : World) (h0 : (CD.sl 2 nR xR).RdN w B v0) (h1 : (CD.sl 2 nL xL).RdN w B v1) (h2 : RdS w B v2 yS nS) (p0 : RgsOk xR nR) (p1 : RgsOk xL nL) (hf : fits .f32 a ∧ fits .f32 b ∧ fits .f32 c ∧ fits .f32 x ∧ fits .f32 y) (hg : fits .f32 l ∧ fits .f32 r ∧ fits .f32 s) :
    Calls Try.prog 16 #[.agg #[v0, v1, v2, .int .i64 k, .float .f32 a, .float .f32 b, .float .f32 c, .float .f32 x, .float .f32 y, .bool op, .float .f32 l, .float .f32 r, .float .f32 s]] w (Out_b (okP nR nL nS xR xL yS k a b c x y l r s) w) := by
  have L0 := hid h0.rd; have L1 := hid h1.rd; have L2 := hid h2
  have F := (Frg.nil w).box 38 #[v0, v1, v2, .int .i64 k, .float .f32 a, .float .f32 b, .float .f32 c, .float .f32 x, .float .f32 y, .bool op, .float .f32 l, .float .f32 r, .float .f32 s]
  have HV := hid (fun w' => i_ValidFilter k a b c x y w' hf)
  have HL := hid (fun w' => i_isFinite l w' hg.1)
  have HR := hid (fun w' => i_isFinite r w' hg.2.1)
  have HS := hid (fun w' => i_isFinite s w' hg.2.2)
  have HC := hid (fun (w' : World) (hl : le w w') => i_areScatters B v2 yS nS w' (h2.le hl))
  have S0 := h0.rd.small; have S1 := h1.rd.small; have S2 := h2.small
  clear hf hg h2
  by_cases g1 : nR < 1
  · have E : okP nR nL nS xR xL yS k a b c x y l r s = false := by unfold okP; rw [decide_eq_false (by omega)]; rfl
    have q1 : (nR : Int) < 1 := by omega
    rw [E]
    clear E h0 h1 p0 p1
    go_enter Try.func16, Try.ntmps16
    go_wp2_with (first | ((with_reducible refine listN F ?_); clear F; intro wN F) | ((with_reducible refine at_load rfl ?_); first | (with_reducible refine wpList_load1 F rfl rfl rfl (by first | exact m0) (f := 0) (v := v0) rfl ukindRingSI ?_) | (with_reducible refine wpList_load1 F rfl rfl rfl (by first | exact m0) (f := 1) (v := v1) rfl ukindRingSI ?_) | (with_reducible refine wpList_load1 F rfl rfl rfl (by first | exact m0) (f := 2) (v := v2) rfl ukindFloat32S ?_) | (with_reducible refine wpList_loadGP F rfl rfl rfl (by first | exact m0) Try.underlying36 rfl [.int .i64 k, .float .f32 a, .float .f32 b, .float .f32 c, .float .f32 x, .float .f32 y] (partPipe_End (v0) (v1) (v2) (.int .i64 k) (.float .f32 a) (.float .f32 b) (.float .f32 c) (.float .f32 x) (.float .f32 y) (.bool op) (.float .f32 l) (.float .f32 r) (.float .f32 s)) uinfoFilterI rfl ?_) | (with_reducible refine wpList_load1 F rfl rfl rfl (by first | exact m0) (f := 9) (v := .bool op) rfl ukindBool ?_) | (with_reducible refine wpList_load1 F rfl rfl rfl (by first | exact m0) (f := 10) (v := .float .f32 l) rfl ukindFloat32 ?_) | (with_reducible refine wpList_load1 F rfl rfl rfl (by first | exact m0) (f := 11) (v := .float .f32 r) rfl ukindFloat32 ?_) | (with_reducible refine wpList_load1 F rfl rfl rfl (by first | exact m0) (f := 12) (v := .float .f32 s) rfl ukindFloat32 ?_) | (with_reducible refine wpList_load1 F rfl rfl rfl m0 (f := 3) (v := .int .i64 k) rfl ukindInt64 ?_)) | (with_reducible refine wpList_lenC rfl rfl rfl Try.underlying35 L0.out ?_) | (with_reducible refine wpList_lenC rfl rfl rfl Try.underlying35 L1.out ?_) | (with_reducible refine wpList_lenR rfl rfl rfl Try.underlying23 L2.out ?_))
    go_ret
    exact ⟨rfl, F.below⟩
  have q1 : ¬ (nR : Int) < 1 := by omega
  by_cases g2 : 3 < nR
  · have E : okP nR nL nS xR xL yS k a b c x y l r s = false := by unfold okP; rw [decide_eq_false (p := nR ≤ 3) (by omega), Bool.and_false]; rfl
    have q2 : (3 : Int) < nR := by omega
    rw [E]
    clear E h0 h1 p0 p1
    go_enter Try.func16, Try.ntmps16
    go_wp2_with (first | ((with_reducible refine listN F ?_); clear F; intro wN F) | ((with_reducible refine at_load rfl ?_); first | (with_reducible refine wpList_load1 F rfl rfl rfl (by first | exact m0) (f := 0) (v := v0) rfl ukindRingSI ?_) | (with_reducible refine wpList_load1 F rfl rfl rfl (by first | exact m0) (f := 1) (v := v1) rfl ukindRingSI ?_) | (with_reducible refine wpList_load1 F rfl rfl rfl (by first | exact m0) (f := 2) (v := v2) rfl ukindFloat32S ?_) | (with_reducible refine wpList_loadGP F rfl rfl rfl (by first | exact m0) Try.underlying36 rfl [.int .i64 k, .float .f32 a, .float .f32 b, .float .f32 c, .float .f32 x, .float .f32 y] (partPipe_End (v0) (v1) (v2) (.int .i64 k) (.float .f32 a) (.float .f32 b) (.float .f32 c) (.float .f32 x) (.float .f32 y) (.bool op) (.float .f32 l) (.float .f32 r) (.float .f32 s)) uinfoFilterI rfl ?_) | (with_reducible refine wpList_load1 F rfl rfl rfl (by first | exact m0) (f := 9) (v := .bool op) rfl ukindBool ?_) | (with_reducible refine wpList_load1 F rfl rfl rfl (by first | exact m0) (f := 10) (v := .float .f32 l) rfl ukindFloat32 ?_) | (with_reducible refine wpList_load1 F rfl rfl rfl (by first | exact m0) (f := 11) (v := .float .f32 r) rfl ukindFloat32 ?_) | (with_reducible refine wpList_load1 F rfl rfl rfl (by first | exact m0) (f := 12) (v := .float .f32 s) rfl ukindFloat32 ?_) | (with_reducible refine wpList_load1 F rfl rfl rfl m0 (f := 3) (v := .int .i64 k) rfl ukindInt64 ?_)) | (with_reducible refine wpList_lenC rfl rfl rfl Try.underlying35 L0.out ?_) | (with_reducible refine wpList_lenC rfl rfl rfl Try.underlying35 L1.out ?_) | (with_reducible refine wpList_lenR rfl rfl rfl Try.underlying23 L2.out ?_))
    go_ret
    exact ⟨rfl, F.below⟩
  have q2 : ¬ (3 : Int) < nR := by omega
  cases g3 : (nL == nR)
  · have E : okP nR nL nS xR xL yS k a b c x y l r s = false := by unfold okP; rw [g3]; simp
    have q3 : (((nL : Nat) : Int) != ((nR : Nat) : Int)) = true := by simp only [beq_eq_false_iff_ne] at g3; simp; omega
    rw [E]
    clear E h0 h1 p0 p1 g3
    go_enter Try.func16, Try.ntmps16
    go_wp2_with (first | ((with_reducible refine listN F ?_); clear F; intro wN F) | ((with_reducible refine at_load rfl ?_); first | (with_reducible refine wpList_load1 F rfl rfl rfl (by first | exact m0) (f := 0) (v := v0) rfl ukindRingSI ?_) | (with_reducible refine wpList_load1 F rfl rfl rfl (by first | exact m0) (f := 1) (v := v1) rfl ukindRingSI ?_) | (with_reducible refine wpList_load1 F rfl rfl rfl (by first | exact m0) (f := 2) (v := v2) rfl ukindFloat32S ?_) | (with_reducible refine wpList_loadGP F rfl rfl rfl (by first | exact m0) Try.underlying36 rfl [.int .i64 k, .float .f32 a, .float .f32 b, .float .f32 c, .float .f32 x, .float .f32 y] (partPipe_End (v0) (v1) (v2) (.int .i64 k) (.float .f32 a) (.float .f32 b) (.float .f32 c) (.float .f32 x) (.float .f32 y) (.bool op) (.float .f32 l) (.float .f32 r) (.float .f32 s)) uinfoFilterI rfl ?_) | (with_reducible refine wpList_load1 F rfl rfl rfl (by first | exact m0) (f := 9) (v := .bool op) rfl ukindBool ?_) | (with_reducible refine wpList_load1 F rfl rfl rfl (by first | exact m0) (f := 10) (v := .float .f32 l) rfl ukindFloat32 ?_) | (with_reducible refine wpList_load1 F rfl rfl rfl (by first | exact m0) (f := 11) (v := .float .f32 r) rfl ukindFloat32 ?_) | (with_reducible refine wpList_load1 F rfl rfl rfl (by first | exact m0) (f := 12) (v := .float .f32 s) rfl ukindFloat32 ?_) | (with_reducible refine wpList_load1 F rfl rfl rfl m0 (f := 3) (v := .int .i64 k) rfl ukindInt64 ?_)) | (with_reducible refine wpList_lenC rfl rfl rfl Try.underlying35 L0.out ?_) | (with_reducible refine wpList_lenC rfl rfl rfl Try.underlying35 L1.out ?_) | (with_reducible refine wpList_lenR rfl rfl rfl Try.underlying23 L2.out ?_))
    go_ret
    exact ⟨rfl, F.below⟩
  obtain rfl : nL = nR := by simpa using g3
  have q3 : (((nL : Nat) : Int) != ((nL : Nat) : Int)) = false := by simp
  clear g3
  cases g4 : (nS + 1 == nL)
  · have E : okP nL nL nS xR xL yS k a b c x y l r s = false := by unfold okP; rw [g4]; simp
    have q4 : (((nS : Nat) : Int) != ((nL : Nat) : Int) - 1) = true := by simp only [beq_eq_false_iff_ne] at g4; simp; omega
    rw [E]
    clear E h0 h1 p0 p1 g4
    go_enter Try.func16, Try.ntmps16
    go_wp2_with (first | ((with_reducible refine listN F ?_); clear F; intro wN F) | ((with_reducible refine at_load rfl ?_); first | (with_reducible refine wpList_load1 F rfl rfl rfl (by first | exact m0) (f := 0) (v := v0) rfl ukindRingSI ?_) | (with_reducible refine wpList_load1 F rfl rfl rfl (by first | exact m0) (f := 1) (v := v1) rfl ukindRingSI ?_) | (with_reducible refine wpList_load1 F rfl rfl rfl (by first | exact m0) (f := 2) (v := v2) rfl ukindFloat32S ?_) | (with_reducible refine wpList_loadGP F rfl rfl rfl (by first | exact m0) Try.underlying36 rfl [.int .i64 k, .float .f32 a, .float .f32 b, .float .f32 c, .float .f32 x, .float .f32 y] (partPipe_End (v0) (v1) (v2) (.int .i64 k) (.float .f32 a) (.float .f32 b) (.float .f32 c) (.float .f32 x) (.float .f32 y) (.bool op) (.float .f32 l) (.float .f32 r) (.float .f32 s)) uinfoFilterI rfl ?_) | (with_reducible refine wpList_load1 F rfl rfl rfl (by first | exact m0) (f := 9) (v := .bool op) rfl ukindBool ?_) | (with_reducible refine wpList_load1 F rfl rfl rfl (by first | exact m0) (f := 10) (v := .float .f32 l) rfl ukindFloat32 ?_) | (with_reducible refine wpList_load1 F rfl rfl rfl (by first | exact m0) (f := 11) (v := .float .f32 r) rfl ukindFloat32 ?_) | (with_reducible refine wpList_load1 F rfl rfl rfl (by first | exact m0) (f := 12) (v := .float .f32 s) rfl ukindFloat32 ?_) | (with_reducible refine wpList_load1 F rfl rfl rfl m0 (f := 3) (v := .int .i64 k) rfl ukindInt64 ?_)) | (with_reducible refine wpList_lenC rfl rfl rfl Try.underlying35 L0.out ?_) | (with_reducible refine wpList_lenC rfl rfl rfl Try.underlying35 L1.out ?_) | (with_reducible refine wpList_lenR rfl rfl rfl Try.underlying23 L2.out ?_))
    go_ret
    exact ⟨rfl, F.below⟩
  have q4 : (((nS : Nat) : Int) != ((nL : Nat) : Int) - 1) = false := by simp only [beq_iff_eq] at g4; simp; omega
  have G4 := hid g4; clear g4
  cases g5 : (k == 1)
  · have E : okP nL nL nS xR xL yS k a b c x y l r s = false := by unfold okP; rw [g5]; simp
    have q5 : (k != 1) = true := by rw [bne, g5]; rfl
    rw [E]
    clear E h0 h1 p0 p1 g5
    go_enter Try.func16, Try.ntmps16
    go_wp2_with (first | ((with_reducible refine listN F ?_); clear F; intro wN F) | ((with_reducible refine at_load rfl ?_); first | (with_reducible refine wpList_load1 F rfl rfl rfl (by first | exact m0) (f := 0) (v := v0) rfl ukindRingSI ?_) | (with_reducible refine wpList_load1 F rfl rfl rfl (by first | exact m0) (f := 1) (v := v1) rfl ukindRingSI ?_) | (with_reducible refine wpList_load1 F rfl rfl rfl (by first | exact m0) (f := 2) (v := v2) rfl ukindFloat32S ?_) | (with_reducible refine wpList_loadGP F rfl rfl rfl (by first | exact m0) Try.underlying36 rfl [.int .i64 k, .float .f32 a, .float .f32 b, .float .f32 c, .float .f32 x, .float .f32 y] (partPipe_End (v0) (v1) (v2) (.int .i64 k) (.float .f32 a) (.float .f32 b) (.float .f32 c) (.float .f32 x) (.float .f32 y) (.bool op) (.float .f32 l) (.float .f32 r) (.float .f32 s)) uinfoFilterI rfl ?_) | (with_reducible refine wpList_load1 F rfl rfl rfl (by first | exact m0) (f := 9) (v := .bool op) rfl ukindBool ?_) | (with_reducible refine wpList_load1 F rfl rfl rfl (by first | exact m0) (f := 10) (v := .float .f32 l) rfl ukindFloat32 ?_) | (with_reducible refine wpList_load1 F rfl rfl rfl (by first | exact m0) (f := 11) (v := .float .f32 r) rfl ukindFloat32 ?_) | (with_reducible refine wpList_load1 F rfl rfl rfl (by first | exact m0) (f := 12) (v := .float .f32 s) rfl ukindFloat32 ?_) | (with_reducible refine wpList_load1 F rfl rfl rfl m0 (f := 3) (v := .int .i64 k) rfl ukindInt64 ?_)) | (with_reducible refine wpList_lenC rfl rfl rfl Try.underlying35 L0.out ?_) | (with_reducible refine wpList_lenC rfl rfl rfl Try.underlying35 L1.out ?_) | (with_reducible refine wpList_lenR rfl rfl rfl Try.underlying23 L2.out ?_))
    go_ret
    exact ⟨rfl, F.below⟩
  have q5 : (k != 1) = false := by rw [bne, g5]; rfl
  have G5 := hid g5; clear g5
  cases g6 : okF k a b c x y
  · have E : okP nL nL nS xR xL yS k a b c x y l r s = false := by unfold okP; rw [g6]; simp
    rw [g6] at HV
    rw [E]
    clear E h0 h1 p0 p1 g6
    go_enter Try.func16, Try.ntmps16
    go_wp2_with (first | ((with_reducible refine listN F ?_); clear F; intro wN F) | ((with_reducible refine at_load rfl ?_); first | (with_reducible refine wpList_load1 F rfl rfl rfl (by first | exact m0) (f := 0) (v := v0) rfl ukindRingSI ?_) | (with_reducible refine wpList_load1 F rfl rfl rfl (by first | exact m0) (f := 1) (v := v1) rfl ukindRingSI ?_) | (with_reducible refine wpList_load1 F rfl rfl rfl (by first | exact m0) (f := 2) (v := v2) rfl ukindFloat32S ?_) | (with_reducible refine wpList_loadGP F rfl rfl rfl (by first | exact m0) Try.underlying36 rfl [.int .i64 k, .float .f32 a, .float .f32 b, .float .f32 c, .float .f32 x, .float .f32 y] (partPipe_End (v0) (v1) (v2) (.int .i64 k) (.float .f32 a) (.float .f32 b) (.float .f32 c) (.float .f32 x) (.float .f32 y) (.bool op) (.float .f32 l) (.float .f32 r) (.float .f32 s)) uinfoFilterI rfl ?_) | (with_reducible refine wpList_load1 F rfl rfl rfl (by first | exact m0) (f := 9) (v := .bool op) rfl ukindBool ?_) | (with_reducible refine wpList_load1 F rfl rfl rfl (by first | exact m0) (f := 10) (v := .float .f32 l) rfl ukindFloat32 ?_) | (with_reducible refine wpList_load1 F rfl rfl rfl (by first | exact m0) (f := 11) (v := .float .f32 r) rfl ukindFloat32 ?_) | (with_reducible refine wpList_load1 F rfl rfl rfl (by first | exact m0) (f := 12) (v := .float .f32 s) rfl ukindFloat32 ?_) | (with_reducible refine wpList_load1 F rfl rfl rfl m0 (f := 3) (v := .int .i64 k) rfl ukindInt64 ?_)) | (with_reducible refine wpList_lenC rfl rfl rfl Try.underlying35 L0.out ?_) | (with_reducible refine wpList_lenC rfl rfl rfl Try.underlying35 L1.out ?_) | (with_reducible refine wpList_lenR rfl rfl rfl Try.underlying23 L2.out ?_) | (go_at_call 29; ((with_reducible refine (HV.out _).mono ?_); rintro e w1 ⟨rfl, hl⟩; replace F := F.le hl; clear hl)))
    go_ret
    exact ⟨rfl, F.below⟩
  rw [g6] at HV
  have G6 := hid g6; clear g6
  cases g7 : fin l
  · have E : okP nL nL nS xR xL yS k a b c x y l r s = false := by unfold okP; rw [g7]; simp
    rw [g7] at HL
    rw [E]
    clear E h0 h1 p0 p1 g7
    go_enter Try.func16, Try.ntmps16
    go_wp2_with (first | ((with_reducible refine listN F ?_); clear F; intro wN F) | ((with_reducible refine at_load rfl ?_); first | (with_reducible refine wpList_load1 F rfl rfl rfl (by first | exact m0) (f := 0) (v := v0) rfl ukindRingSI ?_) | (with_reducible refine wpList_load1 F rfl rfl rfl (by first | exact m0) (f := 1) (v := v1) rfl ukindRingSI ?_) | (with_reducible refine wpList_load1 F rfl rfl rfl (by first | exact m0) (f := 2) (v := v2) rfl ukindFloat32S ?_) | (with_reducible refine wpList_loadGP F rfl rfl rfl (by first | exact m0) Try.underlying36 rfl [.int .i64 k, .float .f32 a, .float .f32 b, .float .f32 c, .float .f32 x, .float .f32 y] (partPipe_End (v0) (v1) (v2) (.int .i64 k) (.float .f32 a) (.float .f32 b) (.float .f32 c) (.float .f32 x) (.float .f32 y) (.bool op) (.float .f32 l) (.float .f32 r) (.float .f32 s)) uinfoFilterI rfl ?_) | (with_reducible refine wpList_load1 F rfl rfl rfl (by first | exact m0) (f := 9) (v := .bool op) rfl ukindBool ?_) | (with_reducible refine wpList_load1 F rfl rfl rfl (by first | exact m0) (f := 10) (v := .float .f32 l) rfl ukindFloat32 ?_) | (with_reducible refine wpList_load1 F rfl rfl rfl (by first | exact m0) (f := 11) (v := .float .f32 r) rfl ukindFloat32 ?_) | (with_reducible refine wpList_load1 F rfl rfl rfl (by first | exact m0) (f := 12) (v := .float .f32 s) rfl ukindFloat32 ?_) | (with_reducible refine wpList_load1 F rfl rfl rfl m0 (f := 3) (v := .int .i64 k) rfl ukindInt64 ?_)) | (with_reducible refine wpList_lenC rfl rfl rfl Try.underlying35 L0.out ?_) | (with_reducible refine wpList_lenC rfl rfl rfl Try.underlying35 L1.out ?_) | (with_reducible refine wpList_lenR rfl rfl rfl Try.underlying23 L2.out ?_) | (go_at_call 29; ((with_reducible refine (HV.out _).mono ?_); rintro e w1 ⟨rfl, hl⟩; replace F := F.le hl; clear hl)) | (go_at_call 30; first | ((with_reducible refine (HL.out _).mono ?_); rintro e w1 ⟨rfl, rfl⟩) | ((with_reducible refine (HR.out _).mono ?_); rintro e w1 ⟨rfl, rfl⟩) | ((with_reducible refine (HS.out _).mono ?_); rintro e w1 ⟨rfl, rfl⟩)))
    go_ret
    exact ⟨rfl, F.below⟩
  rw [g7] at HL
  have G7 := hid g7; clear g7
  cases g8 : fin r
  · have E : okP nL nL nS xR xL yS k a b c x y l r s = false := by unfold okP; rw [g8]; simp
    rw [g8] at HR
    rw [E]
    clear E h0 h1 p0 p1 g8
    go_enter Try.func16, Try.ntmps16
    go_wp2_with (first | ((with_reducible refine listN F ?_); clear F; intro wN F) | ((with_reducible refine at_load rfl ?_); first | (with_reducible refine wpList_load1 F rfl rfl rfl (by first | exact m0) (f := 0) (v := v0) rfl ukindRingSI ?_) | (with_reducible refine wpList_load1 F rfl rfl rfl (by first | exact m0) (f := 1) (v := v1) rfl ukindRingSI ?_) | (with_reducible refine wpList_load1 F rfl rfl rfl (by first | exact m0) (f := 2) (v := v2) rfl ukindFloat32S ?_) | (with_reducible refine wpList_loadGP F rfl rfl rfl (by first | exact m0) Try.underlying36 rfl [.int .i64 k, .float .f32 a, .float .f32 b, .float .f32 c, .float .f32 x, .float .f32 y] (partPipe_End (v0) (v1) (v2) (.int .i64 k) (.float .f32 a) (.float .f32 b) (.float .f32 c) (.float .f32 x) (.float .f32 y) (.bool op) (.float .f32 l) (.float .f32 r) (.float .f32 s)) uinfoFilterI rfl ?_) | (with_reducible refine wpList_load1 F rfl rfl rfl (by first | exact m0) (f := 9) (v := .bool op) rfl ukindBool ?_) | (with_reducible refine wpList_load1 F rfl rfl rfl (by first | exact m0) (f := 10) (v := .float .f32 l) rfl ukindFloat32 ?_) | (with_reducible refine wpList_load1 F rfl rfl rfl (by first | exact m0) (f := 11) (v := .float .f32 r) rfl ukindFloat32 ?_) | (with_reducible refine wpList_load1 F rfl rfl rfl (by first | exact m0) (f := 12) (v := .float .f32 s) rfl ukindFloat32 ?_) | (with_reducible refine wpList_load1 F rfl rfl rfl m0 (f := 3) (v := .int .i64 k) rfl ukindInt64 ?_)) | (with_reducible refine wpList_lenC rfl rfl rfl Try.underlying35 L0.out ?_) | (with_reducible refine wpList_lenC rfl rfl rfl Try.underlying35 L1.out ?_) | (with_reducible refine wpList_lenR rfl rfl rfl Try.underlying23 L2.out ?_) | (go_at_call 29; ((with_reducible refine (HV.out _).mono ?_); rintro e w1 ⟨rfl, hl⟩; replace F := F.le hl; clear hl)) | (go_at_call 30; first | ((with_reducible refine (HL.out _).mono ?_); rintro e w1 ⟨rfl, rfl⟩) | ((with_reducible refine (HR.out _).mono ?_); rintro e w1 ⟨rfl, rfl⟩) | ((with_reducible refine (HS.out _).mono ?_); rintro e w1 ⟨rfl, rfl⟩)))
    go_ret
    exact ⟨rfl, F.below⟩
  rw [g8] at HR
  have G8 := hid g8; clear g8
  cases g9 : fin s
  · have E : okP nL nL nS xR xL yS k a b c x y l r s = false := by unfold okP; rw [g9]; simp
    rw [g9] at HS
    rw [E]
    clear E h0 h1 p0 p1 g9
    go_enter Try.func16, Try.ntmps16
    go_wp2_with (first | ((with_reducible refine listN F ?_); clear F; intro wN F) | ((with_reducible refine at_load rfl ?_); first | (with_reducible refine wpList_load1 F rfl rfl rfl (by first | exact m0) (f := 0) (v := v0) rfl ukindRingSI ?_) | (with_reducible refine wpList_load1 F rfl rfl rfl (by first | exact m0) (f := 1) (v := v1) rfl ukindRingSI ?_) | (with_reducible refine wpList_load1 F rfl rfl rfl (by first | exact m0) (f := 2) (v := v2) rfl ukindFloat32S ?_) | (with_reducible refine wpList_loadGP F rfl rfl rfl (by first | exact m0) Try.underlying36 rfl [.int .i64 k, .float .f32 a, .float .f32 b, .float .f32 c, .float .f32 x, .float .f32 y] (partPipe_End (v0) (v1) (v2) (.int .i64 k) (.float .f32 a) (.float .f32 b) (.float .f32 c) (.float .f32 x) (.float .f32 y) (.bool op) (.float .f32 l) (.float .f32 r) (.float .f32 s)) uinfoFilterI rfl ?_) | (with_reducible refine wpList_load1 F rfl rfl rfl (by first | exact m0) (f := 9) (v := .bool op) rfl ukindBool ?_) | (with_reducible refine wpList_load1 F rfl rfl rfl (by first | exact m0) (f := 10) (v := .float .f32 l) rfl ukindFloat32 ?_) | (with_reducible refine wpList_load1 F rfl rfl rfl (by first | exact m0) (f := 11) (v := .float .f32 r) rfl ukindFloat32 ?_) | (with_reducible refine wpList_load1 F rfl rfl rfl (by first | exact m0) (f := 12) (v := .float .f32 s) rfl ukindFloat32 ?_) | (with_reducible refine wpList_load1 F rfl rfl rfl m0 (f := 3) (v := .int .i64 k) rfl ukindInt64 ?_)) | (with_reducible refine wpList_lenC rfl rfl rfl Try.underlying35 L0.out ?_) | (with_reducible refine wpList_lenC rfl rfl rfl Try.underlying35 L1.out ?_) | (with_reducible refine wpList_lenR rfl rfl rfl Try.underlying23 L2.out ?_) | (go_at_call 29; ((with_reducible refine (HV.out _).mono ?_); rintro e w1 ⟨rfl, hl⟩; replace F := F.le hl; clear hl)) | (go_at_call 30; first | ((with_reducible refine (HL.out _).mono ?_); rintro e w1 ⟨rfl, rfl⟩) | ((with_reducible refine (HR.out _).mono ?_); rintro e w1 ⟨rfl, rfl⟩) | ((with_reducible refine (HS.out _).mono ?_); rintro e w1 ⟨rfl, rfl⟩)))
    go_ret
    exact ⟨rfl, F.below⟩
  rw [g9] at HS
  have G9 := hid g9; clear g9
  cases gA : scB yS nS
  · have E : okP nL nL nS xR xL yS k a b c x y l r s = false := by unfold okP; rw [gA]; simp
    rw [gA] at HC
    rw [E]
    clear E h0 h1 p0 p1 gA
    go_enter Try.func16, Try.ntmps16
    go_wp2_with (first | ((with_reducible refine listN F ?_); clear F; intro wN F) | ((with_reducible refine at_load rfl ?_); first | (with_reducible refine wpList_load1 F rfl rfl rfl (by first | exact m0) (f := 0) (v := v0) rfl ukindRingSI ?_) | (with_reducible refine wpList_load1 F rfl rfl rfl (by first | exact m0) (f := 1) (v := v1) rfl ukindRingSI ?_) | (with_reducible refine wpList_load1 F rfl rfl rfl (by first | exact m0) (f := 2) (v := v2) rfl ukindFloat32S ?_) | (with_reducible refine wpList_loadGP F rfl rfl rfl (by first | exact m0) Try.underlying36 rfl [.int .i64 k, .float .f32 a, .float .f32 b, .float .f32 c, .float .f32 x, .float .f32 y] (partPipe_End (v0) (v1) (v2) (.int .i64 k) (.float .f32 a) (.float .f32 b) (.float .f32 c) (.float .f32 x) (.float .f32 y) (.bool op) (.float .f32 l) (.float .f32 r) (.float .f32 s)) uinfoFilterI rfl ?_) | (with_reducible refine wpList_load1 F rfl rfl rfl (by first | exact m0) (f := 9) (v := .bool op) rfl ukindBool ?_) | (with_reducible refine wpList_load1 F rfl rfl rfl (by first | exact m0) (f := 10) (v := .float .f32 l) rfl ukindFloat32 ?_) | (with_reducible refine wpList_load1 F rfl rfl rfl (by first | exact m0) (f := 11) (v := .float .f32 r) rfl ukindFloat32 ?_) | (with_reducible refine wpList_load1 F rfl rfl rfl (by first | exact m0) (f := 12) (v := .float .f32 s) rfl ukindFloat32 ?_) | (with_reducible refine wpList_load1 F rfl rfl rfl m0 (f := 3) (v := .int .i64 k) rfl ukindInt64 ?_)) | (with_reducible refine wpList_lenC rfl rfl rfl Try.underlying35 L0.out ?_) | (with_reducible refine wpList_lenC rfl rfl rfl Try.underlying35 L1.out ?_) | (with_reducible refine wpList_lenR rfl rfl rfl Try.underlying23 L2.out ?_) | (go_at_call 29; ((with_reducible refine (HV.out _).mono ?_); rintro e w1 ⟨rfl, hl⟩; replace F := F.le hl; clear hl)) | (go_at_call 30; first | ((with_reducible refine (HL.out _).mono ?_); rintro e w1 ⟨rfl, rfl⟩) | ((with_reducible refine (HR.out _).mono ?_); rintro e w1 ⟨rfl, rfl⟩) | ((with_reducible refine (HS.out _).mono ?_); rintro e w1 ⟨rfl, rfl⟩)) | (go_at_call 31; ((with_reducible refine (HC.out _ F.below).mono ?_); rintro e w1 ⟨rfl, rfl⟩)))
    go_ret
    exact ⟨rfl, F.below⟩
  rw [gA] at HC
  have GA := hid gA; clear gA
  have HQ := hid (fun (w' : World) (hl : le w w') => i_areSections B B v0 v1 xR xL nL w' (h0.le hl) (h1.le hl) p0 p1)
  clear h0 h1 p0 p1
  cases gB : allB (secOk xR xL) nL
  · have E : okP nL nL nS xR xL yS k a b c x y l r s = false := okP_sec gB
    rw [gB] at HQ
    rw [E]
    clear E gB
    go_enter Try.func16, Try.ntmps16
    go_wp2_with (first | ((with_reducible refine listN F ?_); clear F; intro wN F) | ((with_reducible refine at_load rfl ?_); first | (with_reducible refine wpList_load1 F rfl rfl rfl (by first | exact m0) (f := 0) (v := v0) rfl ukindRingSI ?_) | (with_reducible refine wpList_load1 F rfl rfl rfl (by first | exact m0) (f := 1) (v := v1) rfl ukindRingSI ?_) | (with_reducible refine wpList_load1 F rfl rfl rfl (by first | exact m0) (f := 2) (v := v2) rfl ukindFloat32S ?_) | (with_reducible refine wpList_loadGP F rfl rfl rfl (by first | exact m0) Try.underlying36 rfl [.int .i64 k, .float .f32 a, .float .f32 b, .float .f32 c, .float .f32 x, .float .f32 y] (partPipe_End (v0) (v1) (v2) (.int .i64 k) (.float .f32 a) (.float .f32 b) (.float .f32 c) (.float .f32 x) (.float .f32 y) (.bool op) (.float .f32 l) (.float .f32 r) (.float .f32 s)) uinfoFilterI rfl ?_) | (with_reducible refine wpList_load1 F rfl rfl rfl (by first | exact m0) (f := 9) (v := .bool op) rfl ukindBool ?_) | (with_reducible refine wpList_load1 F rfl rfl rfl (by first | exact m0) (f := 10) (v := .float .f32 l) rfl ukindFloat32 ?_) | (with_reducible refine wpList_load1 F rfl rfl rfl (by first | exact m0) (f := 11) (v := .float .f32 r) rfl ukindFloat32 ?_) | (with_reducible refine wpList_load1 F rfl rfl rfl (by first | exact m0) (f := 12) (v := .float .f32 s) rfl ukindFloat32 ?_) | (with_reducible refine wpList_load1 F rfl rfl rfl m0 (f := 3) (v := .int .i64 k) rfl ukindInt64 ?_)) | (with_reducible refine wpList_lenC rfl rfl rfl Try.underlying35 L0.out ?_) | (with_reducible refine wpList_lenC rfl rfl rfl Try.underlying35 L1.out ?_) | (with_reducible refine wpList_lenR rfl rfl rfl Try.underlying23 L2.out ?_) | (go_at_call 29; ((with_reducible refine (HV.out _).mono ?_); rintro e w1 ⟨rfl, hl⟩; replace F := F.le hl; clear hl)) | (go_at_call 30; first | ((with_reducible refine (HL.out _).mono ?_); rintro e w1 ⟨rfl, rfl⟩) | ((with_reducible refine (HR.out _).mono ?_); rintro e w1 ⟨rfl, rfl⟩) | ((with_reducible refine (HS.out _).mono ?_); rintro e w1 ⟨rfl, rfl⟩)) | (go_at_call 31; ((with_reducible refine (HC.out _ F.below).mono ?_); rintro e w1 ⟨rfl, rfl⟩)) | (go_at_call 32; ((with_reducible refine (HQ.out _ F.below).mono ?_); rintro e w1 ⟨rfl, hl⟩; replace F := F.le hl; clear hl)))
    go_ret
    exact ⟨rfl, F.below⟩
  have E : okP nL nL nS xR xL yS k a b c x y l r s = true := by unfold okP; rw [gB, GA.out, G9.out, G8.out, G7.out, G6.out, G5.out, G4.out]; simp; omega
  rw [gB] at HQ
  rw [E]
  clear E gB
  go_enter Try.func16, Try.ntmps16
  go_wp2_with (first | ((with_reducible refine listN F ?_); clear F; intro wN F) | ((with_reducible refine at_load rfl ?_); first | (with_reducible refine wpList_load1 F rfl rfl rfl (by first | exact m0) (f := 0) (v := v0) rfl ukindRingSI ?_) | (with_reducible refine wpList_load1 F rfl rfl rfl (by first | exact m0) (f := 1) (v := v1) rfl ukindRingSI ?_) | (with_reducible refine wpList_load1 F rfl rfl rfl (by first | exact m0) (f := 2) (v := v2) rfl ukindFloat32S ?_) | (with_reducible refine wpList_loadGP F rfl rfl rfl (by first | exact m0) Try.underlying36 rfl [.int .i64 k, .float .f32 a, .float .f32 b, .float .f32 c, .float .f32 x, .float .f32 y] (partPipe_End (v0) (v1) (v2) (.int .i64 k) (.float .f32 a) (.float .f32 b) (.float .f32 c) (.float .f32 x) (.float .f32 y) (.bool op) (.float .f32 l) (.float .f32 r) (.float .f32 s)) uinfoFilterI rfl ?_) | (with_reducible refine wpList_load1 F rfl rfl rfl (by first | exact m0) (f := 9) (v := .bool op) rfl ukindBool ?_) | (with_reducible refine wpList_load1 F rfl rfl rfl (by first | exact m0) (f := 10) (v := .float .f32 l) rfl ukindFloat32 ?_) | (with_reducible refine wpList_load1 F rfl rfl rfl (by first | exact m0) (f := 11) (v := .float .f32 r) rfl ukindFloat32 ?_) | (with_reducible refine wpList_load1 F rfl rfl rfl (by first | exact m0) (f := 12) (v := .float .f32 s) rfl ukindFloat32 ?_) | (with_reducible refine wpList_load1 F rfl rfl rfl m0 (f := 3) (v := .int .i64 k) rfl ukindInt64 ?_)) | (with_reducible refine wpList_lenC rfl rfl rfl Try.underlying35 L0.out ?_) | (with_reducible refine wpList_lenC rfl rfl rfl Try.underlying35 L1.out ?_) | (with_reducible refine wpList_lenR rfl rfl rfl Try.underlying23 L2.out ?_) | (go_at_call 29; ((with_reducible refine (HV.out _).mono ?_); rintro e w1 ⟨rfl, hl⟩; replace F := F.le hl; clear hl)) | (go_at_call 30; first | ((with_reducible refine (HL.out _).mono ?_); rintro e w1 ⟨rfl, rfl⟩) | ((with_reducible refine (HR.out _).mono ?_); rintro e w1 ⟨rfl, rfl⟩) | ((with_reducible refine (HS.out _).mono ?_); rintro e w1 ⟨rfl, rfl⟩)) | (go_at_call 31; ((with_reducible refine (HC.out _ F.below).mono ?_); rintro e w1 ⟨rfl, rfl⟩)) | (go_at_call 32; ((with_reducible refine (HQ.out _ F.below).mono ?_); rintro e w1 ⟨rfl, hl⟩; replace F := F.le hl; clear hl)))
  go_ret
  exact ⟨rfl, F.below⟩
theorem l04_lens {xR xL : Nat → CD} {n : Nat} (hR : allB (rgOk xR) n = true) (hL : allB (rgOk xL) n = true) (h : ∀ i, i < n → rgN xR i = rgN xL i) : allB (secOk xR xL) n = true :=
  allB_yes (fun i hi => by unfold secOk; rw [allB_all hR i hi, allB_all hL i hi, h i hi]; simp)
theorem l04_noR {xR xL : Nat → CD} {n : Nat} (h : allB (rgOk xR) n = false) : allB (secOk xR xL) n = false := by
  obtain ⟨i, hi, hf⟩ := allB_ex h
  exact allB_no hi (by unfold secOk; rw [hf]; rfl)
theorem l04_noL {xR xL : Nat → CD} {n : Nat} (h : allB (rgOk xL) n = false) : allB (secOk xR xL) n = false := by
  obtain ⟨i, hi, hf⟩ := allB_ex h
  exact allB_no hi (by unfold secOk; rw [hf]; simp)
theorem l04_noN {xR xL : Nat → CD} {n i : Nat} (hi : i < n) (h : rgN xR i ≠ rgN xL i) : allB (secOk xR xL) n = false :=
  allB_no hi (by unfold secOk; simp [h])
def three (l r s : Nat) : Nat → Nat := fun i => match i with | 0 => can .f32 l | 1 => can .f32 r | _ => can .f32 s
theorem fin3 (l r s : Nat) : finB (three l r s) 3 = (fin l && fin r && fin s) := by
  have e : ∀ z, fin (can .f32 z) = fin z := fun z => fin_can (can_can _ _)
  simp [finB, three, List.range_succ, e, Bool.and_assoc]
set_option maxRecDepth 100000 in
set_option maxHeartbeats 4000000 in
theorem s_l04Ok (B : Nat) (v0 v1 v2 : Value) (nR nL nS : Nat) (xR xL : Nat → CD) (yS : Nat → Nat) (k : Int) (a b c x y : Nat) (op : Bool) (l r s : Nat) (g : Nat) (w : World) (R : Row w g 38 #[v0, v1, v2, .int .i64 k, .float .f32 a, .float .f32 b, .float .f32 c, .float .f32 x, .float .f32 y, .bool op, .float .f32 l, .float .f32 r, .float .f32 s]) (h0 : (CD.sl 2 nR xR).RdN w B v0) (h1 : (CD.sl 2 nL xL).RdN w B v1) (h2 : RdS w B v2 yS nS) (p0 : RgsOk xR nR) (p1 : RgsOk xL nL) (hf : fits .f32 a ∧ fits .f32 b ∧ fits .f32 c ∧ fits .f32 x ∧ fits .f32 y) (hg : fits .f32 l ∧ fits .f32 r ∧ fits .f32 s) :
    Calls Try.prog 12 #[.pointer (some ⟨g, 0, none⟩)] w (Out_b (okP nR nL nS xR xL yS k a b c x y l r s) w) := by
  have HVR := hid (fun (w' : World) (hl : le w w') => s_l04Rings B v0 xR nR w' (h0.le hl) p0)
  have HVL := hid (fun (w' : World) (hl : le w w') => s_l04Rings B v1 xL nL w' (h1.le hl) p1)
  have S0 := h0.rd.small; have S1 := h1.rd.small; have S2 := h2.small
  have L0 := hid h0.rd; have L1 := hid h1.rd; have L2 := hid h2
  have c0 := R.cell? 0; have c1 := R.cell? 1; have c2 := R.cell? 2
  have HRow := hid R
  by_cases g1 : nR < 1
  · have E : okP nR nL nS xR xL yS k a b c x y l r s = false := by unfold okP; rw [decide_eq_false (by omega)]; rfl
    have q1 : (nR : Int) < 1 := by omega
    rw [E]
    clear E h0 h1 h2 p0 p1 R hf hg
    go_enter Try.func12, Try.ntmps12
    go_wp2_with (first | (with_reducible refine wpList_lenC rfl rfl rfl Try.underlying35 L0.out ?_))
    go_ret
    exact ⟨rfl, by first | exact le_refl _ | exact le_drewN _ _⟩
  have q1 : ¬ (nR : Int) < 1 := by omega
  by_cases g2 : 3 < nR
  · have E : okP nR nL nS xR xL yS k a b c x y l r s = false := by unfold okP; rw [decide_eq_false (p := nR ≤ 3) (by omega), Bool.and_false]; rfl
    have q2 : (3 : Int) < nR := by omega
    rw [E]
    clear E h0 h1 h2 p0 p1 R hf hg
    go_enter Try.func12, Try.ntmps12
    go_wp2_with (first | (with_reducible refine wpList_lenC rfl rfl rfl Try.underlying35 L0.out ?_))
    go_ret
    exact ⟨rfl, by first | exact le_refl _ | exact le_drewN _ _⟩
  have q2 : ¬ (3 : Int) < nR := by omega
  cases g3 : (nL == nR)
  · have E : okP nR nL nS xR xL yS k a b c x y l r s = false := by unfold okP; rw [g3]; simp
    have q3 : (((nL : Nat) : Int) != ((nR : Nat) : Int)) = true := by simp only [beq_eq_false_iff_ne] at g3; simp; omega
    rw [E]
    clear E h0 h1 h2 p0 p1 R hf hg g3
    go_enter Try.func12, Try.ntmps12
    go_wp2_with (first | (with_reducible refine wpList_lenC rfl rfl rfl Try.underlying35 L0.out ?_) | (with_reducible refine wpList_lenCG rfl rfl Try.underlying35 L1.out (by kernel_rfl) ?_))
    go_ret
    exact ⟨rfl, by first | exact le_refl _ | exact le_drewN _ _⟩
  obtain rfl : nL = nR := by simpa using g3
  have q3 : (((nL : Nat) : Int) != ((nL : Nat) : Int)) = false := by simp
  clear g3
  cases g4 : (nS + 1 == nL)
  · have E : okP nL nL nS xR xL yS k a b c x y l r s = false := by unfold okP; rw [g4]; simp
    have q4 : (((nS : Nat) : Int) != ((nL : Nat) : Int) - 1) = true := by simp only [beq_eq_false_iff_ne] at g4; simp; omega
    rw [E]
    clear E h0 h1 h2 p0 p1 R hf hg g4
    go_enter Try.func12, Try.ntmps12
    go_wp2_with (first | (with_reducible refine wpList_lenC rfl rfl rfl Try.underlying35 L0.out ?_) | (with_reducible refine wpList_lenCG rfl rfl Try.underlying35 L1.out (by kernel_rfl) ?_) | (with_reducible refine wpList_lenRG rfl rfl Try.underlying23 L2.out (by kernel_rfl) ?_))
    go_ret
    exact ⟨rfl, by first | exact le_refl _ | exact le_drewN _ _⟩
  have q4 : (((nS : Nat) : Int) != ((nL : Nat) : Int) - 1) = false := by simp only [beq_iff_eq] at g4; simp; omega
  have G4 := hid g4; clear g4
  cases g5 : allB (rgOk xR) nL
  · have E : okP nL nL nS xR xL yS k a b c x y l r s = false := okP_sec (l04_noR g5)
    rw [g5] at HVR
    rw [E]
    clear E h0 h1 h2 p0 p1 R hf hg g5
    go_enter Try.func12, Try.ntmps12
    go_wp2_with (first | (with_reducible refine wpList_lenC rfl rfl rfl Try.underlying35 L0.out ?_) | (with_reducible refine wpList_lenCG rfl rfl Try.underlying35 L1.out (by kernel_rfl) ?_) | (with_reducible refine wpList_lenRG rfl rfl Try.underlying23 L2.out (by kernel_rfl) ?_) | (go_at_call 23; first | ((with_reducible refine (HVR.out _ (le_drewN _ _)).mono ?_); rintro e w' ⟨rfl, q, rfl⟩) | ((with_reducible refine (HVR.out _ (le_refl _)).mono ?_); rintro e w' ⟨rfl, q, rfl⟩) | ((with_reducible refine (HVL.out _ (le_drewN _ _)).mono ?_); rintro e w' ⟨rfl, q2, rfl⟩)))
    go_ret
    exact ⟨rfl, by first | exact le_refl _ | exact le_drewN _ _⟩
  have G5 := hid g5; rw [g5] at HVR; clear g5
  cases g6 : allB (rgOk xL) nL
  · have E : okP nL nL nS xR xL yS k a b c x y l r s = false := okP_sec (l04_noL g6)
    rw [g6] at HVL
    rw [E]
    clear E h0 h1 h2 p0 p1 R hf hg g6
    go_enter Try.func12, Try.ntmps12
    go_wp2_with (first | (with_reducible refine wpList_lenC rfl rfl rfl Try.underlying35 L0.out ?_) | (with_reducible refine wpList_lenCG rfl rfl Try.underlying35 L1.out (by kernel_rfl) ?_) | (with_reducible refine wpList_lenRG rfl rfl Try.underlying23 L2.out (by kernel_rfl) ?_) | (go_at_call 23; first | ((with_reducible refine (HVR.out _ (le_drewN _ _)).mono ?_); rintro e w' ⟨rfl, q, rfl⟩) | ((with_reducible refine (HVR.out _ (le_refl _)).mono ?_); rintro e w' ⟨rfl, q, rfl⟩) | ((with_reducible refine (HVL.out _ (le_drewN _ _)).mono ?_); rintro e w' ⟨rfl, q2, rfl⟩)))
    go_ret
    exact ⟨rfl, by first | exact le_refl _ | exact le_drewN _ _⟩
  have G6 := hid g6; rw [g6] at HVL; clear g6
  obtain ⟨b0, o0, k0, e0, hc0, hm0⟩ := h0.form.resolve_left (fun h => by have := h.2; omega)
  obtain ⟨b1, o1, k1, e1, hc1, hm1⟩ := h1.form.resolve_left (fun h => by have := h.2; omega)
  subst e0; subst e1
  have HA := hid (fun j (hj : j < nL) => p0.at h0 hj)
  have HB := hid (fun j (hj : j < nL) => p1.at h1 hj)
  have HX := hid h2
  have HF3 := hid hg; have HFF := hid hf
  unfold maxLen at hm0 hm1
  clear h0 h1 p0 p1 R h2 hf hg
  go_enter Try.func12, Try.ntmps12
  go_wp2_with (first | (with_reducible refine wpList_lenC rfl rfl rfl Try.underlying35 L0.out ?_) | (with_reducible refine wpList_lenCG rfl rfl Try.underlying35 L1.out (by kernel_rfl) ?_) | (with_reducible refine wpList_lenRG rfl rfl Try.underlying23 L2.out (by kernel_rfl) ?_) | (go_at_call 23; first | ((with_reducible refine (HVR.out _ (le_drewN _ _)).mono ?_); rintro e w' ⟨rfl, q, rfl⟩) | ((with_reducible refine (HVR.out _ (le_refl _)).mono ?_); rintro e w' ⟨rfl, q, rfl⟩) | ((with_reducible refine (HVL.out _ (le_drewN _ _)).mono ?_); rintro e w' ⟨rfl, q2, rfl⟩)))
  go_loopw [4] (fun i wr => ∃ j : Nat, j ≤ nL ∧ i = .int .i64 j ∧ Hid (∀ i, i < j → rgN xR i = rgN xL i) ∧ Hid (le w wr)) (fun i _ => nL - (intOf i).toNat)
  case atStart => exact ⟨0, by omega, rfl, fun i hi => absurd hi (by omega), le_drewN _ _⟩
  case round =>
    obtain ⟨j, hj, rfl, HJ, HL⟩ := hrel
    clear c0 c1 c2
    rename_i wr _
    by_cases hlt : j < nL
    · obtain ⟨u, d0, d1, hwu, hr⟩ := HA.out j hlt
      obtain ⟨v, f0, f1, hwv, hq⟩ := HB.out j hlt
      go_wp2_with fail
      refine region_freeD (E := leX) (fun _ _ _ _ => True) (by kernel_rfl) (by kernel_rfl) ?_
      refine wpFreeD_one rfl (.pointer (some ⟨g, 0, none⟩)) (fun w1 _ => by kernel_rfl) ?_
      simp only [Act.put, List.setIfInBounds_toArray, List.set_cons_succ, List.set_cons_zero]
      refine wpFreeD_one rfl (.pointer (some ⟨g, 0, none⟩)) (fun w1 _ => by kernel_rfl) ?_
      simp only [Act.put, List.setIfInBounds_toArray, List.set_cons_succ, List.set_cons_zero]
      refine wpFreeD_one rfl (.pointer (some ⟨g, 0, none⟩)) (fun w1 _ => by kernel_rfl) ?_
      simp only [Act.put, List.setIfInBounds_toArray, List.set_cons_succ, List.set_cons_zero]
      refine wpFreeD_load1 rfl rfl rfl (p := ⟨g, 0, none⟩) (fun w1 h1 => (Row.le HRow.out (le_trans HL.out (le_trans (le_drewN _ _) h1))).cell? 0) ukindRingSI ?_
      simp only [Act.put, List.setIfInBounds_toArray, List.set_cons_succ, List.set_cons_zero]
      refine wpFreeD_one rfl (.int .i64 j) (fun w1 _ => by kernel_rfl) ?_
      simp only [Act.put, List.setIfInBounds_toArray, List.set_cons_succ, List.set_cons_zero]
      refine wpFreeD_indexW0 rfl rfl rfl rfl Try.underlying35 uinfoRingI hlt ?_
      simp only [Act.put, List.setIfInBounds_toArray, List.set_cons_succ, List.set_cons_zero]
      refine wpFreeD_one rfl (.pointer (some ⟨b0, o0 + j * 2, none⟩)) (fun w1 _ => by kernel_rfl) ?_
      simp only [Act.put, List.setIfInBounds_toArray, List.set_cons_succ, List.set_cons_zero]
      refine wpFreeD_load1 rfl rfl rfl (p := ⟨b0, o0 + j * 2, none⟩) (fun w1 h1 => (Below.cell (le_trans HL.out (le_trans (le_drewN _ _) h1)) (cell_lt' d0)).trans d0) ukindFloat32S ?_
      simp only [Act.put, List.setIfInBounds_toArray, List.set_cons_succ, List.set_cons_zero]
      refine wpFreeD_lenR rfl rfl rfl Try.underlying23 hr ?_
      simp only [Act.put, List.setIfInBounds_toArray, List.set_cons_succ, List.set_cons_zero]
      refine wpFreeD_one rfl (.pointer (some ⟨g, 0, none⟩)) (fun w1 _ => by kernel_rfl) ?_
      simp only [Act.put, List.setIfInBounds_toArray, List.set_cons_succ, List.set_cons_zero]
      refine wpFreeD_one rfl (.pointer (some ⟨g, 0, none⟩)) (fun w1 _ => by kernel_rfl) ?_
      simp only [Act.put, List.setIfInBounds_toArray, List.set_cons_succ, List.set_cons_zero]
      refine wpFreeD_one rfl (.pointer (some ⟨g, 1, none⟩)) (fun w1 _ => by kernel_rfl) ?_
      simp only [Act.put, List.setIfInBounds_toArray, List.set_cons_succ, List.set_cons_zero]
      refine wpFreeD_load1 rfl rfl rfl (p := ⟨g, 1, none⟩) (fun w1 h1 => (Row.le HRow.out (le_trans HL.out (le_trans (le_drewN _ _) h1))).cell? 1) ukindRingSI ?_
      simp only [Act.put, List.setIfInBounds_toArray, List.set_cons_succ, List.set_cons_zero]
      refine wpFreeD_one rfl (.int .i64 j) (fun w1 _ => by kernel_rfl) ?_
      simp only [Act.put, List.setIfInBounds_toArray, List.set_cons_succ, List.set_cons_zero]
      refine wpFreeD_indexW0 rfl rfl rfl rfl Try.underlying35 uinfoRingI hlt ?_
      simp only [Act.put, List.setIfInBounds_toArray, List.set_cons_succ, List.set_cons_zero]
      refine wpFreeD_one rfl (.pointer (some ⟨b1, o1 + j * 2, none⟩)) (fun w1 _ => by kernel_rfl) ?_
      simp only [Act.put, List.setIfInBounds_toArray, List.set_cons_succ, List.set_cons_zero]
      refine wpFreeD_load1 rfl rfl rfl (p := ⟨b1, o1 + j * 2, none⟩) (fun w1 h1 => (Below.cell (le_trans HL.out (le_trans (le_drewN _ _) h1)) (cell_lt' f0)).trans f0) ukindFloat32S ?_
      simp only [Act.put, List.setIfInBounds_toArray, List.set_cons_succ, List.set_cons_zero]
      refine wpFreeD_lenR rfl rfl rfl Try.underlying23 hq ?_
      simp only [Act.put, List.setIfInBounds_toArray, List.set_cons_succ, List.set_cons_zero]
      refine wpFreeD_one rfl (.bool (((rgN xR j : Nat) : Int) != ((rgN xL j : Nat) : Int))) (fun w1 _ => by kernel_rfl) ?_
      simp only [Act.put, List.setIfInBounds_toArray, List.set_cons_succ, List.set_cons_zero]
      refine wpFreeD_nil (fun wR hwR _ => ?_)
      have HL1 := hid (le_trans HL.out (le_trans (le_drewN _ _) hwR))
      clear hwR d0 d1 f0 f1 hwu hwv hr hq
      by_cases h3 : rgN xR j = rgN xL j
      · have h4 : (((rgN xR j : Nat) : Int) != ((rgN xL j : Nat) : Int)) = false := by simp [h3]
        replace h3 := hid h3
        go_wp2
        go_roundw
        case rel => exact ⟨j + 1, by omega, by go_num, fun i hi => by rcases Nat.lt_or_ge i j with h | h; exact HJ.out i h; rw [show i = j by omega]; exact h3.out, HL1.out⟩
        case measure => simp [intOf]; omega
      · have h4 : (((rgN xR j : Nat) : Int) != ((rgN xL j : Nat) : Int)) = true := by simp; omega
        have E : okP nL nL nS xR xL yS k a b c x y l r s = false := okP_sec (l04_noN hlt h3)
        replace h3 := hid h3
        replace E := hid E
        go_wp2
        go_ret
        exact ⟨ret_b E.out.symm, HL1.out⟩
    · obtain rfl : j = nL := by omega
      have c2 := (Row.le HRow.out HL.out).cell? 2
      go_wp2
      go_loop [5] (fun i => ∃ q : Nat, q ≤ nS ∧ i = .int .i64 q ∧ Hid (∀ i, i < q → withinB (yS i) 3212836864 1065353216 = true)) (fun i => nS - (intOf i).toNat)
      case atStart => exact ⟨0, by omega, rfl, fun i hi => absurd hi (by omega)⟩
      case round =>
        obtain ⟨q, hq, rfl, HQ⟩ := hrel
        have n1 : nS + 1 = j := by have := G4.out; simpa using this
        by_cases hlt : q < nS
        · have hlt' : (q : Int) < (j : Int) - 1 := by omega
          obtain ⟨aS, kS, zS, rfl, hcS, hmS, hzS⟩ := HX.out.raw (by omega)
          unfold maxLen at hmS
          obtain ⟨z1, z2, z3⟩ := hzS q hlt
          have cz := (Below.cell HL.out (cell_lt' z1)).trans z1
          have hfy := withinB_can (l := 3212836864) (g := 1065353216) z3
          replace n1 := hid n1
          clear z1 z2 z3 hzS
          obtain ⟨T, hT⟩ : ∃ T, T = withinB (yS q) 3212836864 1065353216 := ⟨_, rfl⟩
          rw [← hT] at hfy
          unfold withinB at hfy
          replace hT := hid hT
          rcases h5 : FloatKind.f32.format.order (zS q) 3212836864 with _ | (_ | _ | _) <;> rcases h6 : FloatKind.f32.format.order (zS q) 1065353216 with _ | (_ | _ | _)
          all_goals
            rw [h5, h6] at hfy
            first
            | (replace hfy : T = true := hfy.symm.trans (by decide)
               replace hT := hid (hT.out.symm.trans hfy)
               clear hfy
               go_wp2
               go_round
               case rel => exact ⟨q + 1, by omega, by go_num, fun i hi => by rcases Nat.lt_or_ge i q with h | h; exact HQ.out i h; rw [show i = q by omega]; exact hT.out⟩
               case measure => simp [intOf]; omega)
            | (replace hfy : T = false := hfy.symm.trans (by decide)
               replace hT := hid (hT.out.symm.trans hfy)
               clear hfy
               go_wp2
               go_ret
               exact ⟨ret_b (by unfold okP; rw [show scB yS nS = false from allB_no (p := fun i => withinB (yS i) 3212836864 1065353216) hlt hT.out]; simp), HL.out⟩)
        · obtain rfl : q = nS := by omega
          have GS := hid (show scB yS q = true from allB_yes HQ.out)
          have GN := hid (l04_lens G5.out G6.out HJ.out)
          have hRw : Hid (∀ w1, le wr w1 → Row w1 g 38 #[(.slice (some ⟨b0, o0, none⟩) j k0), (.slice (some ⟨b1, o1, none⟩) j k1), v2, .int .i64 k, .float .f32 a, .float .f32 b, .float .f32 c, .float .f32 x, .float .f32 y, .bool op, .float .f32 l, .float .f32 r, .float .f32 s]) := fun w1 h1 => Row.le HRow.out (le_trans HL.out h1)
          have HOK := hid (fun (w' : World) (hl : le wr w') => s_OkAt k a b c x y g 3 w' ⟨(hRw.out w' hl).cell? 3, fun i hi => by match i, hi with | 0, _ => exact (hRw.out w' hl).cell? 4 | 1, _ => exact (hRw.out w' hl).cell? 5 | 2, _ => exact (hRw.out w' hl).cell? 6, fun i hi => by match i, hi with | 0, _ => exact (hRw.out w' hl).cell? 7 | 1, _ => exact (hRw.out w' hl).cell? 8⟩)
          have HF := hid HF3.out
          clear c2
          cases gF : okF k a b c x y
          · have E := hid (show okP j j q xR xL yS k a b c x y l r s = false by unfold okP; rw [gF]; simp)
            rw [gF] at HOK
            clear gF
            go_wp2_with fail
            refine region_freeD (E := leX) (fun f _ _ v => v = .bool false) (by kernel_rfl) (by kernel_rfl) ?_
            refine wpFreeD_one rfl (.pointer (some ⟨g, 0, none⟩)) (fun w1 _ => by kernel_rfl) ?_
            simp only [Act.put, List.setIfInBounds_toArray, List.set_cons_succ, List.set_cons_zero]
            refine wpFreeD_one rfl (.pointer (some ⟨g, 0, none⟩)) (fun w1 _ => by kernel_rfl) ?_
            simp only [Act.put, List.setIfInBounds_toArray, List.set_cons_succ, List.set_cons_zero]
            refine wpFreeD_one rfl (.pointer (some ⟨g, 3, none⟩)) (fun w1 _ => by kernel_rfl) ?_
            simp only [Act.put, List.setIfInBounds_toArray, List.set_cons_succ, List.set_cons_zero]
            refine wpFreeD_callB rfl rfl Try.func24 (by kernel_rfl) (by kernel_rfl) (args := #[.pointer (some ⟨g, 3, none⟩)]) (by simp [Act.eval]) (fun v w1 w2 hw hv => hv) (fun w1 hw1 _ => (HOK.out w1 (le_trans (le_drewN _ _) hw1)).mono ?_) ?_
            · rintro e w2 ⟨rfl, m, rfl⟩
              exact ⟨_, rfl, le_drewN _ _, rfl⟩
            rintro v ⟨_, _, _, hv⟩
            skip --FF
            subst hv
            simp only [Act.put, List.setIfInBounds_toArray, List.set_cons_succ, List.set_cons_zero]
            refine wpFreeD_one rfl (.bool false) (fun w1 _ => by kernel_rfl) ?_
            simp only [Act.put, List.setIfInBounds_toArray, List.set_cons_succ, List.set_cons_zero]
            refine wpFreeD_skip (by kernel_rfl) ?_
            simp only [Act.put, List.setIfInBounds_toArray, List.set_cons_succ, List.set_cons_zero]
            refine wpFreeD_skip (by kernel_rfl) ?_
            simp only [Act.put, List.setIfInBounds_toArray, List.set_cons_succ, List.set_cons_zero]
            refine wpFreeD_skip (by kernel_rfl) ?_
            simp only [Act.put, List.setIfInBounds_toArray, List.set_cons_succ, List.set_cons_zero]
            refine wpFreeD_skip (by kernel_rfl) ?_
            simp only [Act.put, List.setIfInBounds_toArray, List.set_cons_succ, List.set_cons_zero]
            refine wpFreeD_skip (by kernel_rfl) ?_
            simp only [Act.put, List.setIfInBounds_toArray, List.set_cons_succ, List.set_cons_zero]
            refine wpFreeD_skip (by kernel_rfl) ?_
            simp only [Act.put, List.setIfInBounds_toArray, List.set_cons_succ, List.set_cons_zero]
            refine wpFreeD_one rfl (.bool false) (fun w1 _ => by kernel_rfl) ?_
            simp only [Act.put, List.setIfInBounds_toArray, List.set_cons_succ, List.set_cons_zero]
            refine wpFreeD_one rfl (.bool false) (fun w1 _ => by kernel_rfl) ?_
            simp only [Act.put, List.setIfInBounds_toArray, List.set_cons_succ, List.set_cons_zero]
            refine wpFreeD_skip (by kernel_rfl) ?_
            simp only [Act.put, List.setIfInBounds_toArray, List.set_cons_succ, List.set_cons_zero]
            refine wpFreeD_skip (by kernel_rfl) ?_
            simp only [Act.put, List.setIfInBounds_toArray, List.set_cons_succ, List.set_cons_zero]
            refine wpFreeD_skip (by kernel_rfl) ?_
            simp only [Act.put, List.setIfInBounds_toArray, List.set_cons_succ, List.set_cons_zero]
            refine wpFreeD_skip (by kernel_rfl) ?_
            simp only [Act.put, List.setIfInBounds_toArray, List.set_cons_succ, List.set_cons_zero]
            refine wpFreeD_skip (by kernel_rfl) ?_
            simp only [Act.put, List.setIfInBounds_toArray, List.set_cons_succ, List.set_cons_zero]
            refine wpFreeD_skip (by kernel_rfl) ?_
            simp only [Act.put, List.setIfInBounds_toArray, List.set_cons_succ, List.set_cons_zero]
            refine wpFreeD_skip (by kernel_rfl) ?_
            simp only [Act.put, List.setIfInBounds_toArray, List.set_cons_succ, List.set_cons_zero]
            refine wpFreeD_skip (by kernel_rfl) ?_
            simp only [Act.put, List.setIfInBounds_toArray, List.set_cons_succ, List.set_cons_zero]
            refine wpFreeD_skip (by kernel_rfl) ?_
            simp only [Act.put, List.setIfInBounds_toArray, List.set_cons_succ, List.set_cons_zero]
            refine wpFreeD_skip (by kernel_rfl) ?_
            simp only [Act.put, List.setIfInBounds_toArray, List.set_cons_succ, List.set_cons_zero]
            refine wpFreeD_skip (by kernel_rfl) ?_
            simp only [Act.put, List.setIfInBounds_toArray, List.set_cons_succ, List.set_cons_zero]
            refine wpFreeD_skip (by kernel_rfl) ?_
            simp only [Act.put, List.setIfInBounds_toArray, List.set_cons_succ, List.set_cons_zero]
            refine wpFreeD_skip (by kernel_rfl) ?_
            simp only [Act.put, List.setIfInBounds_toArray, List.set_cons_succ, List.set_cons_zero]
            refine wpFreeD_skip (by kernel_rfl) ?_
            simp only [Act.put, List.setIfInBounds_toArray, List.set_cons_succ, List.set_cons_zero]
            refine wpFreeD_one rfl (.bool false) (fun w1 _ => by kernel_rfl) ?_
            simp only [Act.put, List.setIfInBounds_toArray, List.set_cons_succ, List.set_cons_zero]
            refine wpFreeD_one rfl (.bool false) (fun w1 _ => by kernel_rfl) ?_
            simp only [Act.put, List.setIfInBounds_toArray, List.set_cons_succ, List.set_cons_zero]
            refine wpFreeD_nil (fun wR hwR _ => ?_)
            have HL1 := hid (le_trans HL.out (le_trans (le_drewN _ _) hwR))
            clear hwR
            go_wp2
            go_ret
            exact ⟨ret_b E.out.symm, HL1.out⟩
          cases gK : (k == 1)
          · have E := hid (show okP j j q xR xL yS k a b c x y l r s = false by unfold okP; rw [gK]; simp)
            rw [gF] at HOK
            clear gF
            go_wp2_with fail
            refine region_freeD (E := leX) (fun f _ _ v => v = .bool true) (by kernel_rfl) (by kernel_rfl) ?_
            refine wpFreeD_one rfl (.pointer (some ⟨g, 0, none⟩)) (fun w1 _ => by kernel_rfl) ?_
            simp only [Act.put, List.setIfInBounds_toArray, List.set_cons_succ, List.set_cons_zero]
            refine wpFreeD_one rfl (.pointer (some ⟨g, 0, none⟩)) (fun w1 _ => by kernel_rfl) ?_
            simp only [Act.put, List.setIfInBounds_toArray, List.set_cons_succ, List.set_cons_zero]
            refine wpFreeD_one rfl (.pointer (some ⟨g, 3, none⟩)) (fun w1 _ => by kernel_rfl) ?_
            simp only [Act.put, List.setIfInBounds_toArray, List.set_cons_succ, List.set_cons_zero]
            refine wpFreeD_callB rfl rfl Try.func24 (by kernel_rfl) (by kernel_rfl) (args := #[.pointer (some ⟨g, 3, none⟩)]) (by simp [Act.eval]) (fun v w1 w2 hw hv => hv) (fun w1 hw1 _ => (HOK.out w1 (le_trans (le_drewN _ _) hw1)).mono ?_) ?_
            · rintro e w2 ⟨rfl, m, rfl⟩
              exact ⟨_, rfl, le_drewN _ _, rfl⟩
            rintro v ⟨_, _, _, hv⟩
            skip
            subst hv
            simp only [Act.put, List.setIfInBounds_toArray, List.set_cons_succ, List.set_cons_zero]
            refine wpFreeD_one rfl (.bool true) (fun w1 _ => by kernel_rfl) ?_
            simp only [Act.put, List.setIfInBounds_toArray, List.set_cons_succ, List.set_cons_zero]
            refine wpFreeD_oneW (by kernel_rfl) (.pointer (some ⟨g, 0, none⟩)) (fun w1 _ => by kernel_rfl) ?_
            simp only [Act.put, List.setIfInBounds_toArray, List.set_cons_succ, List.set_cons_zero]
            refine wpFreeD_oneW (by kernel_rfl) (.pointer (some ⟨g, 0, none⟩)) (fun w1 _ => by kernel_rfl) ?_
            simp only [Act.put, List.setIfInBounds_toArray, List.set_cons_succ, List.set_cons_zero]
            refine wpFreeD_oneW (by kernel_rfl) (.pointer (some ⟨g, 3, none⟩)) (fun w1 _ => by kernel_rfl) ?_
            simp only [Act.put, List.setIfInBounds_toArray, List.set_cons_succ, List.set_cons_zero]
            refine wpFreeD_oneW (by kernel_rfl) (.pointer (some ⟨g, 3, none⟩)) (fun w1 _ => by kernel_rfl) ?_
            simp only [Act.put, List.setIfInBounds_toArray, List.set_cons_succ, List.set_cons_zero]
            refine wpFreeD_load1W (by kernel_rfl) rfl rfl (p := ⟨g, 3, none⟩) (fun w1 h1 => (hRw.out w1 (le_trans (le_drewN _ _) h1)).cell? 3) ukindInt64 ?_
            simp only [Act.put, List.setIfInBounds_toArray, List.set_cons_succ, List.set_cons_zero]
            refine wpFreeD_oneW (by kernel_rfl) (.bool (k == 1)) (fun w1 _ => by kernel_rfl) ?_
            simp only [Act.put, List.setIfInBounds_toArray, List.set_cons_succ, List.set_cons_zero]
            rw [gK]
            refine wpFreeD_one rfl (.bool false) (fun w1 _ => by kernel_rfl) ?_
            simp only [Act.put, List.setIfInBounds_toArray, List.set_cons_succ, List.set_cons_zero]
            refine wpFreeD_one rfl (.bool false) (fun w1 _ => by kernel_rfl) ?_
            simp only [Act.put, List.setIfInBounds_toArray, List.set_cons_succ, List.set_cons_zero]
            refine wpFreeD_skip (by kernel_rfl) ?_
            simp only [Act.put, List.setIfInBounds_toArray, List.set_cons_succ, List.set_cons_zero]
            refine wpFreeD_skip (by kernel_rfl) ?_
            simp only [Act.put, List.setIfInBounds_toArray, List.set_cons_succ, List.set_cons_zero]
            refine wpFreeD_skip (by kernel_rfl) ?_
            simp only [Act.put, List.setIfInBounds_toArray, List.set_cons_succ, List.set_cons_zero]
            refine wpFreeD_skip (by kernel_rfl) ?_
            simp only [Act.put, List.setIfInBounds_toArray, List.set_cons_succ, List.set_cons_zero]
            refine wpFreeD_skip (by kernel_rfl) ?_
            simp only [Act.put, List.setIfInBounds_toArray, List.set_cons_succ, List.set_cons_zero]
            refine wpFreeD_skip (by kernel_rfl) ?_
            simp only [Act.put, List.setIfInBounds_toArray, List.set_cons_succ, List.set_cons_zero]
            refine wpFreeD_skip (by kernel_rfl) ?_
            simp only [Act.put, List.setIfInBounds_toArray, List.set_cons_succ, List.set_cons_zero]
            refine wpFreeD_skip (by kernel_rfl) ?_
            simp only [Act.put, List.setIfInBounds_toArray, List.set_cons_succ, List.set_cons_zero]
            refine wpFreeD_skip (by kernel_rfl) ?_
            simp only [Act.put, List.setIfInBounds_toArray, List.set_cons_succ, List.set_cons_zero]
            refine wpFreeD_skip (by kernel_rfl) ?_
            simp only [Act.put, List.setIfInBounds_toArray, List.set_cons_succ, List.set_cons_zero]
            refine wpFreeD_skip (by kernel_rfl) ?_
            simp only [Act.put, List.setIfInBounds_toArray, List.set_cons_succ, List.set_cons_zero]
            refine wpFreeD_skip (by kernel_rfl) ?_
            simp only [Act.put, List.setIfInBounds_toArray, List.set_cons_succ, List.set_cons_zero]
            refine wpFreeD_skip (by kernel_rfl) ?_
            simp only [Act.put, List.setIfInBounds_toArray, List.set_cons_succ, List.set_cons_zero]
            refine wpFreeD_skip (by kernel_rfl) ?_
            simp only [Act.put, List.setIfInBounds_toArray, List.set_cons_succ, List.set_cons_zero]
            refine wpFreeD_one rfl (.bool false) (fun w1 _ => by kernel_rfl) ?_
            simp only [Act.put, List.setIfInBounds_toArray, List.set_cons_succ, List.set_cons_zero]
            refine wpFreeD_one rfl (.bool false) (fun w1 _ => by kernel_rfl) ?_
            simp only [Act.put, List.setIfInBounds_toArray, List.set_cons_succ, List.set_cons_zero]
            refine wpFreeD_nil (fun wR hwR _ => ?_)
            have HL1 := hid (le_trans HL.out (le_trans (le_drewN _ _) hwR))
            clear hwR
            go_wp2
            go_ret
            exact ⟨ret_b E.out.symm, HL1.out⟩
          · have hk1 : k = 1 := by simpa using gK
            subst hk1
            have E := hid (show okP j j q xR xL yS 1 a b c x y l r s = (fin l && fin r && fin s) by unfold okP; rw [gF, GS.out, GN.out, G4.out, decide_eq_true (show 1 ≤ j by omega), decide_eq_true (show j ≤ 3 by omega)]; simp)
            rw [gF] at HOK
            clear gF gK
            go_wp2_with fail
            refine region_freeD (E := leX) (fun f _ _ v => if f = 24 then v = .bool true else v = .bool (fin l && fin r && fin s)) (by kernel_rfl) (by kernel_rfl) ?_
            refine wpFreeD_one rfl (.pointer (some ⟨g, 0, none⟩)) (fun w1 _ => by kernel_rfl) ?_
            simp only [Act.put, List.setIfInBounds_toArray, List.set_cons_succ, List.set_cons_zero]
            refine wpFreeD_one rfl (.pointer (some ⟨g, 0, none⟩)) (fun w1 _ => by kernel_rfl) ?_
            simp only [Act.put, List.setIfInBounds_toArray, List.set_cons_succ, List.set_cons_zero]
            refine wpFreeD_one rfl (.pointer (some ⟨g, 3, none⟩)) (fun w1 _ => by kernel_rfl) ?_
            simp only [Act.put, List.setIfInBounds_toArray, List.set_cons_succ, List.set_cons_zero]
            refine wpFreeD_callB rfl rfl Try.func24 (by kernel_rfl) (by kernel_rfl) (args := #[.pointer (some ⟨g, 3, none⟩)]) (by simp [Act.eval]) (fun v w1 w2 hw hv => hv) (fun w1 hw1 _ => (HOK.out w1 (le_trans (le_drewN _ _) hw1)).mono ?_) ?_
            · rintro e w2 ⟨rfl, m, rfl⟩
              exact ⟨_, rfl, le_drewN _ _, by simp only [if_true]⟩
            rintro v ⟨_, _, _, hv⟩
            simp only [if_true] at hv
            subst hv
            simp only [Act.put, List.setIfInBounds_toArray, List.set_cons_succ, List.set_cons_zero]
            refine wpFreeD_one rfl (.bool true) (fun w1 _ => by kernel_rfl) ?_
            simp only [Act.put, List.setIfInBounds_toArray, List.set_cons_succ, List.set_cons_zero]
            refine wpFreeD_oneW (by kernel_rfl) (.pointer (some ⟨g, 0, none⟩)) (fun w1 _ => by kernel_rfl) ?_
            simp only [Act.put, List.setIfInBounds_toArray, List.set_cons_succ, List.set_cons_zero]
            refine wpFreeD_oneW (by kernel_rfl) (.pointer (some ⟨g, 0, none⟩)) (fun w1 _ => by kernel_rfl) ?_
            simp only [Act.put, List.setIfInBounds_toArray, List.set_cons_succ, List.set_cons_zero]
            refine wpFreeD_oneW (by kernel_rfl) (.pointer (some ⟨g, 3, none⟩)) (fun w1 _ => by kernel_rfl) ?_
            simp only [Act.put, List.setIfInBounds_toArray, List.set_cons_succ, List.set_cons_zero]
            refine wpFreeD_oneW (by kernel_rfl) (.pointer (some ⟨g, 3, none⟩)) (fun w1 _ => by kernel_rfl) ?_
            simp only [Act.put, List.setIfInBounds_toArray, List.set_cons_succ, List.set_cons_zero]
            refine wpFreeD_load1W (by kernel_rfl) rfl rfl (p := ⟨g, 3, none⟩) (fun w1 h1 => (hRw.out w1 (le_trans (le_drewN _ _) h1)).cell? 3) ukindInt64 ?_
            simp only [Act.put, List.setIfInBounds_toArray, List.set_cons_succ, List.set_cons_zero]
            refine wpFreeD_oneW (by kernel_rfl) (.bool true) (fun w1 _ => by kernel_rfl) ?_
            simp only [Act.put, List.setIfInBounds_toArray, List.set_cons_succ, List.set_cons_zero]
            refine wpFreeD_one rfl (.bool true) (fun w1 _ => by kernel_rfl) ?_
            simp only [Act.put, List.setIfInBounds_toArray, List.set_cons_succ, List.set_cons_zero]
            refine wpFreeD_one rfl (.bool true) (fun w1 _ => by kernel_rfl) ?_
            simp only [Act.put, List.setIfInBounds_toArray, List.set_cons_succ, List.set_cons_zero]
            refine wpFreeD_oneW (by kernel_rfl) (.pointer (some ⟨g, 0, none⟩)) (fun w1 _ => by kernel_rfl) ?_
            simp only [Act.put, List.setIfInBounds_toArray, List.set_cons_succ, List.set_cons_zero]
            refine wpFreeD_oneW (by kernel_rfl) (.pointer (some ⟨g, 0, none⟩)) (fun w1 _ => by kernel_rfl) ?_
            simp only [Act.put, List.setIfInBounds_toArray, List.set_cons_succ, List.set_cons_zero]
            refine wpFreeD_oneW (by kernel_rfl) (.pointer (some ⟨g, 10, none⟩)) (fun w1 _ => by kernel_rfl) ?_
            simp only [Act.put, List.setIfInBounds_toArray, List.set_cons_succ, List.set_cons_zero]
            refine wpFreeD_load1W (by kernel_rfl) rfl rfl (p := ⟨g, 10, none⟩) (fun w1 h1 => (hRw.out w1 (le_trans (le_drewN _ _) h1)).cell? 10) ukindFloat32 ?_
            simp only [Act.put, List.setIfInBounds_toArray, List.set_cons_succ, List.set_cons_zero]
            refine wpFreeD_oneW (by kernel_rfl) (.pointer (some ⟨g, 0, none⟩)) (fun w1 _ => by kernel_rfl) ?_
            simp only [Act.put, List.setIfInBounds_toArray, List.set_cons_succ, List.set_cons_zero]
            refine wpFreeD_oneW (by kernel_rfl) (.pointer (some ⟨g, 0, none⟩)) (fun w1 _ => by kernel_rfl) ?_
            simp only [Act.put, List.setIfInBounds_toArray, List.set_cons_succ, List.set_cons_zero]
            refine wpFreeD_oneW (by kernel_rfl) (.pointer (some ⟨g, 11, none⟩)) (fun w1 _ => by kernel_rfl) ?_
            simp only [Act.put, List.setIfInBounds_toArray, List.set_cons_succ, List.set_cons_zero]
            refine wpFreeD_load1W (by kernel_rfl) rfl rfl (p := ⟨g, 11, none⟩) (fun w1 h1 => (hRw.out w1 (le_trans (le_drewN _ _) h1)).cell? 11) ukindFloat32 ?_
            simp only [Act.put, List.setIfInBounds_toArray, List.set_cons_succ, List.set_cons_zero]
            refine wpFreeD_oneW (by kernel_rfl) (.pointer (some ⟨g, 0, none⟩)) (fun w1 _ => by kernel_rfl) ?_
            simp only [Act.put, List.setIfInBounds_toArray, List.set_cons_succ, List.set_cons_zero]
            refine wpFreeD_oneW (by kernel_rfl) (.pointer (some ⟨g, 0, none⟩)) (fun w1 _ => by kernel_rfl) ?_
            simp only [Act.put, List.setIfInBounds_toArray, List.set_cons_succ, List.set_cons_zero]
            refine wpFreeD_oneW (by kernel_rfl) (.pointer (some ⟨g, 12, none⟩)) (fun w1 _ => by kernel_rfl) ?_
            simp only [Act.put, List.setIfInBounds_toArray, List.set_cons_succ, List.set_cons_zero]
            refine wpFreeD_load1W (by kernel_rfl) rfl rfl (p := ⟨g, 12, none⟩) (fun w1 h1 => (hRw.out w1 (le_trans (le_drewN _ _) h1)).cell? 12) ukindFloat32 ?_
            simp only [Act.put, List.setIfInBounds_toArray, List.set_cons_succ, List.set_cons_zero]
            refine wpFreeD_madeW (by kernel_rfl) (fun b => .slice (some ⟨b, 0, none⟩) 3 3) 24 #[.float .f32 l, .float .f32 r, .float .f32 s] (fun w1 => by kernel_rfl) (fun bN => ?_)
            simp only [Act.put, List.setIfInBounds_toArray, List.set_cons_succ, List.set_cons_zero]
            refine wpFreeD_callW (by kernel_rfl) rfl Try.func25 (by kernel_rfl) (by kernel_rfl) (args := #[.slice (some ⟨bN, 0, none⟩) 3 3]) (by simp [Act.eval]) (fun v w1 w2 hw hv => by simp only [show ¬ (25 = 24) by decide, if_false] at hv ⊢; exact hv) (fun w1 hw1 hbe => ?_) ?_
            · obtain ⟨b', e1, hrow⟩ := (hbe ⟨25, Ground.data⟩ (by simp) (by kernel_rfl)).2 rfl
              obtain rfl : bN = b' := by simpa using e1
              have hq : RdS w1 (bN + 1) (.slice (some ⟨bN, 0, none⟩) 3 3) (three l r s) 3 := .inr ⟨⟨bN, 0, none⟩, 3, rfl, Nat.le_refl _, by decide, fun i hi => ⟨Nat.lt_succ_self _, by rw [add_none, Nat.zero_add]; match i, hi with
                | 0, _ => exact ⟨l, hrow.cell? 0, HF.out.1, rfl⟩
                | 1, _ => exact ⟨r, hrow.cell? 1, HF.out.2.1, rfl⟩
                | 2, _ => exact ⟨s, hrow.cell? 2, HF.out.2.2, rfl⟩⟩⟩
              refine (s_l04All _ _ _ _ w1 hq).mono ?_
              rintro e w2 ⟨rfl, m, rfl⟩
              exact ⟨_, rfl, le_drewN _ _, by simp only [show ¬ (25 = 24) by decide, if_false]; rw [fin3]⟩
            rintro v ⟨_, _, _, hv⟩
            simp only [show ¬ (25 = 24) by decide, if_false] at hv
            subst hv
            simp only [Act.put, List.setIfInBounds_toArray, List.set_cons_succ, List.set_cons_zero]
            refine wpFreeD_one rfl (.bool (fin l && fin r && fin s)) (fun w1 _ => by kernel_rfl) ?_
            simp only [Act.put, List.setIfInBounds_toArray, List.set_cons_succ, List.set_cons_zero]
            refine wpFreeD_one rfl (.bool (fin l && fin r && fin s)) (fun w1 _ => by kernel_rfl) ?_
            simp only [Act.put, List.setIfInBounds_toArray, List.set_cons_succ, List.set_cons_zero]
            refine wpFreeD_nil (fun wR hwR _ => ?_)
            have HL1 := hid (le_trans HL.out (le_trans (le_drewN _ _) hwR))
            clear hwR
            go_wp2
            go_ret
            exact ⟨ret_b E.out.symm, HL1.out⟩
theorem pipe_data {cs : List CD} (h : HasShL shPipe cs) : ∃ (nR nL nS : Nat) (xR xL xS : Nat → CD) (k : Int) (a b c x y : Nat) (op : Bool) (l r s : Nat), cs = [.sl 2 nR xR, .sl 2 nL xL, .sl 1 nS xS, .int .i64 k, .flt .f32 a, .flt .f32 b, .flt .f32 c, .flt .f32 x, .flt .f32 y, .bool op, .flt .f32 l, .flt .f32 r, .flt .f32 s] ∧ RgsOk (fun i => (xR i).cn) nR ∧ RgsOk (fun i => (xL i).cn) nL ∧ (∀ i, i < nS → (xS i).cn.flk = some .f32) := by
  obtain ⟨c0, cs, rfl, q0, h⟩ := h.inv
  obtain ⟨c1, cs, rfl, q1, h⟩ := h.inv
  obtain ⟨c2, cs, rfl, q2, h⟩ := h.inv
  obtain ⟨c3, cs, rfl, q3, h⟩ := h.inv
  obtain ⟨c4, cs, rfl, q4, h⟩ := h.inv
  obtain ⟨c5, cs, rfl, q5, h⟩ := h.inv
  obtain ⟨c6, cs, rfl, q6, h⟩ := h.inv
  obtain ⟨c7, cs, rfl, q7, h⟩ := h.inv
  obtain ⟨c8, cs, rfl, q8, h⟩ := h.inv
  obtain ⟨c9, cs, rfl, q9, h⟩ := h.inv
  obtain ⟨c10, cs, rfl, q10, h⟩ := h.inv
  obtain ⟨c11, cs, rfl, q11, h⟩ := h.inv
  obtain ⟨c12, cs, rfl, q12, h⟩ := h.inv
  obtain rfl := h.inv0
  obtain ⟨nR, xR, rfl, r0⟩ := q0
  obtain ⟨nL, xL, rfl, r1⟩ := q1
  obtain ⟨nS, xS, rfl, r2⟩ := q2
  obtain ⟨k, rfl⟩ := q3
  obtain ⟨a, rfl⟩ := q4
  obtain ⟨b, rfl⟩ := q5
  obtain ⟨c, rfl⟩ := q6
  obtain ⟨x, rfl⟩ := q7
  obtain ⟨y, rfl⟩ := q8
  obtain ⟨op, rfl⟩ := q9
  obtain ⟨l, rfl⟩ := q10
  obtain ⟨r, rfl⟩ := q11
  obtain ⟨s, rfl⟩ := q12
  refine ⟨nR, nL, nS, xR, xL, xS, k, a, b, c, x, y, op, l, r, s, rfl, rgs_ok (fun i hi j hj => (r0 i hi j hj).ok.cn) ⟨_, rfl, rfl⟩ rfl, rgs_ok (fun i hi j hj => (r1 i hi j hj).ok.cn) ⟨_, rfl, rfl⟩ rfl, fun i hi => ?_⟩
  rw [CD.flk_cn]
  exact ShOk.flts (fun i hi j hj => (r2 i hi j hj).ok) rfl i hi
theorem pipe_open {nR nL nS : Nat} {xR xL xS : Nat → CD} {k : Int} {a b c x y : Nat} {op : Bool} {l r s : Nat} {w : World} {B : Nat} {u : List Value} (h : RdLN w B (([.sl 2 nR xR, .sl 2 nL xL, .sl 1 nS xS, .int .i64 k, .flt .f32 a, .flt .f32 b, .flt .f32 c, .flt .f32 x, .flt .f32 y, .bool op, .flt .f32 l, .flt .f32 r, .flt .f32 s] : List CD).map CD.cp) u) (hS : ∀ i, i < nS → (xS i).cn.flk = some .f32) : ∃ v0 v1 v2 : Value, u = [v0, v1, v2, .int .i64 k, .float .f32 a, .float .f32 b, .float .f32 c, .float .f32 x, .float .f32 y, .bool op, .float .f32 l, .float .f32 r, .float .f32 s] ∧ (CD.sl 2 nR (fun i => (xR i).cn)).RdN w B v0 ∧ (CD.sl 2 nL (fun i => (xL i).cn)).RdN w B v1 ∧ RdS w B v2 (fun i => (xS i).cn.fx) nS ∧ (fits .f32 a ∧ fits .f32 b ∧ fits .f32 c ∧ fits .f32 x ∧ fits .f32 y) ∧ (fits .f32 l ∧ fits .f32 r ∧ fits .f32 s) := by
  simp only [List.map_cons, List.map_nil] at h
  obtain ⟨v0, u0, rfl, q0, hh0⟩ := h.inv
  obtain ⟨v1, u1, rfl, q1, hh1⟩ := hh0.inv
  obtain ⟨v2, u2, rfl, q2, hh2⟩ := hh1.inv
  obtain ⟨v3, u3, rfl, q3, hh3⟩ := hh2.inv
  obtain ⟨v4, u4, rfl, q4, hh4⟩ := hh3.inv
  obtain ⟨v5, u5, rfl, q5, hh5⟩ := hh4.inv
  obtain ⟨v6, u6, rfl, q6, hh6⟩ := hh5.inv
  obtain ⟨v7, u7, rfl, q7, hh7⟩ := hh6.inv
  obtain ⟨v8, u8, rfl, q8, hh8⟩ := hh7.inv
  obtain ⟨v9, u9, rfl, q9, hh9⟩ := hh8.inv
  obtain ⟨v10, u10, rfl, q10, hh10⟩ := hh9.inv
  obtain ⟨v11, u11, rfl, q11, hh11⟩ := hh10.inv
  obtain ⟨v12, u12, rfl, q12, hh12⟩ := hh11.inv
  obtain rfl := hh12.inv0
  obtain ⟨rfl, _⟩ := q3
  obtain ⟨rfl, f4⟩ := q4
  obtain ⟨rfl, f5⟩ := q5
  obtain ⟨rfl, f6⟩ := q6
  obtain ⟨rfl, f7⟩ := q7
  obtain ⟨rfl, f8⟩ := q8
  obtain ⟨rfl, f10⟩ := q10
  obtain ⟨rfl, f11⟩ := q11
  obtain ⟨rfl, f12⟩ := q12
  obtain rfl := q9
  exact ⟨v0, v1, v2, rfl, q0, q1, CD.Rd.rdf (CD.RdN.rd q2) hS, ⟨f4, f5, f6, f7, f8⟩, f10, f11, f12⟩
end Go.Proofs.Ytappbiijmjjpaad

/- 'indicesAt'. -/
namespace Go.Proofs.Ytappbiijmjjpaad
open Go.RowKit Go.Fk
end Go.Proofs.Ytappbiijmjjpaad

/- Places of pipes; 'PressureAt' of both. -/
namespace Go.Fk
open Go Go.RowKit
/-- Is there such a place? -/
def hasP (xR : Nat → CD) (n : Nat) (t p : Int) : Bool := decide (0 ≤ t) && decide (t < n) && decide (0 ≤ p) && decide (p < rgN xR t.toNat)
/-- The sum at a place. -/
def prsP (xR xL : Nat → CD) (t p : Nat) : Nat := fop .add .f32 (rgX xR t (((rgK xR t).toNat + rgN xR t - 1 - p) % rgN xR t)) (rgX xL t (((rgK xL t).toNat + p) % rgN xR t))
theorem ring_nat {n : Nat} {k : Int} (h : okRing n k = true) : 1 ≤ n ∧ n ≤ 1024 ∧ ∃ j : Nat, k = j ∧ j < n := by
  have := okRing_iff.1 h
  exact ⟨this.1, this.2.1, k.toNat, by omega, by omega⟩
set_option maxRecDepth 100000 in
set_option maxHeartbeats 2000000 in
theorem hasP_nat {xR : Nat → CD} {n : Nat} {t p : Int} (h : hasP xR n t p = true) : ∃ t' p' : Nat, t = t' ∧ p = p' ∧ t' < n ∧ p' < rgN xR t' := by
  unfold hasP at h
  simp only [Bool.and_eq_true, decide_eq_true_eq] at h
  obtain ⟨⟨⟨h1, h2⟩, h3⟩, h4⟩ := h
  exact ⟨t.toNat, p.toNat, by omega, by omega, by omega, by omega⟩
theorem okP_parts {nR nL nS : Nat} {xR xL : Nat → CD} {yS : Nat → Nat} {k : Int} {a b c x y l r s : Nat} (h : okP nR nL nS xR xL yS k a b c x y l r s = true) : 1 ≤ nR ∧ nR ≤ 3 ∧ nL = nR ∧ ∀ t, t < nR → rgN xL t = rgN xR t ∧ rgN xR t ≤ 1024 ∧ ∃ jR jL : Nat, rgK xR t = jR ∧ rgK xL t = jL ∧ jR < rgN xR t ∧ jL < rgN xR t := by
  unfold okP at h
  simp only [Bool.and_eq_true, decide_eq_true_eq, beq_iff_eq] at h
  obtain ⟨⟨⟨⟨⟨⟨⟨⟨⟨⟨x1, x2⟩, x3⟩, _⟩, _⟩, _⟩, _⟩, _⟩, _⟩, _⟩, hA⟩ := h
  refine ⟨x1, x2, x3, fun t ht => ?_⟩
  have hs := allB_all hA t ht
  unfold secOk rgOk at hs
  simp only [Bool.and_eq_true, beq_iff_eq] at hs
  obtain ⟨_, h2, jR, e1, h3⟩ := ring_nat hs.1.1.1
  obtain ⟨_, h5, jL, e2, h6⟩ := ring_nat hs.1.2.1
  exact ⟨hs.2.symm, h2, jR, jL, e1, e2, h3, by omega⟩
end Go.Fk
namespace Go.Proofs.Ytappbiijmjjpaad
open Go.RowKit Go.Fk
end Go.Proofs.Ytappbiijmjjpaad

/- What grows by append, beside facts of memory. Nothing here names a program. -/
namespace Go.Fk
open Go Go.RowKit
theorem ownsRow_chS {S : Nat → Prop} {w w' : World} {e : TypeId} {n B : Nat} {xs : List Value} {v : Value} (hw : Chg S w w') (h : w.ownsRow B e 1 v n xs) (hS : ∀ i, S i → i < B) : w'.ownsRow B e 1 v n xs := by
  obtain ⟨h1, h2⟩ := h
  refine ⟨h1, ?_⟩
  rcases h2 with h2 | ⟨q, cap, cur, e1, e2, e3, e4⟩
  · exact .inl h2
  · exact .inr ⟨q, cap, cur, e1, e2, by have := hw.row (g := q) (t := e) (cs := cur) e3 (fun hq => by have := hS q hq; omega); exact this, e4⟩
theorem ownBlock_ge {w : World} {B : Nat} {e : TypeId} {z : Nat} {v : Value} {n : Nat} {xs : List Value} (h : w.ownsRow B e z v n xs) : ∀ k, v.ownBlock = some k → B ≤ k := by
  rcases h.2 with ⟨rfl, _⟩ | ⟨q, cap, cur, rfl, hb, _⟩
  · intro k hk; cases hk
  · intro k hk; simp only [Value.ownBlock, Option.some.injEq] at hk; omega
theorem chg_grown {w w' : World} {row : Option Nat} {B : Nat} (h : w.grownBy w' row) (hr : ∀ k, row = some k → B ≤ k) : Chg (B ≤ ·) w w' :=
  ⟨h.os, h.tape, h.output, h.size, fun k hk hn => h.block k hk (fun e => hn (hr k e.symm))⟩
theorem Frg.up {w0 w w' : World} {L : List Fact} {B : Nat} (h : Frg w0 w L) (k : Chg (B ≤ ·) w w') (hB : ∀ e ∈ L, e.hi ≤ B) (h0 : w0.heap.size ≤ B) : Frg w0 w' L :=
  ⟨h.below.trans (k.below (fun i hi => Nat.le_trans h0 hi) h.size), fun e he => by
    obtain ⟨h1, h2, h3⟩ := h.facts e he
    exact ⟨h1, Nat.le_trans h2 k.size, e.ok w w' h3 (fun i _ hi => k.block i (by omega) (fun hb => by have := hB e he; omega))⟩, h.apart⟩
theorem flist_snoc (y : Nat → Nat) (n a : Nat) : flist y n ++ [.float .f32 a] = flist (fun j => if j = n then a else y j) (n + 1) := by
  have h := flist_app y (fun _ => a) n 1
  have h1 : flist (fun _ => a) 1 = [.float .f32 a] := by simp [flist]
  rw [h1] at h
  rw [h]
  apply List.ext_getElem?
  intro i
  by_cases hi : i < n + 1
  · rw [flist_get' _ hi, flist_get' _ hi]
    by_cases e : i = n
    · simp [e]
    · simp [e, show i < n by omega]
  · rw [List.getElem?_eq_none (by rw [flist_length]; omega), List.getElem?_eq_none (by rw [flist_length]; omega)]
theorem Frg.own2 {w0 w w' : World} {L : List Fact} {q n n' : Nat} {s s' : Value} {x x' : Nat → Nat} (h : Frg w0 w L) (k : Below w.heap.size w w') (h1 : w.heap.size ≤ q) (h2 : q ≤ w'.heap.size) (o1 : OwnS w' w.heap.size q s x n) (o2 : OwnS w' q w'.heap.size s' x' n') :
    Frg w0 w' (ownF q w'.heap.size s' x' n' :: ownF w.heap.size q s x n :: L) := by
  refine ⟨(h.le k).below, fun e he => ?_, .cons (fun e he => ?_) (.cons (fun e he => (h.facts e he).2.1) h.apart)⟩
  · rcases List.mem_cons.1 he with rfl | he
    · exact ⟨Nat.le_trans h.size h1, Nat.le_refl _, o2⟩
    · rcases List.mem_cons.1 he with rfl | he
      · exact ⟨h.size, h2, o1⟩
      · exact (h.le k).facts e he
  · rcases List.mem_cons.1 he with rfl | he
    · exact Nat.le_refl q
    · exact Nat.le_trans (h.facts e he).2.1 h1
theorem m12 {b0 b1 b2 b3 b4 b5 b6 b7 b8 b9 b10 b11 a : Fact} {l : List Fact} : a ∈ b0 :: b1 :: b2 :: b3 :: b4 :: b5 :: b6 :: b7 :: b8 :: b9 :: b10 :: b11 :: a :: l := List.mem_cons_of_mem _ (List.mem_cons_of_mem _ (List.mem_cons_of_mem _ (List.mem_cons_of_mem _ (List.mem_cons_of_mem _ (List.mem_cons_of_mem _ (List.mem_cons_of_mem _ (List.mem_cons_of_mem _ (List.mem_cons_of_mem _ (List.mem_cons_of_mem _ (List.mem_cons_of_mem _ (List.mem_cons_of_mem _ (List.mem_cons_self))))))))))))
theorem m13 {b0 b1 b2 b3 b4 b5 b6 b7 b8 b9 b10 b11 b12 a : Fact} {l : List Fact} : a ∈ b0 :: b1 :: b2 :: b3 :: b4 :: b5 :: b6 :: b7 :: b8 :: b9 :: b10 :: b11 :: b12 :: a :: l := List.mem_cons_of_mem _ (List.mem_cons_of_mem _ (List.mem_cons_of_mem _ (List.mem_cons_of_mem _ (List.mem_cons_of_mem _ (List.mem_cons_of_mem _ (List.mem_cons_of_mem _ (List.mem_cons_of_mem _ (List.mem_cons_of_mem _ (List.mem_cons_of_mem _ (List.mem_cons_of_mem _ (List.mem_cons_of_mem _ (List.mem_cons_of_mem _ (List.mem_cons_self)))))))))))))
theorem m14 {b0 b1 b2 b3 b4 b5 b6 b7 b8 b9 b10 b11 b12 b13 a : Fact} {l : List Fact} : a ∈ b0 :: b1 :: b2 :: b3 :: b4 :: b5 :: b6 :: b7 :: b8 :: b9 :: b10 :: b11 :: b12 :: b13 :: a :: l := List.mem_cons_of_mem _ (List.mem_cons_of_mem _ (List.mem_cons_of_mem _ (List.mem_cons_of_mem _ (List.mem_cons_of_mem _ (List.mem_cons_of_mem _ (List.mem_cons_of_mem _ (List.mem_cons_of_mem _ (List.mem_cons_of_mem _ (List.mem_cons_of_mem _ (List.mem_cons_of_mem _ (List.mem_cons_of_mem _ (List.mem_cons_of_mem _ (List.mem_cons_of_mem _ (List.mem_cons_self))))))))))))))
theorem m15 {b0 b1 b2 b3 b4 b5 b6 b7 b8 b9 b10 b11 b12 b13 b14 a : Fact} {l : List Fact} : a ∈ b0 :: b1 :: b2 :: b3 :: b4 :: b5 :: b6 :: b7 :: b8 :: b9 :: b10 :: b11 :: b12 :: b13 :: b14 :: a :: l := List.mem_cons_of_mem _ (List.mem_cons_of_mem _ (List.mem_cons_of_mem _ (List.mem_cons_of_mem _ (List.mem_cons_of_mem _ (List.mem_cons_of_mem _ (List.mem_cons_of_mem _ (List.mem_cons_of_mem _ (List.mem_cons_of_mem _ (List.mem_cons_of_mem _ (List.mem_cons_of_mem _ (List.mem_cons_of_mem _ (List.mem_cons_of_mem _ (List.mem_cons_of_mem _ (List.mem_cons_of_mem _ (List.mem_cons_self)))))))))))))))
theorem m16 {b0 b1 b2 b3 b4 b5 b6 b7 b8 b9 b10 b11 b12 b13 b14 b15 a : Fact} {l : List Fact} : a ∈ b0 :: b1 :: b2 :: b3 :: b4 :: b5 :: b6 :: b7 :: b8 :: b9 :: b10 :: b11 :: b12 :: b13 :: b14 :: b15 :: a :: l := List.mem_cons_of_mem _ (List.mem_cons_of_mem _ (List.mem_cons_of_mem _ (List.mem_cons_of_mem _ (List.mem_cons_of_mem _ (List.mem_cons_of_mem _ (List.mem_cons_of_mem _ (List.mem_cons_of_mem _ (List.mem_cons_of_mem _ (List.mem_cons_of_mem _ (List.mem_cons_of_mem _ (List.mem_cons_of_mem _ (List.mem_cons_of_mem _ (List.mem_cons_of_mem _ (List.mem_cons_of_mem _ (List.mem_cons_of_mem _ (List.mem_cons_self))))))))))))))))
theorem m17 {b0 b1 b2 b3 b4 b5 b6 b7 b8 b9 b10 b11 b12 b13 b14 b15 b16 a : Fact} {l : List Fact} : a ∈ b0 :: b1 :: b2 :: b3 :: b4 :: b5 :: b6 :: b7 :: b8 :: b9 :: b10 :: b11 :: b12 :: b13 :: b14 :: b15 :: b16 :: a :: l := List.mem_cons_of_mem _ (List.mem_cons_of_mem _ (List.mem_cons_of_mem _ (List.mem_cons_of_mem _ (List.mem_cons_of_mem _ (List.mem_cons_of_mem _ (List.mem_cons_of_mem _ (List.mem_cons_of_mem _ (List.mem_cons_of_mem _ (List.mem_cons_of_mem _ (List.mem_cons_of_mem _ (List.mem_cons_of_mem _ (List.mem_cons_of_mem _ (List.mem_cons_of_mem _ (List.mem_cons_of_mem _ (List.mem_cons_of_mem _ (List.mem_cons_of_mem _ (List.mem_cons_self)))))))))))))))))
theorem m18 {b0 b1 b2 b3 b4 b5 b6 b7 b8 b9 b10 b11 b12 b13 b14 b15 b16 b17 a : Fact} {l : List Fact} : a ∈ b0 :: b1 :: b2 :: b3 :: b4 :: b5 :: b6 :: b7 :: b8 :: b9 :: b10 :: b11 :: b12 :: b13 :: b14 :: b15 :: b16 :: b17 :: a :: l := List.mem_cons_of_mem _ (List.mem_cons_of_mem _ (List.mem_cons_of_mem _ (List.mem_cons_of_mem _ (List.mem_cons_of_mem _ (List.mem_cons_of_mem _ (List.mem_cons_of_mem _ (List.mem_cons_of_mem _ (List.mem_cons_of_mem _ (List.mem_cons_of_mem _ (List.mem_cons_of_mem _ (List.mem_cons_of_mem _ (List.mem_cons_of_mem _ (List.mem_cons_of_mem _ (List.mem_cons_of_mem _ (List.mem_cons_of_mem _ (List.mem_cons_of_mem _ (List.mem_cons_of_mem _ (List.mem_cons_self))))))))))))))))))
theorem m19 {b0 b1 b2 b3 b4 b5 b6 b7 b8 b9 b10 b11 b12 b13 b14 b15 b16 b17 b18 a : Fact} {l : List Fact} : a ∈ b0 :: b1 :: b2 :: b3 :: b4 :: b5 :: b6 :: b7 :: b8 :: b9 :: b10 :: b11 :: b12 :: b13 :: b14 :: b15 :: b16 :: b17 :: b18 :: a :: l := List.mem_cons_of_mem _ (List.mem_cons_of_mem _ (List.mem_cons_of_mem _ (List.mem_cons_of_mem _ (List.mem_cons_of_mem _ (List.mem_cons_of_mem _ (List.mem_cons_of_mem _ (List.mem_cons_of_mem _ (List.mem_cons_of_mem _ (List.mem_cons_of_mem _ (List.mem_cons_of_mem _ (List.mem_cons_of_mem _ (List.mem_cons_of_mem _ (List.mem_cons_of_mem _ (List.mem_cons_of_mem _ (List.mem_cons_of_mem _ (List.mem_cons_of_mem _ (List.mem_cons_of_mem _ (List.mem_cons_of_mem _ (List.mem_cons_self)))))))))))))))))))
theorem Frg.mark10 {w0 w w' : World} {lo hi n : Nat} {s : Value} {x x' : Nat → Nat} {l : List Fact} {b0 b1 b2 b3 b4 b5 b6 b7 b8 b9 : Fact} (h : Frg w0 w (b0 :: b1 :: b2 :: b3 :: b4 :: b5 :: b6 :: b7 :: b8 :: b9 :: ownF lo hi s x n :: l)) (hp : OwnS w' lo hi s x' n) (k : Chg (rng lo hi) w w') : Frg w0 w' (b0 :: b1 :: b2 :: b3 :: b4 :: b5 :: b6 :: b7 :: b8 :: b9 :: ownF lo hi s x' n :: l) :=
  Frg.chg [b0, b1, b2, b3, b4, b5, b6, b7, b8, b9] (e := ownF lo hi s x n) (e' := ownF lo hi s x' n) h k hp rfl rfl
theorem Frg.mark11 {w0 w w' : World} {lo hi n : Nat} {s : Value} {x x' : Nat → Nat} {l : List Fact} {b0 b1 b2 b3 b4 b5 b6 b7 b8 b9 b10 : Fact} (h : Frg w0 w (b0 :: b1 :: b2 :: b3 :: b4 :: b5 :: b6 :: b7 :: b8 :: b9 :: b10 :: ownF lo hi s x n :: l)) (hp : OwnS w' lo hi s x' n) (k : Chg (rng lo hi) w w') : Frg w0 w' (b0 :: b1 :: b2 :: b3 :: b4 :: b5 :: b6 :: b7 :: b8 :: b9 :: b10 :: ownF lo hi s x' n :: l) :=
  Frg.chg [b0, b1, b2, b3, b4, b5, b6, b7, b8, b9, b10] (e := ownF lo hi s x n) (e' := ownF lo hi s x' n) h k hp rfl rfl
theorem Frg.mark12 {w0 w w' : World} {lo hi n : Nat} {s : Value} {x x' : Nat → Nat} {l : List Fact} {b0 b1 b2 b3 b4 b5 b6 b7 b8 b9 b10 b11 : Fact} (h : Frg w0 w (b0 :: b1 :: b2 :: b3 :: b4 :: b5 :: b6 :: b7 :: b8 :: b9 :: b10 :: b11 :: ownF lo hi s x n :: l)) (hp : OwnS w' lo hi s x' n) (k : Chg (rng lo hi) w w') : Frg w0 w' (b0 :: b1 :: b2 :: b3 :: b4 :: b5 :: b6 :: b7 :: b8 :: b9 :: b10 :: b11 :: ownF lo hi s x' n :: l) :=
  Frg.chg [b0, b1, b2, b3, b4, b5, b6, b7, b8, b9, b10, b11] (e := ownF lo hi s x n) (e' := ownF lo hi s x' n) h k hp rfl rfl
theorem Frg.mark13 {w0 w w' : World} {lo hi n : Nat} {s : Value} {x x' : Nat → Nat} {l : List Fact} {b0 b1 b2 b3 b4 b5 b6 b7 b8 b9 b10 b11 b12 : Fact} (h : Frg w0 w (b0 :: b1 :: b2 :: b3 :: b4 :: b5 :: b6 :: b7 :: b8 :: b9 :: b10 :: b11 :: b12 :: ownF lo hi s x n :: l)) (hp : OwnS w' lo hi s x' n) (k : Chg (rng lo hi) w w') : Frg w0 w' (b0 :: b1 :: b2 :: b3 :: b4 :: b5 :: b6 :: b7 :: b8 :: b9 :: b10 :: b11 :: b12 :: ownF lo hi s x' n :: l) :=
  Frg.chg [b0, b1, b2, b3, b4, b5, b6, b7, b8, b9, b10, b11, b12] (e := ownF lo hi s x n) (e' := ownF lo hi s x' n) h k hp rfl rfl
theorem Frg.mark14 {w0 w w' : World} {lo hi n : Nat} {s : Value} {x x' : Nat → Nat} {l : List Fact} {b0 b1 b2 b3 b4 b5 b6 b7 b8 b9 b10 b11 b12 b13 : Fact} (h : Frg w0 w (b0 :: b1 :: b2 :: b3 :: b4 :: b5 :: b6 :: b7 :: b8 :: b9 :: b10 :: b11 :: b12 :: b13 :: ownF lo hi s x n :: l)) (hp : OwnS w' lo hi s x' n) (k : Chg (rng lo hi) w w') : Frg w0 w' (b0 :: b1 :: b2 :: b3 :: b4 :: b5 :: b6 :: b7 :: b8 :: b9 :: b10 :: b11 :: b12 :: b13 :: ownF lo hi s x' n :: l) :=
  Frg.chg [b0, b1, b2, b3, b4, b5, b6, b7, b8, b9, b10, b11, b12, b13] (e := ownF lo hi s x n) (e' := ownF lo hi s x' n) h k hp rfl rfl
theorem Frg.mark15 {w0 w w' : World} {lo hi n : Nat} {s : Value} {x x' : Nat → Nat} {l : List Fact} {b0 b1 b2 b3 b4 b5 b6 b7 b8 b9 b10 b11 b12 b13 b14 : Fact} (h : Frg w0 w (b0 :: b1 :: b2 :: b3 :: b4 :: b5 :: b6 :: b7 :: b8 :: b9 :: b10 :: b11 :: b12 :: b13 :: b14 :: ownF lo hi s x n :: l)) (hp : OwnS w' lo hi s x' n) (k : Chg (rng lo hi) w w') : Frg w0 w' (b0 :: b1 :: b2 :: b3 :: b4 :: b5 :: b6 :: b7 :: b8 :: b9 :: b10 :: b11 :: b12 :: b13 :: b14 :: ownF lo hi s x' n :: l) :=
  Frg.chg [b0, b1, b2, b3, b4, b5, b6, b7, b8, b9, b10, b11, b12, b13, b14] (e := ownF lo hi s x n) (e' := ownF lo hi s x' n) h k hp rfl rfl
theorem Frg.mark16 {w0 w w' : World} {lo hi n : Nat} {s : Value} {x x' : Nat → Nat} {l : List Fact} {b0 b1 b2 b3 b4 b5 b6 b7 b8 b9 b10 b11 b12 b13 b14 b15 : Fact} (h : Frg w0 w (b0 :: b1 :: b2 :: b3 :: b4 :: b5 :: b6 :: b7 :: b8 :: b9 :: b10 :: b11 :: b12 :: b13 :: b14 :: b15 :: ownF lo hi s x n :: l)) (hp : OwnS w' lo hi s x' n) (k : Chg (rng lo hi) w w') : Frg w0 w' (b0 :: b1 :: b2 :: b3 :: b4 :: b5 :: b6 :: b7 :: b8 :: b9 :: b10 :: b11 :: b12 :: b13 :: b14 :: b15 :: ownF lo hi s x' n :: l) :=
  Frg.chg [b0, b1, b2, b3, b4, b5, b6, b7, b8, b9, b10, b11, b12, b13, b14, b15] (e := ownF lo hi s x n) (e' := ownF lo hi s x' n) h k hp rfl rfl
end Go.Fk

/- An append to a row of one's own in a region that draws its order: elements of any width. Nothing here names a program. -/
namespace Go.Fk
open Go Go.RowKit
theorem ownsRow_keep {w w' : World} {B : Nat} {e : TypeId} {z : Nat} {v : Value} {n : Nat} {xs : List Value} {S : Nat → Prop} (h : w.ownsRow B e z v n xs) (hw : Chg S w w') (hS : ∀ k, v.ownBlock = some k → ¬ S k) : w'.ownsRow B e z v n xs := by
  obtain ⟨h1, h2⟩ := h
  refine ⟨h1, ?_⟩
  rcases h2 with h2 | ⟨q, cap, cur, e1, e2, e3, e4⟩
  · exact .inl h2
  · exact .inr ⟨q, cap, cur, e1, e2, by have := hw.row (g := q) (t := e) (cs := cur) e3 (hS q (by rw [e1]; rfl)); exact this, e4⟩
theorem ownsRow_mono {w : World} {B B' : Nat} {e : TypeId} {z : Nat} {v : Value} {n : Nat} {xs : List Value} (h : w.ownsRow B e z v n xs) (hb : B' ≤ B) : w.ownsRow B' e z v n xs := by
  obtain ⟨h1, h2⟩ := h
  refine ⟨h1, ?_⟩
  rcases h2 with h2 | ⟨q, cap, cur, e1, e2, e3⟩
  · exact .inl h2
  · exact .inr ⟨q, cap, cur, e1, Nat.le_trans hb e2, e3⟩
theorem ownsRow_lt {w : World} {B : Nat} {e : TypeId} {z : Nat} {v : Value} {n : Nat} {xs : List Value} (h : w.ownsRow B e z v n xs) : ∀ k, v.ownBlock = some k → B ≤ k ∧ k < w.heap.size := by
  intro k hk
  rcases h.2 with ⟨rfl, _⟩ | ⟨q, cap, cur, rfl, e2, e3, _⟩
  · cases hk
  · obtain rfl : q = k := by simpa [Value.ownBlock] using hk
    refine ⟨e2, ?_⟩
    rcases Nat.lt_or_ge q w.heap.size with hlt | hge
    · exact hlt
    · rw [Array.getElem?_eq_none hge] at e3; cases e3
theorem run_append_keep {P : Program} (w : World) (t ty : TypeId) (base : Nat) (e : TypeId) (i : TypeInfo) (z : Value) (size bytes : Nat) (ht : P.underlying t = some (.slice e)) (hi : P.info? e = some i) (hz : i.zero = some z)
    (hsize : i.size = size) (hby : i.bytes = bytes) (hzs : z.cells.size = size) (hsz : 0 < size)
    (v : Value) (n : Nat) (xs : List Value) (hown : w.ownsRow base e size v n xs)
    (ad : Addr) (m c : Nat) (news : List Value) (hl : news.length = m * size) (hnews : ∀ j u, news[j]? = some u → w.cell? (ad.add j) = some u) (h1 : ∀ u ∈ news, u.oneCell' = true)
    (hm : 0 < m) (h63 : n + m ≤ maxLen) (hbytes : (n + m) * bytes ≤ 140737488355328) (hbase : base ≤ w.heap.size) :
    ∃ v' w', (Builtin.append_ #[t, t] ty #[v, .slice (some ad) m c]).run P w = .ok v' w' ∧ w'.ownsRow base e size v' (n + m) (xs ++ news) ∧ Chg (fun k => v.ownBlock = some k) w w' ∧
      (v'.ownBlock = v.ownBlock ∨ ∃ q, v'.ownBlock = some q ∧ w.heap.size ≤ q) ∧ w'.ownsRow base e size v n xs ∧ (∀ u, u.ownBlock = v.ownBlock → w.ownsRow base e size u (n + m) (xs ++ news) → w'.ownsRow base e size u (n + m) (xs ++ news)) := by
  have hlen : (xs ++ news).length = (n + m) * size := by rw [List.length_append, hown.1, hl, Nat.add_mul]
  rcases hown.2 with ⟨rfl, rfl⟩ | ⟨g, cap, cur, rfl, hbg, hg, hnc, hcm, hcs, htake⟩
  · obtain ⟨v', w', hr, h2, h3, _, h5⟩ := run_append_own_at (P := P) w base t ty e i z size bytes ht hi hz hsize hby hzs hsz (.slice none 0 0) 0 xs hown ad m c news hl hnews h1 h63 hbytes hbase
    have hle : le w w' := le_of_grown h3
    refine ⟨v', w', hr, h2, Chg.of_le hle, ?_, ownsRow_le hown hle, fun u _ hu => ownsRow_le hu hle⟩
    rcases h5 with h5 | h5
    · exact .inl h5
    · exact .inr ⟨_, h5, Nat.le_refl _⟩
  · by_cases hroom : n + m ≤ cap
    · subst hsize
      have hfit : n * i.size + news.length ≤ cur.size := by rw [hl, hcs, ← Nat.add_mul]; exact Nat.mul_le_mul_right _ hroom
      have hr := run_append_room (P := P) w t ty e i ht hi g n cap cur hg ad m c news hl hnews h1 hroom hfit
      have hnew : (w.setRow g (cur.toList.take (n * i.size) ++ news ++ cur.toList.drop (n * i.size + news.length)).toArray).ownsRow base e i.size (.slice (some ⟨g, 0, none⟩) (n + m) cap) (n + m) (xs ++ news) := by
        refine ⟨hlen, .inr ⟨g, cap, _, rfl, hbg, setRow_heap w g cur _ e _ hg, hroom, hcm, ?_, ?_⟩⟩
        · simp only [List.size_toArray, List.length_append, List.length_take, List.length_drop, Array.length_toList]
          omega
        · rw [htake, ← hlen]
          exact List.take_left
      refine ⟨_, _, hr, hnew, ⟨rfl, rfl, rfl, by simp, fun k _ hk => setRow_other w g k _ (fun e => hk (by simp [Value.ownBlock, e]))⟩, .inl rfl, ?_, fun u hu ho => ?_⟩
      · refine ⟨hown.1, .inr ⟨g, cap, _, rfl, hbg, setRow_heap w g cur _ e _ hg, hnc, hcm, ?_, ?_⟩⟩
        · simp only [List.size_toArray, List.length_append, List.length_take, List.length_drop, Array.length_toList]
          omega
        · rw [htake, List.append_assoc, ← hown.1]
          exact List.take_left
      · rcases ho.2 with ⟨rfl, h0⟩ | ⟨g0, cap0, cur0, rfl, _, hg0, _, _, hs0, _⟩
        · omega
        · obtain rfl : g0 = g := by simpa [Value.ownBlock] using hu
          rw [hg] at hg0
          simp only [Option.some.injEq, Obj.cells.injEq] at hg0
          obtain ⟨rfl, _⟩ := hg0
          obtain rfl : cap = cap0 := Nat.eq_of_mul_eq_mul_right hsz (hcs.symm.trans hs0)
          exact hnew
    · obtain ⟨v', w', hr, h2, h3⟩ := run_append_arg_grows (P := P) w t ty e i z size bytes ht hi hz hsize hby hzs hsz ⟨g, 0, none⟩ n cap xs hown.1 (hown.cells (g := g) rfl) ad m c news hl hnews (by omega) h63 hbytes
      have hle : le w w' := le_of_grown h3
      obtain ⟨q, c', rfl, hq, _⟩ := h2.form (by omega)
      exact ⟨_, w', hr, ownsRow_mono h2 hbase, Chg.of_le hle, .inr ⟨q, rfl, hq⟩, ownsRow_le hown hle, fun u _ hu => ownsRow_le hu hle⟩
/-- Only the row that one owns is written, by one append. -/
def appX (base : Nat) (e : TypeId) (z : Nat) (v : Value) (n : Nat) (xs : List Value) (m : Nat) (news : List Value) : Ext where
  R w w' := Chg (fun k => v.ownBlock = some k) w w' ∧ (w.ownsRow base e z v n xs → w'.ownsRow base e z v n xs) ∧ (∀ u, u.ownBlock = v.ownBlock → w.ownsRow base e z u (n + m) (xs ++ news) → w'.ownsRow base e z u (n + m) (xs ++ news))
  refl w := ⟨Chg.refl _ w, fun h => h, fun _ _ h => h⟩
  trans h k := ⟨h.1.trans k.1, fun x => k.2.1 (h.2.1 x), fun u hu x => k.2.2 u hu (h.2.2 u hu x)⟩
  of_le h := ⟨Chg.of_le h, fun x => ownsRow_le x h, fun _ _ x => ownsRow_le x h⟩
section
variable {P : Program} {ops : Array Oper} {W : World} {K : FuncId → Array Value → World → Value → Prop} {Q : Act → World → Prop} {F : Facts} {k : Nat} {o : Oper} {rest : List Oper} {a : Act}
variable {base : Nat} {e : TypeId} {z : Nat} {v : Value} {n : Nat} {xs : List Value} {m : Nat} {news : List Value}
theorem appX_row {w : World} (hown : W.ownsRow base e z v n xs) (hw : (appX base e z v n xs m news).R W w) {q : Nat} {t : TypeId} {cs : Array Value} (hr : Row W q t cs) (hq : v.ownBlock ≠ some q) : Row w q t cs := hw.1.row hr hq
theorem wpFreeD_madeX (hown : W.ownsRow base e z v n xs) (hg : o.guard = none) (f : Nat → Value) (t : TypeId) (cs : Array Value) (hr : ∀ w, (execOp a.eval o).run P w = .ok (.value (f w.heap.size)) (w.alloc (.cells cs t)))
    (h : ∀ b, wpFreeD (appX base e z v n xs m news) P ops .any W K Q rest (k + 1) (a.put o.dst (f b)) (F.with k (fun w => ∃ b', f b = f b' ∧ Row w b' t cs))) : wpFreeD (appX base e z v n xs m news) P ops .any W K Q (o :: rest) k a F := by
  refine ⟨fun w u => ∃ b', u = f b' ∧ W.heap.size ≤ b' ∧ Row w b' t cs, ⟨fun u w w' hw hu => ?_, .inl ⟨by simp [Region.wanted, hg], fun w hw _ => ?_⟩⟩, fun u hu => ?_⟩
  · obtain ⟨b', e1, h2, hrow⟩ := hu
    exact ⟨b', e1, h2, hw.1.row hrow (fun e2 => by have := (ownsRow_lt hown _ e2).2; omega)⟩
  · rw [hr w]
    exact ⟨(appX base e z v n xs m news).of_le (le_alloc w _), w.heap.size, rfl, hw.1.size, Row.new w t cs⟩
  · obtain ⟨w, _, _, b, rfl, _⟩ := hu
    exact wpFreeD_weaken _ _ _ _ _ (fun e w h => ⟨h.1, fun he => by obtain ⟨b', e1, _, h2⟩ := h.2 he; exact ⟨b', e1, h2⟩⟩) (h b)
/-- What an append gives. -/
def Gave (W : World) (base : Nat) (e : TypeId) (z : Nat) (v : Value) (n : Nat) (xs : List Value) (w : World) (u : Value) : Prop := w.ownsRow base e z u n xs ∧ (u.ownBlock = v.ownBlock ∨ ∃ q, u.ownBlock = some q ∧ W.heap.size ≤ q)
theorem wpFreeD_appK (hown : W.ownsRow base e z v n xs) (hg : o.guard = none) {s x : Operand} {t : TypeId} (hop : o.op = .call { callee := .builtin .append, args := #[s, x], argTypes := #[t, t] }) {i : TypeInfo} {zv : Value} {bytes : Nat}
    (ht : P.underlying t = some (.slice e)) (hi : P.info? e = some i) (hz : i.zero = some zv) (hsize : i.size = z) (hby : i.bytes = bytes) (hzs : zv.cells.size = z) (hsz : 0 < z)
    (hs : a.eval s = v) {ad : Addr} {c : Nat} (hx : a.eval x = .slice (some ad) m c) (hl : news.length = m * z) (hnews : ∀ w, (appX base e z v n xs m news).R W w → behind .any o F w → ∀ j u, news[j]? = some u → w.cell? (ad.add j) = some u) (h1 : ∀ u ∈ news, u.oneCell' = true)
    (hm : 0 < m) (h63 : n + m ≤ maxLen) (hbytes : (n + m) * bytes ≤ 140737488355328) (hbase : base ≤ W.heap.size)
    (h : ∀ u, (∃ w, (appX base e z v n xs m news).R W w ∧ Gave W base e z v (n + m) (xs ++ news) w u) → wpFreeD (appX base e z v n xs m news) P ops .any W K Q rest (k + 1) (a.put o.dst u) (F.with k (fun w => Gave W base e z v (n + m) (xs ++ news) w u))) : wpFreeD (appX base e z v n xs m news) P ops .any W K Q (o :: rest) k a F := by
  refine ⟨Gave W base e z v (n + m) (xs ++ news), ⟨fun u w w' hw hu => ?_, .inl ⟨by simp [Region.wanted, hg], fun w hw hbe => ?_⟩⟩, fun u hu => h u (by obtain ⟨w, h1, _, h2⟩ := hu; exact ⟨w, h1, h2⟩)⟩
  · obtain ⟨g1, g2⟩ := hu
    refine ⟨?_, g2⟩
    by_cases hq : u.ownBlock = v.ownBlock
    · exact hw.2.2 u hq g1
    · exact ownsRow_keep g1 hw.1 (fun q e1 e2 => hq (e1.trans e2.symm))
  · obtain ⟨v', w', hr, r1, r2, r3, r4, r5⟩ := run_append_keep (P := P) w t o.type base e i zv z bytes ht hi hz hsize hby hzs hsz v n xs (hw.2.1 hown) ad m c news hl (hnews w hw hbe) h1 hm h63 hbytes (Nat.le_trans hbase hw.1.size)
    simp [execOp, hop, resolve, invoke, builtin, hs, hx, hr, Result.andThen, insideT]
    refine ⟨⟨r2, fun _ => r4, r5⟩, r1, ?_⟩
    rcases r3 with r3 | ⟨q, r3, r6⟩
    · exact .inl r3
    · exact .inr ⟨q, r3, Nat.le_trans hw.1.size r6⟩
end
end Go.Fk

/- 'rings': the rings of a pipe in one list. -/
namespace Go.Fk
open Go Go.RowKit
/-- Four cells a section. -/
def fourC (u u' : Nat → Value) (x y : Nat → CD) (i : Nat) : Value := match i % 4 with | 0 => u (i / 4) | 1 => .int .i64 (rgK x (i / 4)) | 2 => u' (i / 4) | _ => .int .i64 (rgK y (i / 4))
def fourL (u u' : Nat → Value) (x y : Nat → CD) (j : Nat) : List Value := (List.range (4 * j)).map (fourC u u' x y)
theorem fourL_succ (u u' : Nat → Value) (x y : Nat → CD) (j : Nat) : fourL u u' x y j ++ [u j, .int .i64 (rgK x j), u' j, .int .i64 (rgK y j)] = fourL u u' x y (j + 1) := by
  have e0 : fourC u u' x y (4 * j) = u j := by unfold fourC; rw [show 4 * j % 4 = 0 by omega, show 4 * j / 4 = j by omega]; rfl
  have e1 : fourC u u' x y (4 * j + 1) = .int .i64 (rgK x j) := by unfold fourC; rw [show (4 * j + 1) % 4 = 1 by omega, show (4 * j + 1) / 4 = j by omega]; rfl
  have e2 : fourC u u' x y (4 * j + 2) = u' j := by unfold fourC; rw [show (4 * j + 2) % 4 = 2 by omega, show (4 * j + 2) / 4 = j by omega]; rfl
  have e3 : fourC u u' x y (4 * j + 3) = .int .i64 (rgK y j) := by unfold fourC; rw [show (4 * j + 3) % 4 = 3 by omega, show (4 * j + 3) / 4 = j by omega]; rfl
  unfold fourL
  rw [show 4 * (j + 1) = 4 * j + 1 + 1 + 1 + 1 by omega, List.range_succ, List.range_succ, List.range_succ, List.range_succ]
  simp only [List.map_append, List.map_cons, List.map_nil, List.append_assoc, List.cons_append, List.nil_append, e0, e1, e2, e3]
theorem fourL_length (u u' : Nat → Value) (x y : Nat → CD) (j : Nat) : (fourL u u' x y j).length = 4 * j := by simp [fourL]
/-- The rings of two lists by turns. -/
def zN (x y : Nat → CD) (k : Nat) : Nat := if k % 2 = 0 then rgN x (k / 2) else rgN y (k / 2)
def zX (x y : Nat → CD) (k : Nat) : Nat → Nat := if k % 2 = 0 then rgX x (k / 2) else rgX y (k / 2)
def zK (x y : Nat → CD) (k : Nat) : Int := if k % 2 = 0 then rgK x (k / 2) else rgK y (k / 2)
theorem fourL_even {u u' : Nat → Value} {x y : Nat → CD} {n k : Nat} (hk : k < 2 * n) : (fourL u u' x y n)[k * 2]? = some (if k % 2 = 0 then u (k / 2) else u' (k / 2)) := by
  unfold fourL
  rw [List.getElem?_map, List.getElem?_range (by omega)]
  simp only [Option.map_some, fourC]
  rcases Nat.mod_two_eq_zero_or_one k with h | h
  · rw [show k * 2 % 4 = 0 by omega, show k * 2 / 4 = k / 2 by omega, if_pos h]; rfl
  · rw [show k * 2 % 4 = 2 by omega, show k * 2 / 4 = k / 2 by omega, if_neg (by omega)]; rfl
theorem fourL_odd {u u' : Nat → Value} {x y : Nat → CD} {n k : Nat} (hk : k < 2 * n) : (fourL u u' x y n)[k * 2 + 1]? = some (.int .i64 (zK x y k)) := by
  unfold fourL
  rw [List.getElem?_map, List.getElem?_range (by omega)]
  simp only [Option.map_some, fourC, zK]
  rcases Nat.mod_two_eq_zero_or_one k with h | h
  · rw [show (k * 2 + 1) % 4 = 1 by omega, show (k * 2 + 1) / 4 = k / 2 by omega, if_pos h]; rfl
  · rw [show (k * 2 + 1) % 4 = 3 by omega, show (k * 2 + 1) / 4 = k / 2 by omega, if_neg (by omega)]; rfl
/-- A list of rings where it lies. -/
def Rings (w : World) (B m : Nat) (X : Nat → Nat → Nat) (N : Nat → Nat) (K : Nat → Int) (v : Value) : Prop := ∃ q cap, v = .slice (some ⟨q, 0, none⟩) m cap ∧ m ≤ cap ∧ cap ≤ maxLen ∧ ∀ k, k < m → ∃ u, w.cell? ⟨q, k * 2, none⟩ = some u ∧ w.cell? ⟨q, k * 2 + 1, none⟩ = some (.int .i64 (K k)) ∧ RdS w B u (X k) (N k)
theorem appX_cell {W w : World} {base : Nat} {e : TypeId} {z : Nat} {v : Value} {n : Nat} {xs : List Value} {m : Nat} {news : List Value} (hw : (appX base e z v n xs m news).R W w) {p : Addr} {x : Value} (hc : W.cell? p = some x) (hp : v.ownBlock ≠ some p.block) : w.cell? p = some x :=
  (cell_of_heap (hw.1.block _ (World.block_lt_of_cell? W _ hc) hp)).trans hc
end Go.Fk
namespace Go.Proofs.Ytappbiijmjjpaad
open Go.RowKit Go.Fk
theorem fill_four (ti : TypeInfo) (p q r t : Value) (h : ti.size = 2) : Instr.fill (fun i => some (i * ti.size, ti.size)) ((Array.range (2 * ti.size)).map ((.agg #[.slice none 0 0, .int .i64 0] : Value).cells[· % (.agg #[.slice none 0 0, .int .i64 0] : Value).cells.size]!)) (#[(0, .agg #[p, q]), (1, .agg #[r, t])] : Array (Nat × Value)).toList = some #[p, q, r, t] := by
  rw [h]
  have hr : Array.range (2 * 2) = #[0, 1, 2, 3] := by decide
  rw [hr]
  simp [Instr.fill, Value.cells]
theorem ringInfo : (Try.prog.info? 48).map (fun i => (i.zero, i.size, i.bytes)) = some (some (.agg #[.slice none 0 0, .int .i64 0]), 2, 32) := by kernel_rfl
set_option maxRecDepth 100000 in
set_option maxHeartbeats 2000000 in
theorem i_rings (B b0 o0 k0 b1 o1 k1 n : Nat) (v2 : Value) (xR xL : Nat → CD) (k : Int) (a b c x y : Nat) (op : Bool) (l r s : Nat) (w : World) (n1 : 1 ≤ n) (n3 : n ≤ 3) (h0 : (CD.sl 2 n xR).RdN w B (.slice (some ⟨b0, o0, none⟩) n k0)) (h1 : (CD.sl 2 n xL).RdN w B (.slice (some ⟨b1, o1, none⟩) n k1)) (p0 : RgsOk xR n) (p1 : RgsOk xL n) :
    Calls Try.prog 18 #[.agg #[.slice (some ⟨b0, o0, none⟩) n k0, .slice (some ⟨b1, o1, none⟩) n k1, v2, .int .i64 k, .float .f32 a, .float .f32 b, .float .f32 c, .float .f32 x, .float .f32 y, .bool op, .float .f32 l, .float .f32 r, .float .f32 s]] w (fun e w' => ∃ v, e = .returned v ∧ Rings w' B (2 * n) (zX xR xL) (zN xR xL) (zK xR xL) v ∧ le w w') := by
  have CR := fun t (ht : t < n) => p0.at h0 ht
  have CL := fun t (ht : t < n) => p1.at h1 ht
  have CR' : ∀ t, ∃ u, t < n → w.cell? ⟨b0, o0 + t * 2, none⟩ = some u ∧ w.cell? ⟨b0, o0 + t * 2 + 1, none⟩ = some (.int .i64 (rgK xR t)) ∧ RdS w B u (rgX xR t) (rgN xR t) := fun t => by
    by_cases ht : t < n
    · obtain ⟨u, e1, e2, _, e3⟩ := CR t ht; exact ⟨u, fun _ => ⟨e1, e2, e3⟩⟩
    · exact ⟨default, fun h => absurd h ht⟩
  have CL' : ∀ t, ∃ u, t < n → w.cell? ⟨b1, o1 + t * 2, none⟩ = some u ∧ w.cell? ⟨b1, o1 + t * 2 + 1, none⟩ = some (.int .i64 (rgK xL t)) ∧ RdS w B u (rgX xL t) (rgN xL t) := fun t => by
    by_cases ht : t < n
    · obtain ⟨u, e1, e2, _, e3⟩ := CL t ht; exact ⟨u, fun _ => ⟨e1, e2, e3⟩⟩
    · exact ⟨default, fun h => absurd h ht⟩
  obtain ⟨uR, HR⟩ := Classical.axiomOfChoice CR'
  obtain ⟨uL, HL⟩ := Classical.axiomOfChoice CL'
  replace HR := hid HR; replace HL := hid HL
  obtain ⟨ti, hti, htz, hts, htb⟩ : ∃ i, Try.prog.info? 48 = some i ∧ i.zero = some (.agg #[.slice none 0 0, .int .i64 0]) ∧ i.size = 2 ∧ i.bytes = 32 := by
    have h := ringInfo
    cases hi : Try.prog.info? 48 with
    | none => rw [hi] at h; simp at h
    | some i => rw [hi] at h; simp at h; exact ⟨i, rfl, h.1, h.2.1, h.2.2⟩
  have HT := hid (And.intro hti (And.intro htz (And.intro hts htb)))
  clear CR CL CR' CL' h0 h1 p0 p1 hti htz hts htb
  have F := (Frg.nil w).box 38 #[.slice (some ⟨b0, o0, none⟩) n k0, .slice (some ⟨b1, o1, none⟩) n k1, v2, .int .i64 k, .float .f32 a, .float .f32 b, .float .f32 c, .float .f32 x, .float .f32 y, .bool op, .float .f32 l, .float .f32 r, .float .f32 s]
  have c0 := (F.row m0).cell? 0
  have c1 := hid ((F.row m0).cell? 1)
  have HW := hid F.below
  clear F
  go_enter Try.func18, Try.ntmps18
  go_wp2_with fail
  have hsz : (w.alloc (.cells #[.slice (some ⟨b0, o0, none⟩) n k0, .slice (some ⟨b1, o1, none⟩) n k1, v2, .int .i64 k, .float .f32 a, .float .f32 b, .float .f32 c, .float .f32 x, .float .f32 y, .bool op, .float .f32 l, .float .f32 r, .float .f32 s] 38)).heap.size = w.heap.size + 1 := by simp
  generalize hWB : w.alloc _ = wB at *
  replace hsz := hid hsz
  clear hWB
  go_loopw [3, 9] (fun v i wr => ∃ j : Nat, j ≤ n ∧ i = .int .i64 j ∧ Hid (wr.ownsRow wB.heap.size 48 2 v (2 * j) (fourL uR uL xR xL j)) ∧ Hid (le wB wr)) (fun _ i _ => n - (intOf i).toNat)
  case atStart => exact ⟨0, by omega, rfl, World.ownsRow_nil _ _ _ _, le_refl _⟩
  case round =>
    obtain ⟨j, hj, rfl, HO, HB⟩ := hrel
    rename_i v wr _
    by_cases hlt : j < n
    · obtain ⟨d0, d1, dr⟩ := HR.out j hlt
      obtain ⟨e0, e1, er⟩ := HL.out j hlt
      have hlb := le_trans HW.out HB.out
      have gx : Hid (∀ (i : Nat) (q : Value), [uR j, .int .i64 (rgK xR j)][i]? = some q → wr.cell? ((⟨b0, o0 + j * 2, none⟩ : Addr).add i) = some q) := fun i q hi => by
        rw [add_none]
        match i, hi with
        | 0, hi => simp at hi; subst hi; exact (Below.cell hlb (cell_lt' d0)).trans d0
        | 1, hi => simp at hi; subst hi; exact (Below.cell hlb (cell_lt' d1)).trans d1
      have ou := hid dr.one
      have ov := hid er.one
      have F := Frg.nil wr
      have D0 := hid d0; have E0 := hid e0; have E1 := hid e1
      clear c0 d0 d1 e0 e1 dr er hlb
      go_wp2_with (first | (with_reducible refine wpList_indexW0 rfl rfl rfl rfl Try.underlying35 uinfoRingI hlt ?_) | ((with_reducible refine at_loadU (ty := 48) rfl rfl ?_); (with_reducible refine wpList_loadW rfl rfl rfl [uR j, .int .i64 (rgK xR j)] gx.out Try.underlying48 rfl uinfoRingI rfl ?_)) | ((with_reducible refine at_store rfl ?_); (refine wpList_storeG F rfl rfl rfl rfl rfl uinfoRingI rfl (by first | exact one_head ou.out rfl) ?_; clear F; intro W F zW; clear zW)))
      have FD := F.drewN 1
      have R5 := FD.row m0
      have HO1 := ownsRow_le HO.out FD.below
      have hol := ownsRow_lt HO.out
      have hlb := le_trans HB.out FD.below
      have hlw := le_trans HW.out hlb
      have z1 := (Below.cell hlb (by show w.heap.size < wB.heap.size; have := hsz.out; omega)).trans c1.out
      have z2 := (Below.cell hlw (cell_lt' E0.out)).trans E0.out
      have z3 := (Below.cell hlw (cell_lt' E1.out)).trans E1.out
      have hb1 : b1 < w.heap.size := cell_lt' E0.out
      have hws := hsz.out
      have hwr := HB.out.size
      have far : ∀ q, q < wB.heap.size ∨ wr.heap.size ≤ q → u3.ownBlock ≠ some q := fun q hq hh => by have := hol q hh; omega
      refine region_freeD (E := appX wB.heap.size 48 2 u3 (2 * j) (fourL uR uL xR xL j) 2 [uR j, .int .i64 (rgK xR j), uL j, .int .i64 (rgK xL j)]) (fun _ _ _ _ => True) (by kernel_rfl) (by kernel_rfl) ?_
      refine wpFreeD_one rfl u3 (fun w1 _ => by kernel_rfl) ?_
      simp only [Act.put, List.setIfInBounds_toArray, List.set_cons_succ, List.set_cons_zero]
      refine wpFreeD_loadW rfl rfl rfl [uR j, .int .i64 (rgK xR j)] (fun w1 h1 i q hi => ?_) Try.underlying48 rfl uinfoRingI rfl ?_
      · rw [add_none]
        match i, hi with
        | 0, hi => simp at hi; subst hi; exact appX_cell h1 (R5.cell? 0) (far _ (.inr (Nat.le_refl _)))
        | 1, hi => simp at hi; subst hi; exact appX_cell h1 (R5.cell? 1) (far _ (.inr (Nat.le_refl _)))
      simp only [Act.put, List.setIfInBounds_toArray, List.set_cons_succ, List.set_cons_zero]
      refine wpFreeD_one rfl (.pointer (some ⟨w.heap.size, 1, none⟩)) (fun w1 _ => by kernel_rfl) ?_
      simp only [Act.put, List.setIfInBounds_toArray, List.set_cons_succ, List.set_cons_zero]
      refine wpFreeD_load1 rfl rfl rfl (p := ⟨w.heap.size, 1, none⟩) (fun w1 h1 => appX_cell h1 z1 (far _ (.inl (by show w.heap.size < _; omega)))) ukindRingSI ?_
      simp only [Act.put, List.setIfInBounds_toArray, List.set_cons_succ, List.set_cons_zero]
      refine wpFreeD_one rfl (.int .i64 j) (fun w1 _ => by kernel_rfl) ?_
      simp only [Act.put, List.setIfInBounds_toArray, List.set_cons_succ, List.set_cons_zero]
      refine wpFreeD_indexW0 rfl rfl rfl rfl Try.underlying35 uinfoRingI hlt ?_
      simp only [Act.put, List.setIfInBounds_toArray, List.set_cons_succ, List.set_cons_zero]
      refine wpFreeD_loadW rfl rfl rfl [uL j, .int .i64 (rgK xL j)] (fun w1 h1 i q hi => ?_) Try.underlying48 rfl uinfoRingI rfl ?_
      · rw [add_none]
        match i, hi with
        | 0, hi => simp at hi; subst hi; exact appX_cell h1 z2 (far _ (.inl (by show b1 < _; omega)))
        | 1, hi => simp at hi; subst hi; exact appX_cell h1 z3 (far _ (.inl (by show b1 < _; omega)))
      simp only [Act.put, List.setIfInBounds_toArray, List.set_cons_succ, List.set_cons_zero]
      refine wpFreeD_madeX HO1 rfl (fun q => .slice (some ⟨q, 0, none⟩) 2 2) 48 #[uR j, .int .i64 (rgK xR j), uL j, .int .i64 (rgK xL j)] (fun w1 => ?_) (fun q => ?_)
      · have hb := run_buildSlice (P := Try.prog) w1 35 48 2 #[(0, .agg #[uR j, .int .i64 (rgK xR j)]), (1, .agg #[uL j, .int .i64 (rgK xL j)])] #[uR j, .int .i64 (rgK xR j), uL j, .int .i64 (rgK xL j)] ti _ Try.underlying35 HT.out.1 HT.out.2.1 (by rw [HT.out.2.2.1]; decide) (by rw [HT.out.2.2.1]; decide) (fill_four _ _ _ _ _ HT.out.2.2.1)
        simp [execOp, Act.eval, Result.andThen, hb]
      simp only [Act.put, List.setIfInBounds_toArray, List.set_cons_succ, List.set_cons_zero]
      refine wpFreeD_appK HO1 rfl rfl Try.underlying35 HT.out.1 HT.out.2.1 HT.out.2.2.1 HT.out.2.2.2 rfl (by omega) rfl (ad := ⟨q, 0, none⟩) rfl rfl (fun w1 h1 hbe => ?_) ?_ (by omega) (by unfold maxLen; omega) (by omega) (Nat.le_trans hwr FD.below.size) (fun u hu => ?_)
      · obtain ⟨q', e1, hrow⟩ := (hbe ⟨7, Ground.data⟩ (by simp) (by kernel_rfl)).2 rfl
        obtain rfl : q = q' := by simpa using e1
        intro i x hi
        rw [add_none, hrow.cell?, Nat.zero_add, ← hi]
        simp
      · have := ou.out; have := ov.out
        intro x hx
        simp only [List.mem_cons, List.not_mem_nil, or_false] at hx
        rcases hx with rfl | rfl | rfl | rfl
        · exact ou.out
        · rfl
        · exact ov.out
        · rfl
      simp only [Act.put, List.setIfInBounds_toArray, List.set_cons_succ, List.set_cons_zero]
      refine wpFreeD_one rfl u (fun w1 _ => by kernel_rfl) ?_
      simp only [Act.put, List.setIfInBounds_toArray, List.set_cons_succ, List.set_cons_zero]
      refine wpFreeD_nil (fun wR hwR hF => ?_)
      have hG := ((hF 8).1.2 rfl).1
      rw [fourL_succ] at hG
      have HO2 := hid hG
      have HB2 := hid (Below.trans hlb (hwR.1.below (B := wB.heap.size) (fun q hq => (hol q hq).1) hlb.size))
      clear hF hwR hG hu hol far z1 z2 z3 R5 HO1 FD F hlb hlw
      go_wp2
      go_roundw
      case rel => exact ⟨j + 1, by omega, by go_num, HO2.out, HB2.out⟩
      case measure => simp [intOf]; omega
    · obtain rfl : j = n := by omega
      go_wp2
      go_ret
      obtain ⟨q, cap, hv, hq, _⟩ := HO.out.form (by omega)
      subst hv
      refine ⟨_, rfl, ⟨q, cap, rfl, ?_, ?_, fun k hk => ?_⟩, le_trans HW.out HB.out⟩
      · rcases HO.out.2 with ⟨h, _⟩ | ⟨g, cap', cur, h, _, _, h3, _⟩
        · cases h
        · cases h; exact h3
      · rcases HO.out.2 with ⟨h, _⟩ | ⟨g, cap', cur, h, _, _, _, h3, _⟩
        · cases h
        · cases h; exact h3
      · have hc := HO.out.cells (g := q) rfl
        have c1 := hc _ _ (fourL_even hk)
        have c2 := hc _ _ (fourL_odd hk)
        rw [add_none, Nat.zero_add] at c1 c2
        refine ⟨_, c1, c2, ?_⟩
        unfold zX zN
        have hlb := le_trans HW.out HB.out
        by_cases h2 : k % 2 = 0
        · rw [if_pos h2, if_pos h2, if_pos h2]; exact ((HR.out (k / 2) (by omega)).2.2).le hlb
        · rw [if_neg h2, if_neg h2, if_neg h2]; exact ((HL.out (k / 2) (by omega)).2.2).le hlb
end Go.Proofs.Ytappbiijmjjpaad

/- Exactness: what a format has is written as it stands. Nothing here names a program. -/
namespace Go.Fk
open Go Go.RowKit

theorem cut_zero (s : Bool) (n : Nat) : Ieee.Toward.even.cut s n 0 = n := by
  simp [Ieee.Toward.cut, Nat.mod_one]

/-- What is cut off leaves nothing behind: the quotient. -/
theorem cut_exact (s : Bool) (n d : Nat) : Ieee.Toward.even.cut s (n * 2 ^ d) d = n := by
  by_cases hn : n = 0
  · subst hn
    have hp := Nat.two_pow_pos (min d (Nat.log2 0 + 2))
    simp only [Ieee.Toward.cut, Nat.zero_mul, Nat.one_shiftLeft, Nat.zero_div, Nat.zero_mod]
    simp
  · have h0 : n * 2 ^ d ≠ 0 := Nat.mul_ne_zero hn (Nat.ne_of_gt (Nat.two_pow_pos d))
    have hd : d ≤ (n * 2 ^ d).log2 := by
      refine (Nat.le_log2 h0).2 ?_
      exact Nat.le_mul_of_pos_left _ (by omega)
    have hp := Nat.two_pow_pos d
    simp only [Ieee.Toward.cut, Nat.one_shiftLeft]
    rw [Nat.min_eq_left (by omega), Nat.mul_div_cancel _ hp, Nat.mul_mod_left]
    simp

theorem cut_scale (s : Bool) (n d j : Nat) (hn : n ≠ 0) : Ieee.Toward.even.cut s (n * 2 ^ j) (d + j) = Ieee.Toward.even.cut s n d := by
  have hl : (n * 2 ^ j).log2 = n.log2 + j := by
    have h0 : n * 2 ^ j ≠ 0 := Nat.mul_ne_zero hn (Nat.ne_of_gt (Nat.two_pow_pos j))
    refine (Nat.log2_eq_iff h0).2 ⟨?_, ?_⟩
    · rw [Nat.pow_add]; exact Nat.mul_le_mul_right _ (Nat.log2_self_le hn)
    · rw [show n.log2 + j + 1 = (n.log2 + 1) + j by omega, Nat.pow_add]
      exact Nat.mul_lt_mul_of_pos_right Nat.lt_log2_self (Nat.two_pow_pos j)
  have hp := Nat.two_pow_pos j
  simp only [Ieee.Toward.cut, Nat.one_shiftLeft, hl]
  rw [show min (d + j) (n.log2 + j + 2) = min d (n.log2 + 2) + j by omega, Nat.pow_add, Nat.mul_div_mul_right _ _ hp, Nat.mul_mod_mul_right]
  generalize 2 ^ min d (n.log2 + 2) = g
  have e1 : decide (g * 2 ^ j < 2 * (n % g * 2 ^ j)) = decide (g < 2 * (n % g)) := by
    rw [← Nat.mul_assoc]
    exact decide_eq_decide.2 (Nat.mul_lt_mul_right hp)
  have e2 : (g * 2 ^ j == 2 * (n % g * 2 ^ j)) = (g == 2 * (n % g)) := by
    rw [← Nat.mul_assoc, Bool.eq_iff_iff, beq_iff_eq, beq_iff_eq]
    exact Nat.mul_left_inj (by omega)
  rw [e1, e2]

theorem log2_scale {n : Nat} (hn : n ≠ 0) (j : Nat) : (n * 2 ^ j).log2 = n.log2 + j := by
  have h0 : n * 2 ^ j ≠ 0 := Nat.mul_ne_zero hn (Nat.ne_of_gt (Nat.two_pow_pos j))
  refine (Nat.log2_eq_iff h0).2 ⟨?_, ?_⟩
  · rw [Nat.pow_add]; exact Nat.mul_le_mul_right _ (Nat.log2_self_le hn)
  · rw [show n.log2 + j + 1 = (n.log2 + 1) + j by omega, Nat.pow_add]
    exact Nat.mul_lt_mul_of_pos_right Nat.lt_log2_self (Nat.two_pow_pos j)

/-- What is written speaks of the number alone, not of how it is split. -/
theorem nearest_scale (f : Ieee.Format) (s : Bool) (m j : Nat) (e : Int) : f.nearest s (m * 2 ^ j) (e - j) = f.nearest s m e := by
  by_cases hm : m = 0
  · subst hm; simp [Ieee.Format.nearest]
  have h0 : m * 2 ^ j ≠ 0 := Nat.mul_ne_zero hm (Nat.ne_of_gt (Nat.two_pow_pos j))
  unfold Ieee.Format.nearest
  rw [if_neg hm, if_neg h0, log2_scale hm]
  rw [show e - (j : Int) + ((m.log2 + j : Nat) : Int) - f.fractionBits = e + m.log2 - f.fractionBits by omega]
  generalize max (e + (m.log2 : Int) - f.fractionBits) f.leastPlace = last
  dsimp only
  congr 3
  simp only [Nat.shiftLeft_eq]
  by_cases h1 : e ≤ last
  · rw [show (e - (j : Int) - last).toNat = 0 by omega, show (e - last).toNat = 0 by omega, show (last - (e - (j : Int))).toNat = (last - e).toNat + j by omega]
    simpa using cut_scale s m _ j hm
  · by_cases h2 : last ≤ e - j
    · rw [show (last - (e - (j : Int))).toNat = 0 by omega, show (last - e).toNat = 0 by omega, cut_zero, cut_zero, Nat.mul_assoc, ← Nat.pow_add,
        show j + (e - (j : Int) - last).toNat = (e - last).toNat by omega]
    · rw [show (e - (j : Int) - last).toNat = 0 by omega, show (last - e).toNat = 0 by omega, cut_zero, Nat.pow_zero, Nat.mul_one,
        show j = (e - last).toNat + (last - (e - (j : Int))).toNat by omega, Nat.pow_add, ← Nat.mul_assoc]
      rw [show (last - (e - (((e - last).toNat + (last - (e - (j : Int))).toNat : Nat) : Int))).toNat = (last - (e - (j : Int))).toNat by omega]
      exact cut_exact s _ _

/-- The place of the last digit that is kept. -/
def lastOf (f : Ieee.Format) (m : Nat) (e : Int) : Int := max (e + m.log2 - f.fractionBits) f.leastPlace

/-- A number that the format has is read as it was written, shifted to the format's own place. -/
theorem read_nearest (f : Ieee.Format) (s : Bool) (m : Nat) (e : Int) (hm : m ≠ 0) (hp : m.log2 ≤ f.fractionBits) (he : f.leastPlace ≤ e)
    (ho : e + m.log2 - f.fractionBits ≤ f.leastPlace + 2 ^ f.exponentBits - 3) (hx : 2 ≤ f.exponentBits) :
    f.read (f.nearest s m e) = .number s (m * 2 ^ (e - lastOf f m e).toNat) (lastOf f m e) ∧ f.nearest s m e % f.signWeight < f.infRung := by
  have hx4 : (4 : Int) ≤ 2 ^ f.exponentBits := by
    have h : 2 ^ 2 ≤ 2 ^ f.exponentBits := Nat.pow_le_pow_right (by omega) hx
    exact_mod_cast h
  have hb : f.binade = 2 ^ f.fractionBits := rfl
  have hbp : 0 < f.binade := by rw [hb]; exact Nat.two_pow_pos _
  have hl1 : lastOf f m e ≤ e := by unfold lastOf; omega
  have hl2 : f.leastPlace ≤ lastOf f m e := by unfold lastOf; omega
  have hl3 : lastOf f m e ≤ f.leastPlace + 2 ^ f.exponentBits - 3 := by unfold lastOf; omega
  have hlog : (m * 2 ^ (e - lastOf f m e).toNat).log2 = m.log2 + (e - lastOf f m e).toNat := log2_scale hm _
  have hM0 : m * 2 ^ (e - lastOf f m e).toNat ≠ 0 := Nat.mul_ne_zero hm (Nat.ne_of_gt (Nat.two_pow_pos _))
  have hM : m * 2 ^ (e - lastOf f m e).toNat < 2 * f.binade := by
    have h1 : m.log2 + (e - lastOf f m e).toNat ≤ f.fractionBits := by unfold lastOf; omega
    have := @Nat.lt_log2_self (m * 2 ^ (e - lastOf f m e).toNat)
    rw [hlog] at this
    calc _ < _ := this
      _ ≤ 2 ^ (f.fractionBits + 1) := Nat.pow_le_pow_right (by omega) (by omega)
      _ = 2 * f.binade := by rw [Nat.pow_succ, ← hb]; omega
  have hfull : f.leastPlace < lastOf f m e → f.binade ≤ m * 2 ^ (e - lastOf f m e).toNat := by
    intro h
    have h1 : m.log2 + (e - lastOf f m e).toNat = f.fractionBits := by unfold lastOf at h ⊢; omega
    have := Nat.log2_self_le hM0
    rw [hlog, h1, ← hb] at this
    exact this
  have hn : f.nearest s m e = f.word s (min ((lastOf f m e - f.leastPlace).toNat * f.binade + m * 2 ^ (e - lastOf f m e).toNat) f.infRung) := by
    unfold Ieee.Format.nearest
    rw [if_neg hm]
    show f.word s (min ((lastOf f m e - f.leastPlace).toNat * f.binade + Ieee.Toward.even.cut s (m <<< (e - lastOf f m e).toNat) (lastOf f m e - e).toNat) f.infRung) = _
    rw [show (lastOf f m e - e).toNat = 0 by omega, cut_zero, Nat.shiftLeft_eq]
  generalize hM' : m * 2 ^ (e - lastOf f m e).toNat = M at *
  generalize hq : (lastOf f m e - f.leastPlace).toNat = q at *
  have hq2 : q + 3 ≤ 2 ^ f.exponentBits := by
    have : (q : Int) + 3 ≤ ((2 ^ f.exponentBits : Nat) : Int) := by push_cast; omega
    exact_mod_cast this
  have hr : q * f.binade + M < f.infRung := by
    unfold Ieee.Format.infRung
    have h1 : (q + 2) * f.binade ≤ (2 ^ f.exponentBits - 1) * f.binade := Nat.mul_le_mul_right _ (by omega)
    rw [Nat.add_mul] at h1
    omega
  have hs : f.infRung < f.signWeight := Ieee.Format.infRung_lt _
  rw [Nat.min_eq_left (Nat.le_of_lt hr)] at hn
  rw [hn]
  have hmod := word_mod f s (r := q * f.binade + M) (by omega)
  refine ⟨?_, by rw [hmod]; exact hr⟩
  have hsg : (f.word s (q * f.binade + M) / f.signWeight % 2 == 1) = s := by
    unfold Ieee.Format.word
    cases s
    · simp [Nat.div_eq_of_lt (show q * f.binade + M < f.signWeight by omega)]
    · simp [Nat.add_div_left _ (show 0 < f.signWeight by omega), Nat.div_eq_of_lt (show q * f.binade + M < f.signWeight by omega)]
  unfold Ieee.Format.read
  simp only [hmod, hsg]
  by_cases hsub : q * f.binade + M < f.binade
  · rw [if_pos hsub]
    have hq0 : q = 0 := by
      apply Nat.eq_zero_of_not_pos
      intro h
      have : 1 * f.binade ≤ q * f.binade := Nat.mul_le_mul_right _ h
      omega
    rw [hq0]
    congr 1
    · simp
    · omega
  · rw [if_neg hsub, if_pos hr]
    have hMb : f.binade ≤ M := by
      by_cases h : f.leastPlace < lastOf f m e
      · exact hfull h
      · have : q = 0 := by omega
        rw [this] at hsub; omega
    have e1 : (q * f.binade + M) % f.binade = M - f.binade := by
      rw [Nat.mul_add_mod_self_right, Nat.mod_eq_sub_mod hMb, Nat.mod_eq_of_lt (by omega)]
    have e2 : (q * f.binade + M) / f.binade = q + 1 := by
      rw [Nat.mul_comm, Nat.mul_add_div hbp]
      congr 1
      rw [show M = f.binade + (M - f.binade) by omega, Nat.add_div_left _ hbp, Nat.div_eq_of_lt (by omega)]
    rw [e1, e2]
    congr 1
    · omega
    · omega

/-- What is read is written back. -/
theorem write_read (f : Ieee.Format) (hx : 2 ≤ f.exponentBits) (b : Nat) {s : Bool} {m : Nat} {e : Int} (h : f.read b = .number s m e) : f.nearest s m e = f.word s (b % f.signWeight) := by
  have hb : f.binade = 2 ^ f.fractionBits := rfl
  have hbp : 0 < f.binade := by rw [hb]; exact Nat.two_pow_pos _
  have hx4 : 4 ≤ 2 ^ f.exponentBits := Nat.pow_le_pow_right (n := 2) (by omega) hx
  have hinf : f.binade ≤ f.infRung := by
    unfold Ieee.Format.infRung
    exact Nat.le_mul_of_pos_left _ (by omega)
  unfold Ieee.Format.read at h
  dsimp only at h
  generalize b % f.signWeight = r at *
  split at h
  · rename_i h1
    simp only [Ieee.Datum.number.injEq] at h
    obtain ⟨_, rfl, rfl⟩ := h
    by_cases h0 : r = 0
    · subst h0; simp [Ieee.Format.nearest]
    · unfold Ieee.Format.nearest
      rw [if_neg h0]
      have h2 := h1
      rw [hb] at h2
      have := (Nat.log2_lt h0).2 h2
      rw [show max (f.leastPlace + (r.log2 : Int) - f.fractionBits) f.leastPlace = f.leastPlace by omega]
      simp only [Int.sub_self, Int.toNat_zero, Nat.shiftLeft_zero, cut_zero, Nat.zero_mul, Nat.zero_add]
      rw [Nat.min_eq_left (by omega)]
  · rename_i h1
    split at h
    · rename_i h2
      simp only [Ieee.Datum.number.injEq] at h
      obtain ⟨_, rfl, rfl⟩ := h
      have hlt := Nat.mod_lt r hbp
      have h0 : f.binade + r % f.binade ≠ 0 := by omega
      have e1 : (f.binade + r % f.binade).log2 = f.fractionBits := by
        refine (Nat.log2_eq_iff h0).2 ⟨?_, ?_⟩
        · rw [← hb]; omega
        · rw [Nat.pow_succ, ← hb]; omega
      have h3 : 1 ≤ r / f.binade := (Nat.le_div_iff_mul_le hbp).2 (by omega)
      unfold Ieee.Format.nearest
      rw [if_neg h0, e1]
      rw [show max (f.leastPlace + ((r / f.binade - 1 : Nat) : Int) + (f.fractionBits : Int) - f.fractionBits) f.leastPlace = f.leastPlace + ((r / f.binade - 1 : Nat) : Int) by omega]
      simp only [Int.sub_self, Int.toNat_zero, Nat.shiftLeft_zero, cut_zero]
      rw [show (f.leastPlace + ((r / f.binade - 1 : Nat) : Int) - f.leastPlace).toNat = r / f.binade - 1 by omega]
      have h4 : (r / f.binade - 1) * f.binade + (f.binade + r % f.binade) = r := by
        have h5 := Nat.div_add_mod r f.binade
        have h6 : (r / f.binade - 1) * f.binade + f.binade = r / f.binade * f.binade := by
          rw [← Nat.succ_mul]; congr 1; omega
        rw [Nat.mul_comm] at h5
        omega
      rw [h4, Nat.min_eq_left (by omega)]
    · split at h <;> cases h

theorem bits32 : FloatKind.f32.format.exponentBits = 8 ∧ FloatKind.f32.format.fractionBits = 23 ∧ FloatKind.f32.format.leastPlace = -149 ∧ FloatKind.f32.format.signWeight = 2147483648 ∧ FloatKind.f32.format.infRung = 2139095040 := by decide
theorem bits64 : FloatKind.f64.format.exponentBits = 11 ∧ FloatKind.f64.format.fractionBits = 52 ∧ FloatKind.f64.format.leastPlace = -1074 ∧ FloatKind.f64.format.signWeight = 9223372036854775808 ∧ FloatKind.f64.format.infRung = 9218868437227405312 := by decide

/-- What a narrow number's datum is made of. -/
theorem read32 {b : Nat} {s : Bool} {m : Nat} {e : Int} (h : FloatKind.f32.format.read b = .number s m e) : -149 ≤ e ∧ (m ≠ 0 → m.log2 ≤ 23 ∧ e + m.log2 + 1 ≤ 128) := by
  refine ⟨?_, fun h0 => ⟨?_, lt32 h h0⟩⟩
  all_goals
    have e1 : Ieee.single.signWeight = 2147483648 := by decide
    have e2 : Ieee.single.infRung = 2139095040 := by decide
    have e3 : Ieee.single.binade = 8388608 := by decide
    have e4 : Ieee.single.leastPlace = -149 := by decide
    simp only [FloatKind.format, Ieee.Format.read, e1, e2, e3, e4] at h
    split at h
    · simp only [Ieee.Datum.number.injEq] at h
      obtain ⟨_, rfl, rfl⟩ := h
      first | omega | (have : (b % 2147483648).log2 < 23 := (Nat.log2_lt h0).2 (by omega)
                       omega)
    · split at h
      · simp only [Ieee.Datum.number.injEq] at h
        obtain ⟨_, rfl, rfl⟩ := h
        first | omega | (have : (8388608 + b % 2147483648 % 8388608).log2 < 24 := (Nat.log2_lt h0).2 (by omega)
                         omega)
      · split at h <;> cases h

/-- A narrow number is widened exactly. -/
theorem read_widen {b : Nat} {s : Bool} {m : Nat} {e : Int} (h : FloatKind.f32.format.read b = .number s m e) :
    ∃ j : Nat, ∃ e', FloatKind.f64.format.read (widen b) = .number s (m * 2 ^ j) e' ∧ (m ≠ 0 → e' = e - j) ∧ widen b % 9223372036854775808 < 9218868437227405312 := by
  obtain ⟨b1, b2, b3, b4, b5⟩ := bits64
  obtain ⟨h1, h2⟩ := read32 h
  have hw : widen b = FloatKind.f64.format.nearest s m e := by simp only [widen, h]; rfl
  rw [hw]
  by_cases hm : m = 0
  · subst hm
    refine ⟨0, -1074, ?_, fun h => absurd rfl h, ?_⟩
    · cases s <;> simp [Ieee.Format.nearest, Ieee.Format.word] <;> decide
    · cases s <;> simp [Ieee.Format.nearest, Ieee.Format.word] <;> decide
  · obtain ⟨h3, h4⟩ := h2 hm
    obtain ⟨h5, h6⟩ := read_nearest FloatKind.f64.format s m e hm (by omega) (by omega) (by rw [b1, b2, b3]; omega) (by omega)
    rw [b4, b5] at h6
    refine ⟨_, _, h5, fun _ => ?_, h6⟩
    have : lastOf FloatKind.f64.format m e ≤ e := by unfold lastOf; omega
    omega
end Go.Fk
namespace Go.Fk
open Go Go.RowKit
theorem read_mod {k : FloatKind} {b : Nat} {s : Bool} {m : Nat} {e : Int} (h : k.format.read b = .number s m e) : k.format.read (b % k.format.signWeight) = .number false m e := by
  have hs : 0 < k.format.signWeight := by unfold Ieee.Format.signWeight; exact Nat.two_pow_pos _
  have e1 : (b % k.format.signWeight / k.format.signWeight % 2 == 1) = false := by
    rw [Nat.div_eq_of_lt (Nat.mod_lt _ hs)]; rfl
  unfold Ieee.Format.read at h ⊢
  dsimp only at h ⊢
  rw [e1, Nat.mod_mod]
  generalize b % k.format.signWeight = r at *
  split
  · rename_i h1
    rw [if_pos h1] at h
    simp only [Ieee.Datum.number.injEq] at h ⊢
    exact ⟨trivial, h.2⟩
  · rename_i h1
    rw [if_neg h1] at h
    split
    · rename_i h2
      rw [if_pos h2] at h
      simp only [Ieee.Datum.number.injEq] at h ⊢
      exact ⟨trivial, h.2⟩
    · rename_i h2
      rw [if_neg h2] at h
      split at h <;> cases h

/-- May be narrowed: what the language fixes, whole range. -/
def narrowableX (b : Nat) : Prop := ∀ s m e, FloatKind.f64.format.read b = .number s m e → (FloatKind.f32.decode (FloatKind.f32.encode (.number s m e))).isInfinity = false

/-- The size of a narrow number, by way of the wide ones. -/
theorem narrow_abs {b w : Nat} (hw : can .f64 w = can .f64 (widen b)) : narrowableX (w % 9223372036854775808) ∧ can .f32 (narrow (w % 9223372036854775808)) = can .f32 (b % 2147483648) := by
  obtain ⟨a1, a2, a3, a4, a5⟩ := bits32
  obtain ⟨b1, b2, b3, b4, b5⟩ := bits64
  cases hr : FloatKind.f32.format.read b with
  | nan s t =>
    have hn : isNan .f32 b = true := by simp [isNan, hr, Ieee.Datum.isNaN]
    have hq : widen b = qnan .f64 := by simp only [widen, hr]
    have hwn : isNan .f64 w = true := by rw [isNan_of_can hw, hq]; exact isNan_qnan _
    have hm : isNan .f64 (w % 9223372036854775808) = true := by rw [isNan_f64] at hwn ⊢; rwa [Nat.mod_mod]
    have hm2 : isNan .f32 (b % 2147483648) = true := by rw [isNan_f32] at hn ⊢; rwa [Nat.mod_mod]
    obtain ⟨s', t', hr'⟩ := read_nan hm
    refine ⟨fun s1 m1 e1 h => (by rw [hr'] at h; cases h), ?_⟩
    rw [can_of_nan hm2]
    simp only [narrow, hr', can_qnan]
  | infinity s =>
    have hb : b % 2147483648 = 2139095040 := by
      have e1 : Ieee.single.signWeight = 2147483648 := by decide
      have e2 : Ieee.single.infRung = 2139095040 := by decide
      simp only [FloatKind.format, Ieee.Format.read, e1, e2] at hr
      split at hr
      · cases hr
      · split at hr
        · cases hr
        · split at hr
          · assumption
          · cases hr
    have hq : widen b = FloatKind.f64.encode (.infinity s) := by simp only [widen, hr]
    have hwq : w = FloatKind.f64.encode (.infinity s) := by
      rw [hq] at hw
      exact (eq_of_can hw.symm (by cases s <;> decide)).symm
    rw [hwq, hb]
    have e1 : FloatKind.f64.format.read (FloatKind.f64.encode (.infinity s) % 9223372036854775808) = .infinity false := by cases s <;> decide
    refine ⟨fun s1 m1 e1' h => (by rw [e1] at h; cases h), ?_⟩
    simp only [narrow, e1]
    decide
  | number s m e =>
    obtain ⟨j, e', h1, h2, h3⟩ := read_widen hr
    have hwq : w = widen b := by
      refine (eq_of_can hw.symm ?_).symm
      simp [isNan, h1, Ieee.Datum.isNaN]
    rw [hwq]
    have h4 := read_mod h1
    have h5 := read_mod hr
    rw [b4] at h4
    rw [a4] at h5
    have h6 : FloatKind.f32.format.nearest false (m * 2 ^ j) e' = b % 2147483648 := by
      have h7 := write_read FloatKind.f32.format (by omega) (b % 2147483648) h5
      rw [a4, Nat.mod_mod] at h7
      by_cases hm : m = 0
      · subst hm
        rw [Nat.zero_mul]
        exact (show FloatKind.f32.format.nearest false 0 e' = FloatKind.f32.format.nearest false 0 e by simp [Ieee.Format.nearest]).trans h7
      · rw [h2 hm, nearest_scale, h7]; rfl
    have h8 : FloatKind.f32.encode (.number false (m * 2 ^ j) e') = b % 2147483648 := h6
    refine ⟨fun s1 m1 e1 h => ?_, ?_⟩
    · rw [h4] at h
      cases h
      rw [h8]
      have : FloatKind.f32.decode (b % 2147483648) = .number false m e := h5
      rw [this]; rfl
    · have : narrow (widen b % 9223372036854775808) = FloatKind.f32.encode (.number false (m * 2 ^ j) e') := by simp only [narrow, h4]
      rw [this, h8]

section
variable {P : Program}
theorem run_narrowX (w : World) (src dst : TypeId) (b : Nat) (hs : P.underlying src = some (.float .f64)) (hd : P.underlying dst = some (.float .f32)) (hb : narrowableX b) :
    ∃ r n, (convert src dst (.float .f64 b)).run P w = .ok (.float .f32 r) (w.drewN n) ∧ can .f32 r = can .f32 (narrow b) ∧ fits .f32 r := by
  cases hr : FloatKind.f64.format.read b with
  | nan s t =>
    refine ⟨(Question.nanConv .f32 b).cut (w.tape w.drawn (.nanConv .f32 b)), 1, ?_, ?_, (nan_conv .f32 b _).2⟩
    · simp [convert, run_underlying hs, run_underlying hd, Conv.floatToFloat, FloatKind.decode, hr, Question.forced]; rfl
    · rw [can_of_nan (nan_conv .f32 b _).1]; simp only [narrow, hr, can_qnan]
  | infinity s =>
    refine ⟨FloatKind.f32.encode (.infinity s), 0, ?_, by simp only [narrow, hr], encode_wf _ _⟩
    simp [convert, run_underlying hs, run_underlying hd, Conv.floatToFloat, FloatKind.decode, hr]; rfl
  | number s m e =>
    refine ⟨FloatKind.f32.encode (.number s m e), 0, ?_, by simp only [narrow, hr], encode_wf _ _⟩
    have h := hb s m e hr
    have hr' : FloatKind.f64.decode b = .number s m e := hr
    simp [convert, run_underlying hs, run_underlying hd, Conv.floatToFloat, hr', h]; rfl

variable {w : World} {ops : Array Oper} {rest : List Oper} {o : Oper} {a : Act} {Q : Exit → Act → World → Prop}
theorem wpList_narrowX (hg : o.guard = none) {src dst : TypeId} {x : Operand} (hop : o.op = Op.convert src dst x) {b : Nat} (hx : a.eval x = .float .f64 b)
    (hs : P.underlying src = some (.float .f64)) (hd : P.underlying dst = some (.float .f32)) (hb : narrowableX b)
    (hK : ∀ r n, Hid (can .f32 r = can .f32 (narrow b)) → Hid (fits .f32 r) → wpList P ops Q rest (a.put o.dst (.float .f32 r)) (w.drewN n)) : wpList P ops Q (o :: rest) a w := by
  refine wpList_plain hg fun K hK' => ?_
  obtain ⟨r, n, hrun, hr, hf⟩ := run_narrowX (P := P) w src dst b hs hd hb
  unfold Oper.wp
  simp [execOp, hop, hx, hrun, Result.andThen]
  exact hK' _ _ (hK r n hr hf)
end
end Go.Fk
