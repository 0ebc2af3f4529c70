/- Texts of the walk, laid in one file. -/
import Derived.BigQuiet
import Derived.RegionTactic
import Derived.Shelf.Strings.BuilderCap
import Derived.Shelf.Strings.BuilderF
import Derived.Test.YtjihkfemejhllaaDoorMd
set_option linter.unusedVariables false
set_option linter.unusedSimpArgs false
/- What pipes ask of their lists: 'l04All', 'l04Rings'; 'areScatters', 'isFiniteRing', 'areSections'. -/
namespace Go.Fk
open Go Go.RowKit
/-- Two lists of sections. -/
def secOk (x y : Nat → CD) (k : Nat) : Bool := rgOk x k && rgOk y k && (rgN x k == rgN y k)
theorem withinB_can {y x l g : Nat} (h : can .f32 y = x) : withinB y l g = withinB x l g := by
  unfold withinB; rw [← h, order_can_l, order_can_l]
def scB (x : Nat → Nat) (n : Nat) : Bool := allB (fun i => withinB (x i) 3212836864 1065353216) n
end Go.Fk
namespace Go.Proofs.YtjihkfemejhllaaDoor
open Go.RowKit Go.Fk
set_option maxRecDepth 100000 in
set_option maxHeartbeats 1000000 in
theorem s_l04All (B : Nat) (s : Value) (x : Nat → Nat) (n : Nat) (w : World) (hs : RdS w B s x n) : Calls Tryd.prog 51 #[s] w fun e w' => e = .returned (.bool (finB x n)) ∧ ∃ m, w' = w.drewN m := by
  have hrd := hid hs
  rcases hs with ⟨rfl, rfl⟩ | ⟨a, cap, rfl, hc, hm, hx⟩
  · clear hrd
    go_enter Tryd.func51, Tryd.ntmps51
    go_wp2
    go_loop [3] (fun i => i = .int .i64 0) (fun _ => 0)
    case atStart => rfl
    case round =>
      obtain rfl := hrel
      go_wp2
      go_ret
      exact ⟨rfl, 0, rfl⟩
  · have HX := hid hx
    unfold maxLen at hm
    clear hx
    go_enter Tryd.func51, Tryd.ntmps51
    go_wp2
    go_loopw [3] (fun i wr => ∃ j : Nat, j ≤ n ∧ i = .int .i64 j ∧ Hid (∀ i, i < j → fin (x i) = true) ∧ ∃ m, wr = w.drewN m) (fun i _ => n - (intOf i).toNat)
    case atStart => exact ⟨0, by omega, rfl, fun i hi => absurd hi (by omega), 0, rfl⟩
    case round =>
      obtain ⟨j, hj, rfl, HJ, m, rfl⟩ := hrel
      by_cases hlt : j < n
      · obtain ⟨_, y, c1, f1, e1⟩ := HX.out j hlt
        have hfy : fin y = fin (x j) := fin_can ((e1).trans (by rw [← e1, can_can]))
        cases hb : fin (x j)
        · have HF := hid (fun w => (hfy.trans hb) ▸ s_l01Finite y w)
          clear hfy e1
          go_wp2_with (go_at_call 73; ((with_reducible refine (HF.out _).mono ?_); rintro e w' ⟨rfl, q, rfl⟩))
          go_ret
          exact ⟨ret_b (finB_no hlt hb).symm, _, rfl⟩
        · have HF := hid (fun w => (hfy.trans hb) ▸ s_l01Finite y w)
          clear hfy e1
          go_wp2_with (go_at_call 73; ((with_reducible refine (HF.out _).mono ?_); rintro e w' ⟨rfl, q, rfl⟩))
          go_roundw
          case rel => exact ⟨j + 1, by omega, by go_num, fun i hi => by rcases Nat.lt_or_ge i j with h | h; exact HJ.out i h; rw [show i = j by omega]; exact hb, _, rfl⟩
          case measure => simp [intOf]; omega
      · obtain rfl : j = n := by omega
        go_wp2
        go_ret
        exact ⟨ret_b (finB_yes HJ.out).symm, _, rfl⟩
set_option maxRecDepth 100000 in
set_option maxHeartbeats 1000000 in
theorem s_l04Rings (B : Nat) (s : Value) (x : Nat → CD) (n : Nat) (w : World) (hs : (CD.sl 2 n x).RdN w B s) (hx : RgsOk x n) : Calls Tryd.prog 49 #[s] w fun e w' => e = .returned (.bool (allB (rgOk x) n)) ∧ ∃ m, w' = w.drewN m := by
  rcases hs.form with ⟨rfl, rfl⟩ | ⟨b, o, cap, rfl, hc, hm⟩
  · clear hs hx
    go_enter Tryd.func49, Tryd.ntmps49
    go_wp2
    go_loop [3] (fun i => i = .int .i64 0) (fun _ => 0)
    case atStart => rfl
    case round =>
      obtain rfl := hrel
      go_wp2
      go_ret
      exact ⟨rfl, 0, rfl⟩
  · have HA := hid (fun k (hk : k < n) => hx.at hs hk)
    unfold maxLen at hm
    clear hx hs
    go_enter Tryd.func49, Tryd.ntmps49
    go_wp2
    go_loopw [3] (fun i wr => ∃ j : Nat, j ≤ n ∧ i = .int .i64 j ∧ Hid (∀ i, i < j → rgOk x i = true) ∧ ∃ m, wr = w.drewN m) (fun i _ => n - (intOf i).toNat)
    case atStart => exact ⟨0, by omega, rfl, fun i hi => absurd hi (by omega), 0, rfl⟩
    case round =>
      obtain ⟨j, hj, rfl, HJ, m, rfl⟩ := hrel
      by_cases hlt : j < n
      · obtain ⟨u, c0, c1, hw, hr⟩ := HA.out j hlt
        have HR := hid (fun (m : Nat) => s_l02RingR B u (rgX x j) (rgN x j) (rgK x j) b (o + j * 2) (w.drewN m) (hr.le (le_drewN w m)) c0 c1 hw)
        have HL := hid (fun (m : Nat) => s_l04All B u (rgX x j) (rgN x j) (w.drewN m) (hr.le (le_drewN w m)))
        cases h1 : okRing (rgN x j) (rgK x j)
        · rw [h1] at HR
          have hb : rgOk x j = false := by unfold rgOk; rw [h1]; rfl
          clear h1 c1 hw hr
          go_wp2_with (first | (with_reducible refine wpList_indexW0 rfl rfl rfl rfl Tryd.underlying55 uinfoRingI hlt ?_) | (go_at_call 70; ((with_reducible refine (HR.out _).mono ?_); rintro e w' ⟨rfl, rfl⟩)))
          go_ret
          exact ⟨ret_b (allB_no hlt hb).symm, _, rfl⟩
        cases h2 : finB (rgX x j) (rgN x j)
        · rw [h1] at HR; rw [h2] at HL
          have hb : rgOk x j = false := by unfold rgOk; rw [h2, Bool.and_false]
          clear h1 h2 c1 hw hr
          go_wp2_with (first | (with_reducible refine wpList_indexW0 rfl rfl rfl rfl Tryd.underlying55 uinfoRingI hlt ?_) | (with_reducible refine wpList_indexW0G rfl rfl rfl Tryd.underlying55 uinfoRingI hlt (by kernel_rfl) ?_) | (go_at_call 70; ((with_reducible refine (HR.out _).mono ?_); rintro e w' ⟨rfl, rfl⟩)) | (go_at_call 51; ((with_reducible refine (HL.out _).mono ?_); rintro e w' ⟨rfl, q, rfl⟩)))
          go_ret
          exact ⟨ret_b (allB_no hlt hb).symm, _, rfl⟩
        · rw [h1] at HR; rw [h2] at HL
          have hb : rgOk x j = true := by unfold rgOk; rw [h1, h2]; rfl
          clear h1 h2 c1 hw hr
          go_wp2_with (first | (with_reducible refine wpList_indexW0 rfl rfl rfl rfl Tryd.underlying55 uinfoRingI hlt ?_) | (with_reducible refine wpList_indexW0G rfl rfl rfl Tryd.underlying55 uinfoRingI hlt (by kernel_rfl) ?_) | (go_at_call 70; ((with_reducible refine (HR.out _).mono ?_); rintro e w' ⟨rfl, rfl⟩)) | (go_at_call 51; ((with_reducible refine (HL.out _).mono ?_); rintro e w' ⟨rfl, q, rfl⟩)))
          go_roundw
          case rel => exact ⟨j + 1, by omega, by go_num, fun i hi => by rcases Nat.lt_or_ge i j with h | h; exact HJ.out i h; rw [show i = j by omega]; exact hb, _, rfl⟩
          case measure => simp [intOf]; omega
      · obtain rfl : j = n := by omega
        go_wp2
        go_ret
        exact ⟨ret_b (allB_yes HJ.out).symm, _, rfl⟩
set_option maxRecDepth 100000 in
set_option maxHeartbeats 1000000 in
theorem i_areScatters (B : Nat) (s : Value) (x : Nat → Nat) (n : Nat) (w : World) (hs : RdS w B s x n) : Calls Tryd.prog 65 #[s] w fun e w' => e = .returned (.bool (scB x n)) ∧ w = w' := by
  rcases hs with ⟨rfl, rfl⟩ | ⟨a, cap, rfl, hc, hm, hx⟩
  · go_enter Tryd.func65, Tryd.ntmps65
    go_wp2
    go_loop [7] (fun i => i = .int .i64 0) (fun _ => 0)
    case atStart => rfl
    case round =>
      obtain rfl := hrel
      go_wp2
      go_ret
      exact ⟨rfl, rfl⟩
  · have HX := hid hx
    unfold maxLen at hm
    clear hx
    go_enter Tryd.func65, Tryd.ntmps65
    go_wp2
    go_loop [7] (fun i => ∃ j : Nat, j ≤ n ∧ i = .int .i64 j ∧ Hid (∀ i, i < j → withinB (x i) 3212836864 1065353216 = true)) (fun i => n - (intOf i).toNat)
    case atStart => exact ⟨0, by omega, rfl, fun i hi => absurd hi (by omega)⟩
    case round =>
      obtain ⟨j, hj, rfl, HJ⟩ := hrel
      by_cases hlt : j < n
      · obtain ⟨_, y, c1, f1, e1⟩ := HX.out j hlt
        have hfy := withinB_can (l := 3212836864) (g := 1065353216) e1
        cases hb : withinB (x j) 3212836864 1065353216
        · have HF := hid (fun w => (hfy.trans hb) ▸ i_isWithin y 3212836864 1065353216 w)
          clear hfy e1
          go_wp2_with (go_at_call 84; ((with_reducible refine (HF.out _).mono ?_); rintro e w' ⟨rfl, rfl⟩))
          go_ret
          exact ⟨ret_b (allB_no (p := fun i => withinB (x i) 3212836864 1065353216) hlt hb).symm, rfl⟩
        · have HF := hid (fun w => (hfy.trans hb) ▸ i_isWithin y 3212836864 1065353216 w)
          clear hfy e1
          go_wp2_with (go_at_call 84; ((with_reducible refine (HF.out _).mono ?_); rintro e w' ⟨rfl, rfl⟩))
          go_round
          case rel => exact ⟨j + 1, by omega, by go_num, fun i hi => by rcases Nat.lt_or_ge i j with h | h; exact HJ.out i h; rw [show i = j by omega]; exact hb⟩
          case measure => simp [intOf]; omega
      · obtain rfl : j = n := by omega
        go_wp2
        go_ret
        exact ⟨ret_b (allB_yes HJ.out).symm, rfl⟩
theorem i_areFiniteQ (B : Nat) (s : Value) (x : Nat → Nat) (n : Nat) (w : World) (hs : RdS w B s x n) : Calls Tryd.prog 78 #[s] w fun e w' => e = .returned (.bool (finB x n)) ∧ w = w' := by
  rcases hs with ⟨rfl, rfl⟩ | ⟨a, cap, rfl, h2, h3, h4⟩
  · exact i_areFinite_nil x w
  · obtain ⟨y, hy⟩ : ∃ y : Nat → Nat, ∀ i, i < n → w.cell? (a.add i) = some (.float .f32 (y i)) ∧ fits .f32 (y i) ∧ can .f32 (y i) = x i := by
      have : ∀ i, ∃ y, i < n → w.cell? (a.add i) = some (.float .f32 y) ∧ fits .f32 y ∧ can .f32 y = x i := fun i => by
        by_cases hi : i < n
        · obtain ⟨_, y, e⟩ := h4 i hi; exact ⟨y, fun _ => e⟩
        · exact ⟨0, fun h => absurd h hi⟩
      exact Classical.skolem.1 this
    have he : finB x n = finB y n := by
      have key : ∀ i, i < n → fin (x i) = fin (y i) := fun i hi => by
        rw [← (hy i hi).2.2]; exact fin_can (can_can _ _)
      cases hb : finB y n
      · obtain ⟨i, hi, hf⟩ := finB_ex hb
        exact finB_no hi ((key i hi).trans hf)
      · exact finB_yes (fun i hi => (key i hi).trans (finB_all hb i hi))
    rw [he]
    exact i_areFinite y a n cap w (by unfold maxLen at h3; omega) (fun i hi => (hy i hi).2.1) (fun i hi => (hy i hi).1)
set_option maxRecDepth 100000 in
set_option maxHeartbeats 1000000 in
theorem i_isFiniteRing (B : Nat) (s : Value) (x : Nat → Nat) (n : Nat) (k : Int) (w : World) (hs : RdS w B s x n) : Calls Tryd.prog 77 #[.agg #[s, .int .i64 k]] w fun e w' => e = .returned (.bool (okRing n k && finB x n)) ∧ le w w' := by
  have HV := hid (fun (w' : World) (hl : le w w') => i_ValidRingR B s x n k w' (hs.le hl))
  have HF := hid (fun (w' : World) (hl : le w w') => i_areFiniteQ B s x n w' (hs.le hl))
  have F := (Frg.nil w).box 34 #[s, .int .i64 k]
  clear hs
  cases h1 : okRing n k <;> cases h2 : finB x n
  all_goals
    rw [h1] at HV; rw [h2] at HF
    clear h1 h2
    go_enter Tryd.func77, Tryd.ntmps77
    go_wp2_with (first | ((with_reducible refine at_loadU (ty := 34) rfl rfl ?_); (with_reducible refine wpList_loadG F rfl rfl rfl m0 Tryd.underlying34 rfl uinfoRingI rfl ?_)) | (go_at_call 90; ((with_reducible refine (HV.out _ F.below).mono ?_); rintro e w1 ⟨rfl, hl⟩; replace F := F.le hl; clear hl; have c0 := (F.row m0).cell? 0)) | (go_at_call 78; ((with_reducible refine (HF.out _ F.below).mono ?_); rintro e w1 ⟨rfl, rfl⟩)))
    go_ret
    exact ⟨rfl, F.below⟩
set_option maxRecDepth 100000 in
set_option maxHeartbeats 4000000 in
theorem i_areSections (B B' : Nat) (s s' : Value) (x y : Nat → CD) (n : Nat) (w : World) (hs : (CD.sl 2 n x).RdN w B s) (hs' : (CD.sl 2 n y).RdN w B' s') (hx : RgsOk x n) (hy : RgsOk y n) : Calls Tryd.prog 66 #[s, s'] w fun e w' => e = .returned (.bool (allB (secOk x y) n)) ∧ le w w' := by
  by_cases h0 : n = 0
  · subst h0
    rcases hs.form with ⟨rfl, _⟩ | ⟨b, o, cap, rfl, hc, hm⟩
    all_goals
      clear hs hs' hx hy
      go_enter Tryd.func66, Tryd.ntmps66
      go_wp2
      go_loop [10] (fun i => i = .int .i64 0) (fun _ => 0)
      case atStart => rfl
      case round =>
        obtain rfl := hrel
        go_wp2
        go_ret
        exact ⟨rfl, le_refl _⟩
  rcases hs.form with ⟨_, h⟩ | ⟨b, o, cap, rfl, hc, hm⟩
  · exact absurd h h0
  rcases hs'.form with ⟨_, h⟩ | ⟨b', o', cap', rfl, hc', hm'⟩
  · exact absurd h h0
  have HA := hid (fun k (hk : k < n) => hx.at hs hk)
  have HB := hid (fun k (hk : k < n) => hy.at hs' hk)
  unfold maxLen at hm hm'
  clear hx hy hs hs' h0
  go_enter Tryd.func66, Tryd.ntmps66
  go_wp2
  go_loopw [10] (fun i wr => ∃ k : Nat, k ≤ n ∧ i = .int .i64 k ∧ Hid (∀ i, i < k → secOk x y i = true) ∧ Hid (le w wr)) (fun i _ => n - (intOf i).toNat)
  case atStart => exact ⟨0, by omega, rfl, fun i hi => absurd hi (by omega), le_refl _⟩
  case round =>
    obtain ⟨k, hk, rfl, HJ, HL⟩ := hrel
    rename_i wr _
    by_cases hlt : k < n
    · obtain ⟨u, c0, c1, hwu, hr⟩ := HA.out k hlt
      obtain ⟨v, e0, e1, hwv, hq⟩ := HB.out k hlt
      have gx : Hid (∀ (j : Nat) (q : Value), [u, .int .i64 (rgK x k)][j]? = some q → wr.cell? ((⟨b, o + k * 2, none⟩ : Addr).add j) = some q) := fun j q hj => by
        rw [add_none]
        match j, hj with
        | 0, hj => simp at hj; subst hj; exact (Below.cell HL.out (cell_lt' c0)).trans c0
        | 1, hj => simp at hj; subst hj; exact (Below.cell HL.out (cell_lt' c1)).trans c1
      have gy0 : Hid (∀ (w2 : World) (_ : le wr w2) (j : Nat) (q : Value), [v, .int .i64 (rgK y k)][j]? = some q → w2.cell? ((⟨b', o' + k * 2, none⟩ : Addr).add j) = some q) := fun w2 h2 j q hj => by
        rw [add_none]
        match j, hj with
        | 0, hj => simp at hj; subst hj; exact (Below.cell (le_trans HL.out h2) (cell_lt' e0)).trans e0
        | 1, hj => simp at hj; subst hj; exact (Below.cell (le_trans HL.out h2) (cell_lt' e1)).trans e1
      have ou := hid hr.one
      have ov := hid hq.one
      have HR := hid (fun (w' : World) (hl : le wr w') => i_isFiniteRing B u (rgX x k) (rgN x k) (rgK x k) w' (hr.le (le_trans HL.out hl)))
      have HS := hid (fun (w' : World) (hl : le wr w') => i_isFiniteRing B' v (rgX y k) (rgN y k) (rgK y k) w' (hq.le (le_trans HL.out hl)))
      have F := Frg.nil wr
      clear c0 c1 e0 e1 hwu hwv
      cases h1 : rgOk x k
      · have hb : secOk x y k = false := by unfold secOk; rw [h1]; rfl
        rw [show (okRing (rgN x k) (rgK x k) && finB (rgX x k) (rgN x k)) = false from h1] at HR
        clear h1 hr hq
        go_wp2_with (first | (with_reducible refine wpList_indexW0 rfl rfl rfl rfl Tryd.underlying55 uinfoRingI hlt ?_) | ((with_reducible refine at_loadU (ty := 34) rfl rfl ?_); first | (with_reducible refine wpList_loadW rfl rfl rfl [u, .int .i64 (rgK x k)] gx.out Tryd.underlying34 rfl uinfoRingI rfl ?_) | (with_reducible refine wpList_loadW rfl rfl rfl [v, .int .i64 (rgK y k)] (gy0.out _ F.below) Tryd.underlying34 rfl uinfoRingI rfl ?_) | (with_reducible refine wpList_loadG F rfl rfl rfl (by first | exact m0 | exact m1) Tryd.underlying34 rfl uinfoRingI rfl ?_)) | ((with_reducible refine at_store rfl ?_); (refine wpList_storeG F rfl rfl rfl rfl rfl uinfoRingI rfl (by first | exact one_head ou.out rfl | exact one_head ov.out rfl) ?_; clear F; intro W F zW; clear zW)) | (go_at_call 77; ((with_reducible refine (HR.out _ F.below).mono ?_); rintro e w1 ⟨rfl, hl⟩; replace F := F.le hl; clear hl)))
        go_ret
        exact ⟨ret_b (allB_no (p := secOk x y) hlt hb).symm, le_trans HL.out F.below⟩
      cases h2 : rgOk y k
      · have hb : secOk x y k = false := by unfold secOk; rw [h1, h2]; rfl
        rw [show (okRing (rgN x k) (rgK x k) && finB (rgX x k) (rgN x k)) = true from h1] at HR
        rw [show (okRing (rgN y k) (rgK y k) && finB (rgX y k) (rgN y k)) = false from h2] at HS
        clear h1 h2 hr hq
        go_wp2_with (first | (with_reducible refine wpList_indexW0 rfl rfl rfl rfl Tryd.underlying55 uinfoRingI hlt ?_) | ((with_reducible refine at_loadU (ty := 34) rfl rfl ?_); first | (with_reducible refine wpList_loadW rfl rfl rfl [u, .int .i64 (rgK x k)] gx.out Tryd.underlying34 rfl uinfoRingI rfl ?_) | (with_reducible refine wpList_loadW rfl rfl rfl [v, .int .i64 (rgK y k)] (gy0.out _ F.below) Tryd.underlying34 rfl uinfoRingI rfl ?_) | (with_reducible refine wpList_loadG F rfl rfl rfl (by first | exact m0 | exact m1) Tryd.underlying34 rfl uinfoRingI rfl ?_)) | ((with_reducible refine at_loadV (ty := 34) rfl rfl ?_); (with_reducible refine wpList_loadGG F rfl rfl (by first | exact m0 | exact m1) Tryd.underlying34 rfl uinfoRingI rfl (by kernel_rfl) ?_)) | ((with_reducible refine at_store rfl ?_); (refine wpList_storeG F rfl rfl rfl rfl rfl uinfoRingI rfl (by first | exact one_head ou.out rfl | exact one_head ov.out rfl) ?_; clear F; intro W F zW; clear zW)) | (go_at_call 77; first | ((with_reducible refine (HR.out _ F.below).mono ?_); rintro e w1 ⟨rfl, hl⟩; replace F := F.le hl; clear hl) | ((with_reducible refine (HS.out _ F.below).mono ?_); rintro e w1 ⟨rfl, hl⟩; replace F := F.le hl; clear hl; have d0 := (F.row m1).cell? 0; have d1 := (F.row m0).cell? 0)))
        go_ret
        exact ⟨ret_b (allB_no (p := secOk x y) hlt hb).symm, le_trans HL.out F.below⟩
      have n1 : 1 ≤ rgN x k := by have := h1; unfold rgOk at this; simp only [Bool.and_eq_true] at this; exact (okRing_iff.1 this.1).1
      have n2 : 1 ≤ rgN y k := by have := h2; unfold rgOk at this; simp only [Bool.and_eq_true] at this; exact (okRing_iff.1 this.1).1
      rw [show (okRing (rgN x k) (rgK x k) && finB (rgX x k) (rgN x k)) = true from h1] at HR
      rw [show (okRing (rgN y k) (rgK y k) && finB (rgX y k) (rgN y k)) = true from h2] at HS
      obtain ⟨au, cu, _, rfl, hcu, hmu, _⟩ := hr.raw n1
      obtain ⟨av, cv, _, rfl, hcv, hmv, _⟩ := hq.raw n2
      unfold maxLen at hmu hmv
      by_cases h3 : rgN x k = rgN y k
      · have hb : secOk x y k = true := by unfold secOk; rw [h1, h2, h3]; simp
        clear h1 h2 hr hq n1 n2
        have h4 : (((rgN x k : Nat) : Int) != ((rgN y k : Nat) : Int)) = false := by simp [h3]
        replace h3 := hid h3
        go_wp2_with (first | (with_reducible refine wpList_indexW0 rfl rfl rfl rfl Tryd.underlying55 uinfoRingI hlt ?_) | ((with_reducible refine at_loadU (ty := 34) rfl rfl ?_); first | (with_reducible refine wpList_loadW rfl rfl rfl [(.slice (some au) (rgN x k) cu), .int .i64 (rgK x k)] gx.out Tryd.underlying34 rfl uinfoRingI rfl ?_) | (with_reducible refine wpList_loadW rfl rfl rfl [(.slice (some av) (rgN y k) cv), .int .i64 (rgK y k)] (gy0.out _ F.below) Tryd.underlying34 rfl uinfoRingI rfl ?_) | (with_reducible refine wpList_loadG F rfl rfl rfl (by first | exact m0 | exact m1) Tryd.underlying34 rfl uinfoRingI rfl ?_)) | ((with_reducible refine at_loadV (ty := 34) rfl rfl ?_); (with_reducible refine wpList_loadGG F rfl rfl (by first | exact m0 | exact m1) Tryd.underlying34 rfl uinfoRingI rfl (by kernel_rfl) ?_)) | ((with_reducible refine at_store rfl ?_); (refine wpList_storeG F rfl rfl rfl rfl rfl uinfoRingI rfl (by first | exact one_head ou.out rfl | exact one_head ov.out rfl) ?_; clear F; intro W F zW; clear zW)) | (go_at_call 77; first | ((with_reducible refine (HR.out _ F.below).mono ?_); rintro e w1 ⟨rfl, hl⟩; replace F := F.le hl; clear hl) | ((with_reducible refine (HS.out _ F.below).mono ?_); rintro e w1 ⟨rfl, hl⟩; replace F := F.le hl; clear hl; have d0 := (F.row m1).cell? 0; have d1 := (F.row m0).cell? 0)))
        have HL1 := hid (le_trans HL.out F.below)
        go_roundw
        case rel => exact ⟨k + 1, by omega, by go_num, fun i hi => by rcases Nat.lt_or_ge i k with h | h; exact HJ.out i h; rw [show i = k by omega]; exact hb, HL1.out⟩
        case measure => simp [intOf]; omega
      · have hb : secOk x y k = false := by unfold secOk; rw [h1, h2]; simp [h3]
        clear h1 h2 hr hq n1 n2
        have h4 : (((rgN x k : Nat) : Int) != ((rgN y k : Nat) : Int)) = true := by simp; omega
        replace h3 := hid h3
        go_wp2_with (first | (with_reducible refine wpList_indexW0 rfl rfl rfl rfl Tryd.underlying55 uinfoRingI hlt ?_) | ((with_reducible refine at_loadU (ty := 34) rfl rfl ?_); first | (with_reducible refine wpList_loadW rfl rfl rfl [(.slice (some au) (rgN x k) cu), .int .i64 (rgK x k)] gx.out Tryd.underlying34 rfl uinfoRingI rfl ?_) | (with_reducible refine wpList_loadW rfl rfl rfl [(.slice (some av) (rgN y k) cv), .int .i64 (rgK y k)] (gy0.out _ F.below) Tryd.underlying34 rfl uinfoRingI rfl ?_) | (with_reducible refine wpList_loadG F rfl rfl rfl (by first | exact m0 | exact m1) Tryd.underlying34 rfl uinfoRingI rfl ?_)) | ((with_reducible refine at_loadV (ty := 34) rfl rfl ?_); (with_reducible refine wpList_loadGG F rfl rfl (by first | exact m0 | exact m1) Tryd.underlying34 rfl uinfoRingI rfl (by kernel_rfl) ?_)) | ((with_reducible refine at_store rfl ?_); (refine wpList_storeG F rfl rfl rfl rfl rfl uinfoRingI rfl (by first | exact one_head ou.out rfl | exact one_head ov.out rfl) ?_; clear F; intro W F zW; clear zW)) | (go_at_call 77; first | ((with_reducible refine (HR.out _ F.below).mono ?_); rintro e w1 ⟨rfl, hl⟩; replace F := F.le hl; clear hl) | ((with_reducible refine (HS.out _ F.below).mono ?_); rintro e w1 ⟨rfl, hl⟩; replace F := F.le hl; clear hl; have d0 := (F.row m1).cell? 0; have d1 := (F.row m0).cell? 0)))
        go_ret
        exact ⟨ret_b (allB_no (p := secOk x y) hlt hb).symm, le_trans HL.out F.below⟩
    · obtain rfl : k = n := by omega
      go_wp2
      go_ret
      exact ⟨ret_b (allB_yes HJ.out).symm, HL.out⟩
end Go.Proofs.YtjihkfemejhllaaDoor

/- Pieces for bows and jets: guarded loads of structs in drawn regions; pairs of rings and of numbers. Nothing here names a program. -/
namespace Go.Fk
open Go Go.RowKit
section
variable {P : Program} {ops : Array Oper} {W : World} {K : FuncId → Array Value → World → Value → Prop} {Q : Act → World → Prop} {F : Facts} {k : Nat} {o : Oper} {rest : List Oper} {a : Act}
theorem wpFreeD_loadGW {w0 w1 : World} {L : List Fact} {n : Nat} (hF : Frg w0 w1 L) (hW : W = w1.drewN n) (hw : Region.wanted o (yielded ops a.tmps) = true) {ty : TypeId} {x : Operand} (hop : o.op = .load ty x) {g : Nat} (hx : a.eval x = .pointer (some ⟨g, 0, none⟩)) {t : TypeId} {cs : Array Value} {d : TypeDesc}
    (hm : rowF g t cs ∈ L) (hu : P.underlying ty = some d) (hd : (match d with | .struct _ | .array _ _ => true | _ => false) = true) {m : Nat} (hi : (P.info? ty).map (·.size) = some m) (hs : cs.size = m)
    (h : wpFreeD leX P ops .any W K Q rest (k + 1) (a.put o.dst (.agg cs)) (F.with k (fun _ => True))) : wpFreeD leX P ops .any W K Q (o :: rest) k a F := by
  subst hW hs
  refine wpFreeD_oneW hw (.agg cs) (fun w hw => ?_) h
  have := run_loadVar_row (P := P) w g t ty cs (0, 0) _ (((hF.row hm).drewN n).le hw) hu hd hi
  simp [execOp, hop, hx, Instr.loadAt, Instr.sureAddr, this, Result.andThen]
theorem wpFreeD_indexWG {E : Ext} (hw : Region.wanted o (yielded ops a.tmps) = true) {t : TypeId} {x y : Operand} (hop : o.op = .indexAddr t x y) {b off n cap sz i : Nat} {kk : IntKind} {e : TypeId} (hx : a.eval x = .slice (some ⟨b, off, none⟩) n cap) (hy : a.eval y = .int kk (i : Int)) (hu : P.underlying t = some (.slice e)) (hs : (P.info? e).map (·.size) = some sz) (hi : i < n)
    (h : wpFreeD E P ops .any W K Q rest (k + 1) (a.put o.dst (.pointer (some ⟨b, off + i * sz, none⟩))) (F.with k (fun _ => True))) : wpFreeD E P ops .any W K Q (o :: rest) k a F := by
  refine wpFreeD_oneW hw (.pointer (some ⟨b, off + i * sz, none⟩)) (fun w _ => ?_) h
  cases hq : P.info? e with
  | none => simp [hq] at hs
  | some inf =>
    have hz : inf.size = sz := by simpa [hq] using hs
    have h2 : (i : Int) < (n : Int) := by omega
    simp [execOp, hop, hx, hy, Instr.indexAt, asIntOf, run_underlying hu, sizeOf, typeInfo, hq, hz, h2, hi, Result.andThen, add_none]
end
theorem Row.at_part {w : World} {g : Nat} {t : TypeId} {cs : Array Value} (R : Row w g t cs) {f : Nat} {ds : List Value} (hp : ∀ j, j < ds.length → cs[f + j]? = ds[j]?) : ∀ (j : Nat) (v : Value), ds[j]? = some v → w.cell? ((⟨g, f, none⟩ : Addr).add j) = some v := fun j v hv => by
  rw [add_none, R.cell?, hp j (List.getElem?_eq_some_iff.1 hv).1, hv]
theorem CD.RdN.mono {w : World} {B B' : Nat} (hB : B ≤ B') : ∀ {c : CD} {v : Value}, c.RdN w B v → c.RdN w B' v := by
  intro c
  induction c with
  | sl wd n x ih =>
    intro v h
    rcases h with h | ⟨b, o, cap, h1, h2, h3, h4⟩
    · exact .inl h
    · exact .inr ⟨b, o, cap, h1, h2, h3, fun i hi => by obtain ⟨h5, u, h6, h7⟩ := h4 i hi; exact ⟨by omega, u, h6, ih i h7⟩⟩
  | _ => intro v h; exact h
theorem bool_ft (b : Bool) : b = false ∨ b = true := by cases b <;> simp
/-- A slice of floats, as a tree. -/
def slT (x : Nat → Nat) (n : Nat) : CD := .sl 1 n (fun i => .fcn .f32 (x i))
theorem slT_rds {x : Nat → Nat} {n B : Nat} {w : World} {s : Value} (h : (slT x n).RdN w B s) : RdS w B s x n := h.rd.rds
theorem CD.RdN.congr {w : World} {B : Nat} : ∀ {c d : CD} {v : Value}, c.RdN w B v → c.Eqv d → d.RdN w B v := by
  intro c
  induction c with
  | sl wd n x ih =>
    intro d v h he
    obtain ⟨y, rfl, hy⟩ := he
    rcases h with h | ⟨b, o, cap, h1, h2, h3, h4⟩
    · exact .inl h
    · exact .inr ⟨b, o, cap, h1, h2, h3, fun i hi => by obtain ⟨h5, u, h6, h7⟩ := h4 i hi; exact ⟨h5, u, h6, ih i h7 (hy i hi)⟩⟩
  | _ => intro d v h he; cases he; exact h
/-- A copy of a slice of floats. -/
theorem slT_cp {n : Nat} {x : Nat → CD} (h : ∀ i, i < n → (x i).flk = some .f32) : (CD.sl 1 n x).cp.Eqv (slT (fun i => (x i).fx) n) :=
  ⟨_, rfl, fun i hi => by show (x i).cn.Eqv (.fcn .f32 (x i).fx); rw [CD.cn_fl (h i (by simpa using hi))]; exact CD.Eqv.refl _⟩
/-- Two rings. -/
def rg2 (x y : Nat → Nat) (nx ny : Nat) (j k : Int) : Nat → CD
  | 0 => slT x nx
  | 1 => .int .i64 j
  | 2 => slT y ny
  | _ => .int .i64 k
theorem rg2_ok (x y : Nat → Nat) (nx ny : Nat) (j k : Int) : RgsOk (rg2 x y nx ny j k) 2 := fun i hi => by
  match i, hi with
  | 0, _ => exact ⟨⟨_, rfl, fun _ _ => rfl, rfl⟩, rfl⟩
  | 1, _ => exact ⟨⟨_, rfl, fun _ _ => rfl, rfl⟩, rfl⟩
def rngB (x : Nat → Nat) (n : Nat) (j : Int) : Bool := okRing n j && finB x n
theorem rg2_all (x y : Nat → Nat) (nx ny : Nat) (j k : Int) : allB (rgOk (rg2 x y nx ny j k)) 2 = (rngB x nx j && rngB y ny k) := by
  simp [allB, List.range_succ]; rfl
theorem rg2_rd {x y : Nat → Nat} {nx ny B b : Nat} {j k : Int} {w : World} {s t : Value} {ty : TypeId} (hs : (slT x nx).RdN w B s) (ht : (slT y ny).RdN w B t) (wj : (Lit.int .i64 j).wf = true) (wk : (Lit.int .i64 k).wf = true) (R : Row w b ty #[s, .int .i64 j, t, .int .i64 k]) :
    (CD.sl 2 2 (rg2 x y nx ny j k)).RdN w (max B (b + 1)) (.slice (some ⟨b, 0, none⟩) 2 2) := by
  refine .inr ⟨b, 0, 2, rfl, Nat.le_refl _, by decide, fun i hi => ⟨by omega, ?_⟩⟩
  match i, hi with
  | 0, _ => exact ⟨s, R.cell? 0, hs.mono (by omega)⟩
  | 1, _ => exact ⟨_, R.cell? 1, rfl, wj⟩
  | 2, _ => exact ⟨t, R.cell? 2, ht.mono (by omega)⟩
  | 3, _ => exact ⟨_, R.cell? 3, rfl, wk⟩
/-- Two numbers. -/
def two (m o : Nat) : Nat → Nat := fun i => match i with | 0 => can .f32 m | _ => can .f32 o
theorem fin_two (m o : Nat) : finB (two m o) 2 = (fin m && fin o) := by
  have e : ∀ z, fin (can .f32 z) = fin z := fun z => fin_can (can_can _ _)
  simp [finB, two, List.range_succ, e]
theorem two_rd {m o b : Nat} {w : World} {ty : TypeId} (hm : fits .f32 m) (ho : fits .f32 o) (R : Row w b ty #[.float .f32 m, .float .f32 o]) : RdS w (b + 1) (.slice (some ⟨b, 0, none⟩) 2 2) (two m o) 2 :=
  .inr ⟨⟨b, 0, none⟩, 2, rfl, Nat.le_refl _, by decide, fun i hi => ⟨Nat.lt_succ_self _, by rw [add_none, Nat.zero_add]; match i, hi with
    | 0, _ => exact ⟨m, R.cell? 0, hm, rfl⟩
    | 1, _ => exact ⟨o, R.cell? 1, ho, rfl⟩⟩⟩
/-- A new row that is known. -/
def OutSl (t : TypeId) (n : Nat) (cs : Array Value) (w : World) (e : Ending) (w' : World) : Prop := ∃ g, e = .returned (.slice (some ⟨g, 0, none⟩) n n) ∧ w.heap.size ≤ g ∧ Row w' g t cs ∧ le w w'
theorem Frg.rowS {w0 w w' : World} {L : List Fact} (h : Frg w0 w L) (k : Below w.heap.size w w') {g : Nat} {t : TypeId} {cs : Array Value} (hg : w.heap.size ≤ g) (hr : Row w' g t cs) : Frg w0 w' (rowF g t cs :: L) :=
  h.push k hr hg hr.lt
end Go.Fk

/- The laws' helpers for Tuning, over trees of data. -/
namespace Go.Proofs.YtjihkfemejhllaaDoor
open Go.RowKit Go.Fk
theorem invf_Tuning {w : World} {S : Nat → Prop} {us : List Value} (c0 : CD) (c1 : CD) (n2 : Nat) (x2 : Nat → CD) (q0 : c0.flk = some .f32) (q1 : c1.flk = some .f32) (h : LayL w S (([(c0), (c1), (.sl 1 n2 x2)] : List CD).map CD.cp) us) : ∃ (g0 : Nat) (g1 : Nat) (u2 : Value), u2.oneCell' = true ∧ us = [.float .f32 g0, .float .f32 g1, u2] ∧ LayL w S (([(c0), (c1), (.sl 1 n2 x2)] : List CD).map CD.cp) [.float .f32 g0, .float .f32 g1, u2] := by
  have h0 := h
  simp only [List.map_cons, List.map_nil] at h
  obtain ⟨u0, us0, _, _, rfl, l0, hh0, _, _, _⟩ := h.inv
  obtain ⟨g0, rfl⟩ := lay_fl q0 l0
  obtain ⟨u1, us1, _, _, rfl, l1, hh1, _, _, _⟩ := hh0.inv
  obtain ⟨g1, rfl⟩ := lay_fl q1 l1
  obtain ⟨u2, us2, _, _, rfl, l2, hh2, _, _, _⟩ := hh1.inv
  obtain rfl := hh2.inv0
  exact ⟨g0, g1, u2, l2.one, rfl, h0⟩
end Go.Proofs.YtjihkfemejhllaaDoor

/- Exactness: what a format has is written as it stands. Nothing here names a program. -/
namespace Go.Fk
open Go Go.RowKit

theorem cut_zero (s : Bool) (n : Nat) : Ieee.Toward.even.cut s n 0 = n := by
  simp [Ieee.Toward.cut, Nat.mod_one]

/-- What is cut off leaves nothing behind: the quotient. -/
theorem cut_exact (s : Bool) (n d : Nat) : Ieee.Toward.even.cut s (n * 2 ^ d) d = n := by
  by_cases hn : n = 0
  · subst hn
    have hp := Nat.two_pow_pos (min d (Nat.log2 0 + 2))
    simp only [Ieee.Toward.cut, Nat.zero_mul, Nat.one_shiftLeft, Nat.zero_div, Nat.zero_mod]
    simp
  · have h0 : n * 2 ^ d ≠ 0 := Nat.mul_ne_zero hn (Nat.ne_of_gt (Nat.two_pow_pos d))
    have hd : d ≤ (n * 2 ^ d).log2 := by
      refine (Nat.le_log2 h0).2 ?_
      exact Nat.le_mul_of_pos_left _ (by omega)
    have hp := Nat.two_pow_pos d
    simp only [Ieee.Toward.cut, Nat.one_shiftLeft]
    rw [Nat.min_eq_left (by omega), Nat.mul_div_cancel _ hp, Nat.mul_mod_left]
    simp

theorem cut_scale (s : Bool) (n d j : Nat) (hn : n ≠ 0) : Ieee.Toward.even.cut s (n * 2 ^ j) (d + j) = Ieee.Toward.even.cut s n d := by
  have hl : (n * 2 ^ j).log2 = n.log2 + j := by
    have h0 : n * 2 ^ j ≠ 0 := Nat.mul_ne_zero hn (Nat.ne_of_gt (Nat.two_pow_pos j))
    refine (Nat.log2_eq_iff h0).2 ⟨?_, ?_⟩
    · rw [Nat.pow_add]; exact Nat.mul_le_mul_right _ (Nat.log2_self_le hn)
    · rw [show n.log2 + j + 1 = (n.log2 + 1) + j by omega, Nat.pow_add]
      exact Nat.mul_lt_mul_of_pos_right Nat.lt_log2_self (Nat.two_pow_pos j)
  have hp := Nat.two_pow_pos j
  simp only [Ieee.Toward.cut, Nat.one_shiftLeft, hl]
  rw [show min (d + j) (n.log2 + j + 2) = min d (n.log2 + 2) + j by omega, Nat.pow_add, Nat.mul_div_mul_right _ _ hp, Nat.mul_mod_mul_right]
  generalize 2 ^ min d (n.log2 + 2) = g
  have e1 : decide (g * 2 ^ j < 2 * (n % g * 2 ^ j)) = decide (g < 2 * (n % g)) := by
    rw [← Nat.mul_assoc]
    exact decide_eq_decide.2 (Nat.mul_lt_mul_right hp)
  have e2 : (g * 2 ^ j == 2 * (n % g * 2 ^ j)) = (g == 2 * (n % g)) := by
    rw [← Nat.mul_assoc, Bool.eq_iff_iff, beq_iff_eq, beq_iff_eq]
    exact Nat.mul_left_inj (by omega)
  rw [e1, e2]

theorem log2_scale {n : Nat} (hn : n ≠ 0) (j : Nat) : (n * 2 ^ j).log2 = n.log2 + j := by
  have h0 : n * 2 ^ j ≠ 0 := Nat.mul_ne_zero hn (Nat.ne_of_gt (Nat.two_pow_pos j))
  refine (Nat.log2_eq_iff h0).2 ⟨?_, ?_⟩
  · rw [Nat.pow_add]; exact Nat.mul_le_mul_right _ (Nat.log2_self_le hn)
  · rw [show n.log2 + j + 1 = (n.log2 + 1) + j by omega, Nat.pow_add]
    exact Nat.mul_lt_mul_of_pos_right Nat.lt_log2_self (Nat.two_pow_pos j)

/-- What is written speaks of the number alone, not of how it is split. -/
theorem nearest_scale (f : Ieee.Format) (s : Bool) (m j : Nat) (e : Int) : f.nearest s (m * 2 ^ j) (e - j) = f.nearest s m e := by
  by_cases hm : m = 0
  · subst hm; simp [Ieee.Format.nearest]
  have h0 : m * 2 ^ j ≠ 0 := Nat.mul_ne_zero hm (Nat.ne_of_gt (Nat.two_pow_pos j))
  unfold Ieee.Format.nearest
  rw [if_neg hm, if_neg h0, log2_scale hm]
  rw [show e - (j : Int) + ((m.log2 + j : Nat) : Int) - f.fractionBits = e + m.log2 - f.fractionBits by omega]
  generalize max (e + (m.log2 : Int) - f.fractionBits) f.leastPlace = last
  dsimp only
  congr 3
  simp only [Nat.shiftLeft_eq]
  by_cases h1 : e ≤ last
  · rw [show (e - (j : Int) - last).toNat = 0 by omega, show (e - last).toNat = 0 by omega, show (last - (e - (j : Int))).toNat = (last - e).toNat + j by omega]
    simpa using cut_scale s m _ j hm
  · by_cases h2 : last ≤ e - j
    · rw [show (last - (e - (j : Int))).toNat = 0 by omega, show (last - e).toNat = 0 by omega, cut_zero, cut_zero, Nat.mul_assoc, ← Nat.pow_add,
        show j + (e - (j : Int) - last).toNat = (e - last).toNat by omega]
    · rw [show (e - (j : Int) - last).toNat = 0 by omega, show (last - e).toNat = 0 by omega, cut_zero, Nat.pow_zero, Nat.mul_one,
        show j = (e - last).toNat + (last - (e - (j : Int))).toNat by omega, Nat.pow_add, ← Nat.mul_assoc]
      rw [show (last - (e - (((e - last).toNat + (last - (e - (j : Int))).toNat : Nat) : Int))).toNat = (last - (e - (j : Int))).toNat by omega]
      exact cut_exact s _ _

/-- The place of the last digit that is kept. -/
def lastOf (f : Ieee.Format) (m : Nat) (e : Int) : Int := max (e + m.log2 - f.fractionBits) f.leastPlace

/-- A number that the format has is read as it was written, shifted to the format's own place. -/
theorem read_nearest (f : Ieee.Format) (s : Bool) (m : Nat) (e : Int) (hm : m ≠ 0) (hp : m.log2 ≤ f.fractionBits) (he : f.leastPlace ≤ e)
    (ho : e + m.log2 - f.fractionBits ≤ f.leastPlace + 2 ^ f.exponentBits - 3) (hx : 2 ≤ f.exponentBits) :
    f.read (f.nearest s m e) = .number s (m * 2 ^ (e - lastOf f m e).toNat) (lastOf f m e) ∧ f.nearest s m e % f.signWeight < f.infRung := by
  have hx4 : (4 : Int) ≤ 2 ^ f.exponentBits := by
    have h : 2 ^ 2 ≤ 2 ^ f.exponentBits := Nat.pow_le_pow_right (by omega) hx
    exact_mod_cast h
  have hb : f.binade = 2 ^ f.fractionBits := rfl
  have hbp : 0 < f.binade := by rw [hb]; exact Nat.two_pow_pos _
  have hl1 : lastOf f m e ≤ e := by unfold lastOf; omega
  have hl2 : f.leastPlace ≤ lastOf f m e := by unfold lastOf; omega
  have hl3 : lastOf f m e ≤ f.leastPlace + 2 ^ f.exponentBits - 3 := by unfold lastOf; omega
  have hlog : (m * 2 ^ (e - lastOf f m e).toNat).log2 = m.log2 + (e - lastOf f m e).toNat := log2_scale hm _
  have hM0 : m * 2 ^ (e - lastOf f m e).toNat ≠ 0 := Nat.mul_ne_zero hm (Nat.ne_of_gt (Nat.two_pow_pos _))
  have hM : m * 2 ^ (e - lastOf f m e).toNat < 2 * f.binade := by
    have h1 : m.log2 + (e - lastOf f m e).toNat ≤ f.fractionBits := by unfold lastOf; omega
    have := @Nat.lt_log2_self (m * 2 ^ (e - lastOf f m e).toNat)
    rw [hlog] at this
    calc _ < _ := this
      _ ≤ 2 ^ (f.fractionBits + 1) := Nat.pow_le_pow_right (by omega) (by omega)
      _ = 2 * f.binade := by rw [Nat.pow_succ, ← hb]; omega
  have hfull : f.leastPlace < lastOf f m e → f.binade ≤ m * 2 ^ (e - lastOf f m e).toNat := by
    intro h
    have h1 : m.log2 + (e - lastOf f m e).toNat = f.fractionBits := by unfold lastOf at h ⊢; omega
    have := Nat.log2_self_le hM0
    rw [hlog, h1, ← hb] at this
    exact this
  have hn : f.nearest s m e = f.word s (min ((lastOf f m e - f.leastPlace).toNat * f.binade + m * 2 ^ (e - lastOf f m e).toNat) f.infRung) := by
    unfold Ieee.Format.nearest
    rw [if_neg hm]
    show f.word s (min ((lastOf f m e - f.leastPlace).toNat * f.binade + Ieee.Toward.even.cut s (m <<< (e - lastOf f m e).toNat) (lastOf f m e - e).toNat) f.infRung) = _
    rw [show (lastOf f m e - e).toNat = 0 by omega, cut_zero, Nat.shiftLeft_eq]
  generalize hM' : m * 2 ^ (e - lastOf f m e).toNat = M at *
  generalize hq : (lastOf f m e - f.leastPlace).toNat = q at *
  have hq2 : q + 3 ≤ 2 ^ f.exponentBits := by
    have : (q : Int) + 3 ≤ ((2 ^ f.exponentBits : Nat) : Int) := by push_cast; omega
    exact_mod_cast this
  have hr : q * f.binade + M < f.infRung := by
    unfold Ieee.Format.infRung
    have h1 : (q + 2) * f.binade ≤ (2 ^ f.exponentBits - 1) * f.binade := Nat.mul_le_mul_right _ (by omega)
    rw [Nat.add_mul] at h1
    omega
  have hs : f.infRung < f.signWeight := Ieee.Format.infRung_lt _
  rw [Nat.min_eq_left (Nat.le_of_lt hr)] at hn
  rw [hn]
  have hmod := word_mod f s (r := q * f.binade + M) (by omega)
  refine ⟨?_, by rw [hmod]; exact hr⟩
  have hsg : (f.word s (q * f.binade + M) / f.signWeight % 2 == 1) = s := by
    unfold Ieee.Format.word
    cases s
    · simp [Nat.div_eq_of_lt (show q * f.binade + M < f.signWeight by omega)]
    · simp [Nat.add_div_left _ (show 0 < f.signWeight by omega), Nat.div_eq_of_lt (show q * f.binade + M < f.signWeight by omega)]
  unfold Ieee.Format.read
  simp only [hmod, hsg]
  by_cases hsub : q * f.binade + M < f.binade
  · rw [if_pos hsub]
    have hq0 : q = 0 := by
      apply Nat.eq_zero_of_not_pos
      intro h
      have : 1 * f.binade ≤ q * f.binade := Nat.mul_le_mul_right _ h
      omega
    rw [hq0]
    congr 1
    · simp
    · omega
  · rw [if_neg hsub, if_pos hr]
    have hMb : f.binade ≤ M := by
      by_cases h : f.leastPlace < lastOf f m e
      · exact hfull h
      · have : q = 0 := by omega
        rw [this] at hsub; omega
    have e1 : (q * f.binade + M) % f.binade = M - f.binade := by
      rw [Nat.mul_add_mod_self_right, Nat.mod_eq_sub_mod hMb, Nat.mod_eq_of_lt (by omega)]
    have e2 : (q * f.binade + M) / f.binade = q + 1 := by
      rw [Nat.mul_comm, Nat.mul_add_div hbp]
      congr 1
      rw [show M = f.binade + (M - f.binade) by omega, Nat.add_div_left _ hbp, Nat.div_eq_of_lt (by omega)]
    rw [e1, e2]
    congr 1
    · omega
    · omega

/-- What is read is written back. -/
theorem write_read (f : Ieee.Format) (hx : 2 ≤ f.exponentBits) (b : Nat) {s : Bool} {m : Nat} {e : Int} (h : f.read b = .number s m e) : f.nearest s m e = f.word s (b % f.signWeight) := by
  have hb : f.binade = 2 ^ f.fractionBits := rfl
  have hbp : 0 < f.binade := by rw [hb]; exact Nat.two_pow_pos _
  have hx4 : 4 ≤ 2 ^ f.exponentBits := Nat.pow_le_pow_right (n := 2) (by omega) hx
  have hinf : f.binade ≤ f.infRung := by
    unfold Ieee.Format.infRung
    exact Nat.le_mul_of_pos_left _ (by omega)
  unfold Ieee.Format.read at h
  dsimp only at h
  generalize b % f.signWeight = r at *
  split at h
  · rename_i h1
    simp only [Ieee.Datum.number.injEq] at h
    obtain ⟨_, rfl, rfl⟩ := h
    by_cases h0 : r = 0
    · subst h0; simp [Ieee.Format.nearest]
    · unfold Ieee.Format.nearest
      rw [if_neg h0]
      have h2 := h1
      rw [hb] at h2
      have := (Nat.log2_lt h0).2 h2
      rw [show max (f.leastPlace + (r.log2 : Int) - f.fractionBits) f.leastPlace = f.leastPlace by omega]
      simp only [Int.sub_self, Int.toNat_zero, Nat.shiftLeft_zero, cut_zero, Nat.zero_mul, Nat.zero_add]
      rw [Nat.min_eq_left (by omega)]
  · rename_i h1
    split at h
    · rename_i h2
      simp only [Ieee.Datum.number.injEq] at h
      obtain ⟨_, rfl, rfl⟩ := h
      have hlt := Nat.mod_lt r hbp
      have h0 : f.binade + r % f.binade ≠ 0 := by omega
      have e1 : (f.binade + r % f.binade).log2 = f.fractionBits := by
        refine (Nat.log2_eq_iff h0).2 ⟨?_, ?_⟩
        · rw [← hb]; omega
        · rw [Nat.pow_succ, ← hb]; omega
      have h3 : 1 ≤ r / f.binade := (Nat.le_div_iff_mul_le hbp).2 (by omega)
      unfold Ieee.Format.nearest
      rw [if_neg h0, e1]
      rw [show max (f.leastPlace + ((r / f.binade - 1 : Nat) : Int) + (f.fractionBits : Int) - f.fractionBits) f.leastPlace = f.leastPlace + ((r / f.binade - 1 : Nat) : Int) by omega]
      simp only [Int.sub_self, Int.toNat_zero, Nat.shiftLeft_zero, cut_zero]
      rw [show (f.leastPlace + ((r / f.binade - 1 : Nat) : Int) - f.leastPlace).toNat = r / f.binade - 1 by omega]
      have h4 : (r / f.binade - 1) * f.binade + (f.binade + r % f.binade) = r := by
        have h5 := Nat.div_add_mod r f.binade
        have h6 : (r / f.binade - 1) * f.binade + f.binade = r / f.binade * f.binade := by
          rw [← Nat.succ_mul]; congr 1; omega
        rw [Nat.mul_comm] at h5
        omega
      rw [h4, Nat.min_eq_left (by omega)]
    · split at h <;> cases h

theorem bits32 : FloatKind.f32.format.exponentBits = 8 ∧ FloatKind.f32.format.fractionBits = 23 ∧ FloatKind.f32.format.leastPlace = -149 ∧ FloatKind.f32.format.signWeight = 2147483648 ∧ FloatKind.f32.format.infRung = 2139095040 := by decide
theorem bits64 : FloatKind.f64.format.exponentBits = 11 ∧ FloatKind.f64.format.fractionBits = 52 ∧ FloatKind.f64.format.leastPlace = -1074 ∧ FloatKind.f64.format.signWeight = 9223372036854775808 ∧ FloatKind.f64.format.infRung = 9218868437227405312 := by decide

/-- What a narrow number's datum is made of. -/
theorem read32 {b : Nat} {s : Bool} {m : Nat} {e : Int} (h : FloatKind.f32.format.read b = .number s m e) : -149 ≤ e ∧ (m ≠ 0 → m.log2 ≤ 23 ∧ e + m.log2 + 1 ≤ 128) := by
  refine ⟨?_, fun h0 => ⟨?_, lt32 h h0⟩⟩
  all_goals
    have e1 : Ieee.single.signWeight = 2147483648 := by decide
    have e2 : Ieee.single.infRung = 2139095040 := by decide
    have e3 : Ieee.single.binade = 8388608 := by decide
    have e4 : Ieee.single.leastPlace = -149 := by decide
    simp only [FloatKind.format, Ieee.Format.read, e1, e2, e3, e4] at h
    split at h
    · simp only [Ieee.Datum.number.injEq] at h
      obtain ⟨_, rfl, rfl⟩ := h
      first | omega | (have : (b % 2147483648).log2 < 23 := (Nat.log2_lt h0).2 (by omega)
                       omega)
    · split at h
      · simp only [Ieee.Datum.number.injEq] at h
        obtain ⟨_, rfl, rfl⟩ := h
        first | omega | (have : (8388608 + b % 2147483648 % 8388608).log2 < 24 := (Nat.log2_lt h0).2 (by omega)
                         omega)
      · split at h <;> cases h

/-- A narrow number is widened exactly. -/
theorem read_widen {b : Nat} {s : Bool} {m : Nat} {e : Int} (h : FloatKind.f32.format.read b = .number s m e) :
    ∃ j : Nat, ∃ e', FloatKind.f64.format.read (widen b) = .number s (m * 2 ^ j) e' ∧ (m ≠ 0 → e' = e - j) ∧ widen b % 9223372036854775808 < 9218868437227405312 := by
  obtain ⟨b1, b2, b3, b4, b5⟩ := bits64
  obtain ⟨h1, h2⟩ := read32 h
  have hw : widen b = FloatKind.f64.format.nearest s m e := by simp only [widen, h]; rfl
  rw [hw]
  by_cases hm : m = 0
  · subst hm
    refine ⟨0, -1074, ?_, fun h => absurd rfl h, ?_⟩
    · cases s <;> simp [Ieee.Format.nearest, Ieee.Format.word] <;> decide
    · cases s <;> simp [Ieee.Format.nearest, Ieee.Format.word] <;> decide
  · obtain ⟨h3, h4⟩ := h2 hm
    obtain ⟨h5, h6⟩ := read_nearest FloatKind.f64.format s m e hm (by omega) (by omega) (by rw [b1, b2, b3]; omega) (by omega)
    rw [b4, b5] at h6
    refine ⟨_, _, h5, fun _ => ?_, h6⟩
    have : lastOf FloatKind.f64.format m e ≤ e := by unfold lastOf; omega
    omega
end Go.Fk
namespace Go.Fk
open Go Go.RowKit
theorem read_mod {k : FloatKind} {b : Nat} {s : Bool} {m : Nat} {e : Int} (h : k.format.read b = .number s m e) : k.format.read (b % k.format.signWeight) = .number false m e := by
  have hs : 0 < k.format.signWeight := by unfold Ieee.Format.signWeight; exact Nat.two_pow_pos _
  have e1 : (b % k.format.signWeight / k.format.signWeight % 2 == 1) = false := by
    rw [Nat.div_eq_of_lt (Nat.mod_lt _ hs)]; rfl
  unfold Ieee.Format.read at h ⊢
  dsimp only at h ⊢
  rw [e1, Nat.mod_mod]
  generalize b % k.format.signWeight = r at *
  split
  · rename_i h1
    rw [if_pos h1] at h
    simp only [Ieee.Datum.number.injEq] at h ⊢
    exact ⟨trivial, h.2⟩
  · rename_i h1
    rw [if_neg h1] at h
    split
    · rename_i h2
      rw [if_pos h2] at h
      simp only [Ieee.Datum.number.injEq] at h ⊢
      exact ⟨trivial, h.2⟩
    · rename_i h2
      rw [if_neg h2] at h
      split at h <;> cases h

/-- May be narrowed: what the language fixes, whole range. -/
def narrowableX (b : Nat) : Prop := ∀ s m e, FloatKind.f64.format.read b = .number s m e → (FloatKind.f32.decode (FloatKind.f32.encode (.number s m e))).isInfinity = false

/-- The size of a narrow number, by way of the wide ones. -/
theorem narrow_abs {b w : Nat} (hw : can .f64 w = can .f64 (widen b)) : narrowableX (w % 9223372036854775808) ∧ can .f32 (narrow (w % 9223372036854775808)) = can .f32 (b % 2147483648) := by
  obtain ⟨a1, a2, a3, a4, a5⟩ := bits32
  obtain ⟨b1, b2, b3, b4, b5⟩ := bits64
  cases hr : FloatKind.f32.format.read b with
  | nan s t =>
    have hn : isNan .f32 b = true := by simp [isNan, hr, Ieee.Datum.isNaN]
    have hq : widen b = qnan .f64 := by simp only [widen, hr]
    have hwn : isNan .f64 w = true := by rw [isNan_of_can hw, hq]; exact isNan_qnan _
    have hm : isNan .f64 (w % 9223372036854775808) = true := by rw [isNan_f64] at hwn ⊢; rwa [Nat.mod_mod]
    have hm2 : isNan .f32 (b % 2147483648) = true := by rw [isNan_f32] at hn ⊢; rwa [Nat.mod_mod]
    obtain ⟨s', t', hr'⟩ := read_nan hm
    refine ⟨fun s1 m1 e1 h => (by rw [hr'] at h; cases h), ?_⟩
    rw [can_of_nan hm2]
    simp only [narrow, hr', can_qnan]
  | infinity s =>
    have hb : b % 2147483648 = 2139095040 := by
      have e1 : Ieee.single.signWeight = 2147483648 := by decide
      have e2 : Ieee.single.infRung = 2139095040 := by decide
      simp only [FloatKind.format, Ieee.Format.read, e1, e2] at hr
      split at hr
      · cases hr
      · split at hr
        · cases hr
        · split at hr
          · assumption
          · cases hr
    have hq : widen b = FloatKind.f64.encode (.infinity s) := by simp only [widen, hr]
    have hwq : w = FloatKind.f64.encode (.infinity s) := by
      rw [hq] at hw
      exact (eq_of_can hw.symm (by cases s <;> decide)).symm
    rw [hwq, hb]
    have e1 : FloatKind.f64.format.read (FloatKind.f64.encode (.infinity s) % 9223372036854775808) = .infinity false := by cases s <;> decide
    refine ⟨fun s1 m1 e1' h => (by rw [e1] at h; cases h), ?_⟩
    simp only [narrow, e1]
    decide
  | number s m e =>
    obtain ⟨j, e', h1, h2, h3⟩ := read_widen hr
    have hwq : w = widen b := by
      refine (eq_of_can hw.symm ?_).symm
      simp [isNan, h1, Ieee.Datum.isNaN]
    rw [hwq]
    have h4 := read_mod h1
    have h5 := read_mod hr
    rw [b4] at h4
    rw [a4] at h5
    have h6 : FloatKind.f32.format.nearest false (m * 2 ^ j) e' = b % 2147483648 := by
      have h7 := write_read FloatKind.f32.format (by omega) (b % 2147483648) h5
      rw [a4, Nat.mod_mod] at h7
      by_cases hm : m = 0
      · subst hm
        rw [Nat.zero_mul]
        exact (show FloatKind.f32.format.nearest false 0 e' = FloatKind.f32.format.nearest false 0 e by simp [Ieee.Format.nearest]).trans h7
      · rw [h2 hm, nearest_scale, h7]; rfl
    have h8 : FloatKind.f32.encode (.number false (m * 2 ^ j) e') = b % 2147483648 := h6
    refine ⟨fun s1 m1 e1 h => ?_, ?_⟩
    · rw [h4] at h
      cases h
      rw [h8]
      have : FloatKind.f32.decode (b % 2147483648) = .number false m e := h5
      rw [this]; rfl
    · have : narrow (widen b % 9223372036854775808) = FloatKind.f32.encode (.number false (m * 2 ^ j) e') := by simp only [narrow, h4]
      rw [this, h8]

section
variable {P : Program}
theorem run_narrowX (w : World) (src dst : TypeId) (b : Nat) (hs : P.underlying src = some (.float .f64)) (hd : P.underlying dst = some (.float .f32)) (hb : narrowableX b) :
    ∃ r n, (convert src dst (.float .f64 b)).run P w = .ok (.float .f32 r) (w.drewN n) ∧ can .f32 r = can .f32 (narrow b) ∧ fits .f32 r := by
  cases hr : FloatKind.f64.format.read b with
  | nan s t =>
    refine ⟨(Question.nanConv .f32 b).cut (w.tape w.drawn (.nanConv .f32 b)), 1, ?_, ?_, (nan_conv .f32 b _).2⟩
    · simp [convert, run_underlying hs, run_underlying hd, Conv.floatToFloat, FloatKind.decode, hr, Question.forced]; rfl
    · rw [can_of_nan (nan_conv .f32 b _).1]; simp only [narrow, hr, can_qnan]
  | infinity s =>
    refine ⟨FloatKind.f32.encode (.infinity s), 0, ?_, by simp only [narrow, hr], encode_wf _ _⟩
    simp [convert, run_underlying hs, run_underlying hd, Conv.floatToFloat, FloatKind.decode, hr]; rfl
  | number s m e =>
    refine ⟨FloatKind.f32.encode (.number s m e), 0, ?_, by simp only [narrow, hr], encode_wf _ _⟩
    have h := hb s m e hr
    have hr' : FloatKind.f64.decode b = .number s m e := hr
    simp [convert, run_underlying hs, run_underlying hd, Conv.floatToFloat, hr', h]; rfl

variable {w : World} {ops : Array Oper} {rest : List Oper} {o : Oper} {a : Act} {Q : Exit → Act → World → Prop}
theorem wpList_narrowX (hg : o.guard = none) {src dst : TypeId} {x : Operand} (hop : o.op = Op.convert src dst x) {b : Nat} (hx : a.eval x = .float .f64 b)
    (hs : P.underlying src = some (.float .f64)) (hd : P.underlying dst = some (.float .f32)) (hb : narrowableX b)
    (hK : ∀ r n, Hid (can .f32 r = can .f32 (narrow b)) → Hid (fits .f32 r) → wpList P ops Q rest (a.put o.dst (.float .f32 r)) (w.drewN n)) : wpList P ops Q (o :: rest) a w := by
  refine wpList_plain hg fun K hK' => ?_
  obtain ⟨r, n, hrun, hr, hf⟩ := run_narrowX (P := P) w src dst b hs hd hb
  unfold Oper.wp
  simp [execOp, hop, hx, hrun, Result.andThen]
  exact hK' _ _ (hK r n hr hf)
end
end Go.Fk

/- The place in a table: a number of 0 to 1, times 256, and its integer. Nothing here names a program. -/
namespace Go.Fk
open Go Go.RowKit
def one32 : Int := 2 ^ unitOf .f32
theorem one32_pos : 0 < one32 := Int.pow_pos (by omega)
theorem far32 : 9223372036854775807 * one32 < (far : Int) := by decide +kernel
theorem far32' : -(far : Int) < -9223372036854775808 * one32 := by decide +kernel
theorem val_one : val .f32 1065353216 = one32 ∧ isNan .f32 1065353216 = false := by decide +kernel
theorem val_zero : val .f32 0 = 0 ∧ isNan .f32 0 = false := by decide +kernel
/-- A narrow float to an integer of 64 bits. -/
theorem floatToInt_val32 {b : Nat} (hn : isNan .f32 b = false) (hlo : -9223372036854775808 * one32 ≤ val .f32 b) (hhi : val .f32 b ≤ 9223372036854775807 * one32) :
    floatToIntVal .f32 b .i64 = some ((val .f32 b).tdiv one32) := by
  have hsmall := far32
  have hsmall' := far32'
  cases hr : FloatKind.f32.format.read b with
  | nan s t => simp [isNan, hr, Ieee.Datum.isNaN] at hn
  | infinity s =>
    have hv : val .f32 b = if s then -(far : Int) else far := by simp only [val, hr]
    rw [hv] at hlo hhi
    generalize (far : Int) = big at *
    cases s <;> simp at hlo hhi <;> omega
  | number s m e =>
    have ht := toInt_val hr
    unfold floatToIntVal
    rw [ht]
    have hU := one32_pos
    rw [show (2 : Int) ^ unitOf .f32 = one32 from rfl]
    generalize one32 = U at *
    generalize val .f32 b = v at *
    have h1 : IntKind.i64.min ≤ v.tdiv U := by
      have : IntKind.i64.min = (-9223372036854775808 * U).tdiv U := (Int.mul_tdiv_cancel _ (by omega)).symm
      rw [this]; exact Int.tdiv_le_tdiv hU hlo
    have h2 : v.tdiv U ≤ IntKind.i64.max := by
      have : IntKind.i64.max = (9223372036854775807 * U).tdiv U := (Int.mul_tdiv_cancel _ (by omega)).symm
      rw [this]; exact Int.tdiv_le_tdiv hU hhi
    simp only [h1, h2, and_self, if_true]
theorem val_nearest32 {s : Bool} {m : Nat} {e : Int} (hm : m ≠ 0) (hp : m.log2 ≤ 23) (he : -149 ≤ e) (ho : e + m.log2 ≤ 127) :
    val .f32 (FloatKind.f32.format.nearest s m e) = Ieee.signed s m (e + 149).toNat := by
  obtain ⟨b1, b2, b3, b4, b5⟩ := bits32
  obtain ⟨h5, _⟩ := read_nearest FloatKind.f32.format s m e hm (by omega) (by omega) (by rw [b1, b2, b3]; omega) (by omega)
  have h1 : lastOf FloatKind.f32.format m e ≤ e := by unfold lastOf; omega
  have h2 : -149 ≤ lastOf FloatKind.f32.format m e := by unfold lastOf; omega
  simp only [val, h5]
  rw [signed_eq, signed_eq]
  have hu : ((unitOf .f32 : Nat) : Int) = 149 := rfl
  rw [hu]
  generalize lastOf FloatKind.f32.format m e = last at *
  have e1 : (2 : Int) ^ (e + 149).toNat = 2 ^ (e - last).toNat * 2 ^ (last + 149).toNat := by
    rw [← Int.pow_add]; congr 1; omega
  rw [e1, Int.natCast_mul, Int.natCast_pow]
  cases s
  · simp [Int.mul_assoc]
  · simp [Int.mul_assoc, Int.neg_mul]
/-- The place of a number in a table. -/
def placeW (x : Nat) : Nat := fop .mul .f32 x 1132462080
def inUnit (x : Nat) : Bool := (FloatKind.f32.format.order x 0 == some .gt || FloatKind.f32.format.order x 0 == some .eq) && (FloatKind.f32.format.order x 1065353216 == some .lt || FloatKind.f32.format.order x 1065353216 == some .eq)
theorem inUnit_val {x : Nat} (h : inUnit x = true) : isNan .f32 x = false ∧ 0 ≤ val .f32 x ∧ val .f32 x ≤ one32 := by
  cases hn : isNan .f32 x
  · have h0 := order_val hn val_zero.2
    have h1 := order_val hn val_one.2
    unfold inUnit at h
    rw [h0, h1, val_zero.1, val_one.1] at h
    generalize one32 = U at *
    generalize val .f32 x = v at *
    refine ⟨rfl, ?_, ?_⟩
    · rcases Int.lt_trichotomy v 0 with c | c | c
      · rw [Int.compare_eq_lt.2 c] at h; simp at h
      · omega
      · omega
    · rcases Int.lt_trichotomy v U with c | c | c
      · omega
      · omega
      · rw [Int.compare_eq_gt.2 c] at h; simp at h
  · unfold inUnit at h
    rw [order_of_nan_l hn] at h
    simp at h
theorem place_val {x : Nat} (h : inUnit x = true) : isNan .f32 (placeW x) = false ∧ val .f32 (placeW x) = val .f32 x * 256 := by
  obtain ⟨hn, h0, h1⟩ := inUnit_val h
  have hc : FloatKind.f32.format.read 1132462080 = .number false 8388608 (-15) := by decide
  have hf := far32
  have hU := one32_pos
  cases hr : FloatKind.f32.format.read x with
  | nan s t => simp [isNan, hr, Ieee.Datum.isNaN] at hn
  | infinity s =>
    have hv : val .f32 x = if s then -(far : Int) else far := by simp only [val, hr]
    rw [hv] at h0 h1
    generalize (far : Int) = big at *
    cases s <;> simp at h0 h1 <;> omega
  | number s m e =>
    obtain ⟨he, hm⟩ := read32 hr
    have hb : floatBits .mul .f32 x 1132462080 = some (FloatKind.f32.format.nearest s m (e + 8)) := by
      have : floatBits .mul .f32 x 1132462080 = some (FloatKind.f32.format.nearest (s ^^ false) (m * 2 ^ 23) (e + -15)) := by
        simp only [floatBits, Ieee.Format.mul, hr, hc]; rfl
      rw [this, Bool.xor_false, ← nearest_scale _ s m 23 (e + 8), show e + 8 - ((23 : Nat) : Int) = e + -15 by omega]
    have hp : placeW x = FloatKind.f32.format.nearest s m (e + 8) := by
      unfold placeW fop
      rw [hb]
      exact can_of_not (isNan_nearest .f32 s m (e + 8))
    refine ⟨by rw [hp]; exact isNan_nearest .f32 s m (e + 8), ?_⟩
    have hv : val .f32 x = Ieee.signed s m (e + 149).toNat := by simp only [val, hr]; rfl
    rw [hp, hv]
    by_cases m0 : m = 0
    · subst m0
      have : FloatKind.f32.format.nearest s 0 (e + 8) = FloatKind.f32.format.word s 0 := by simp [Ieee.Format.nearest]
      rw [this, signed_eq]
      cases s <;> simp <;> decide
    · obtain ⟨hl, _⟩ := hm m0
      have hle : e + m.log2 ≤ 0 := by
        rw [hv, signed_eq] at h0 h1
        have hs : s = false := by
          cases s
          · rfl
          · simp only [if_true, Int.neg_mul] at h0
            have : 0 < (m : Int) * 2 ^ (e + 149).toNat := Int.mul_pos (by omega) (Int.pow_pos (by omega))
            omega
        subst hs
        simp only [Bool.false_eq_true, if_false] at h1
        have h2 : m * 2 ^ (e + 149).toNat ≤ 2 ^ 149 := by
          have h3 : ((m * 2 ^ (e + 149).toNat : Nat) : Int) ≤ ((2 ^ 149 : Nat) : Int) := by
            rw [Int.natCast_mul, Int.natCast_pow, Int.natCast_pow]; exact h1
          exact_mod_cast h3
        have h4 : 2 ^ (m.log2 + (e + 149).toNat) ≤ 2 ^ 149 := by
          rw [Nat.pow_add]
          exact Nat.le_trans (Nat.mul_le_mul_right _ (Nat.log2_self_le m0)) h2
        have h5 := (Nat.pow_le_pow_iff_right (a := 2) (by omega)).1 h4
        omega
      rw [val_nearest32 m0 hl (by omega) (by omega), signed_eq, signed_eq, show (e + 8 + 149).toNat = (e + 149).toNat + 8 by omega, Int.pow_add, Int.mul_assoc]
      rfl
/-- The index of a place. -/
def indexW (x : Nat) : Nat := ((val .f32 x * 256).tdiv one32).toNat
theorem place_int {x p : Nat} (h : inUnit x = true) (hp : can .f32 p = placeW x) : isNan .f32 p = false ∧ floatToIntVal .f32 p .i64 = some (indexW x : Int) ∧ indexW x ≤ 256 := by
  obtain ⟨hn, h0, h1⟩ := inUnit_val h
  obtain ⟨hn2, hv⟩ := place_val h
  have hpn : isNan .f32 p = false := by
    have := isNan_of_can (hp.trans (by unfold placeW; exact (can_fop _ _ _ _).symm) : can .f32 p = can .f32 (placeW x))
    rw [this, hn2]
  have e : p = placeW x := by rw [← can_of_not hpn, hp]
  have hU := one32_pos
  refine ⟨hpn, ?_, ?_⟩
  · rw [e, floatToInt_val32 hn2 (by rw [hv]; generalize one32 = U at *; omega) (by rw [hv]; generalize one32 = U at *; omega), hv]
    unfold indexW
    generalize one32 = U at *
    have : 0 ≤ (val .f32 x * 256).tdiv U := Int.tdiv_nonneg (by omega) (by omega)
    rw [Int.toNat_of_nonneg this]
  · unfold indexW
    generalize one32 = U at *
    have : (val .f32 x * 256).tdiv U ≤ (256 * U).tdiv U := Int.tdiv_le_tdiv hU (by omega)
    rw [Int.mul_tdiv_cancel _ (by omega)] at this
    omega
end Go.Fk

/- Whole numbers as floats, and what a number has above its whole part. Nothing here names a program. -/
namespace Go.Fk
open Go Go.RowKit
theorem val_int {k : Nat} (hk : k ≤ 4096) : val .f32 (floatOfInt .f32 (k : Int)) = (k : Int) * one32 := by
  have e : floatOfInt .f32 (k : Int) = FloatKind.f32.format.nearest false k 0 := by
    show FloatKind.f32.encode (.number (decide ((k : Int) < 0)) (k : Int).natAbs 0) = _
    rw [show decide ((k : Int) < 0) = false by simp, Int.natAbs_natCast]; rfl
  rw [e]
  by_cases h0 : k = 0
  · subst h0; decide +kernel
  · have hl : k.log2 ≤ 12 := Nat.le_of_lt_succ ((Nat.log2_lt h0).2 (by omega))
    rw [val_nearest32 h0 (by omega) (by omega) (by omega), signed_eq]
    simp only [Bool.false_eq_true, if_false, one32]
    rfl
theorem far_one : 4096 * one32 < (far : Int) := by decide +kernel
theorem finite_num {x : Nat} (hn : isNan .f32 x = false) (h1 : -(far : Int) < val .f32 x) (h2 : val .f32 x < far) : ∃ s m e, FloatKind.f32.format.read x = .number s m e := by
  cases hr : FloatKind.f32.format.read x with
  | nan s t => simp [isNan, hr, Ieee.Datum.isNaN] at hn
  | infinity s =>
    have hv : val .f32 x = if s then -(far : Int) else far := by simp only [val, hr]
    rw [hv] at h1 h2
    generalize (far : Int) = big at *
    cases s <;> simp at h1 h2
  | number s m e => exact ⟨s, m, e, rfl⟩
theorem sub_num {x y : Nat} {s t : Bool} {m n : Nat} {i j : Int} (hrx : FloatKind.f32.format.read x = .number s m i) (hry : FloatKind.f32.format.read y = .number t n j) :
    isNan .f32 (fop .sub .f32 x y) = false ∧ (val .f32 x = val .f32 y → FloatKind.f32.format.order (fop .sub .f32 x y) 0 = some .eq) := by
  obtain ⟨sg, hb⟩ : ∃ sg, floatBits .sub .f32 x y = some (FloatKind.f32.format.nearest sg (Ieee.signed s m (i - min i j).toNat + Ieee.signed (!t) n (j - min i j).toNat).natAbs (min i j)) := ⟨_, by
    simp only [floatBits, Ieee.Format.sub, hrx, hry, Ieee.Datum.opposite, Ieee.Datum.sum, Option.map_some]; rfl⟩
  have hf : fop .sub .f32 x y = FloatKind.f32.format.nearest sg (Ieee.signed s m (i - min i j).toNat + Ieee.signed (!t) n (j - min i j).toNat).natAbs (min i j) := by
    unfold fop; rw [hb]; exact can_of_not (isNan_nearest _ _ _ _)
  refine ⟨by rw [hf]; exact isNan_nearest _ _ _ _, fun h => ?_⟩
  have pi : -149 ≤ i := read_place hrx
  have pj : -149 ≤ j := read_place hry
  have vx : val .f32 x = Ieee.signed s m (i + 149).toNat := by simp only [val, hrx]; rfl
  have vy : val .f32 y = Ieee.signed t n (j + 149).toNat := by simp only [val, hry]; rfl
  have hneg : Ieee.signed (!t) n (j - min i j).toNat = -Ieee.signed t n (j - min i j).toNat := by
    unfold Ieee.signed; cases t <;> simp
  rw [hneg] at hf
  have e1 : val .f32 x - val .f32 y = (Ieee.signed s m (i - min i j).toNat + -Ieee.signed t n (j - min i j).toNat) * 2 ^ (min i j + 149).toNat := by
    rw [vx, vy, signed_eq, signed_eq, signed_eq, signed_eq, Int.add_mul, Int.neg_mul, Int.mul_assoc, Int.mul_assoc, ← Int.pow_add, ← Int.pow_add]
    rw [show (i - min i j).toNat + (min i j + 149).toNat = (i + 149).toNat by omega, show (j - min i j).toNat + (min i j + 149).toNat = (j + 149).toNat by omega]
    omega
  have hT : Ieee.signed s m (i - min i j).toNat + -Ieee.signed t n (j - min i j).toNat = 0 := by
    have h0 : (Ieee.signed s m (i - min i j).toNat + -Ieee.signed t n (j - min i j).toNat) * 2 ^ (min i j + 149).toNat = 0 := by rw [← e1, h]; omega
    exact (Int.mul_eq_zero.1 h0).resolve_right (Int.ne_of_gt (Int.pow_pos (by omega)))
  rw [hf, hT, Int.natAbs_zero]
  have : FloatKind.f32.format.nearest sg 0 (min i j) = FloatKind.f32.format.word sg 0 := by simp [Ieee.Format.nearest]
  rw [this]
  cases sg <;> decide +kernel
/-- A number's whole part. -/
def wholeW (d : Nat) : Nat := ((val .f32 d).tdiv one32).toNat
/-- What a number has above its whole part. -/
def shareW (d : Nat) : Nat := fop .sub .f32 d (floatOfInt .f32 (wholeW d : Int))
theorem into_val {d n : Nat} (hn : n ≤ 4096) (h : withinB d 1065353216 (floatOfInt .f32 (n : Int)) = true) : isNan .f32 d = false ∧ one32 ≤ val .f32 d ∧ val .f32 d ≤ n * one32 := by
  cases hd : isNan .f32 d
  · have h0 := order_val hd val_one.2
    have h1 := order_val hd (isNan_int (n : Int))
    unfold withinB at h
    rw [h0, h1, val_one.1, val_int hn] at h
    generalize one32 = U at *
    generalize val .f32 d = v at *
    generalize (n : Int) * U = T at *
    refine ⟨rfl, ?_, ?_⟩
    · rcases Int.lt_trichotomy v U with c | c | c
      · rw [Int.compare_eq_lt.2 c] at h; simp at h
      · omega
      · omega
    · rcases Int.lt_trichotomy v T with c | c | c
      · omega
      · omega
      · rw [Int.compare_eq_gt.2 c] at h; simp at h
  · unfold withinB at h
    rw [order_of_nan_l hd] at h
    simp at h
theorem into_int {d n : Nat} (hn : n ≤ 4096) (h : withinB d 1065353216 (floatOfInt .f32 (n : Int)) = true) :
    floatToIntVal .f32 d .i64 = some (wholeW d : Int) ∧ 1 ≤ wholeW d ∧ wholeW d ≤ n := by
  obtain ⟨hd, h0, h1⟩ := into_val hn h
  have hU := one32_pos
  have e1 : one32.tdiv one32 ≤ (val .f32 d).tdiv one32 := Int.tdiv_le_tdiv hU h0
  have e2 : (val .f32 d).tdiv one32 ≤ (n * one32).tdiv one32 := Int.tdiv_le_tdiv hU h1
  rw [Int.mul_tdiv_cancel _ (by omega)] at e2
  rw [Int.tdiv_self (by omega)] at e1
  have hn' : (n : Int) * one32 ≤ 9223372036854775807 * one32 := Int.mul_le_mul_of_nonneg_right (by omega) (by omega)
  refine ⟨?_, ?_, ?_⟩
  · rw [floatToInt_val32 hd (by omega) (by omega)]
    unfold wholeW
    rw [Int.toNat_of_nonneg (by omega)]
  · unfold wholeW; omega
  · unfold wholeW; omega
theorem into_share {d n : Nat} (hn : n ≤ 4096) (h : withinB d 1065353216 (floatOfInt .f32 (n : Int)) = true) :
    isNan .f32 (shareW d) = false ∧ ((FloatKind.f32.format.order (shareW d) 0 == some .eq) = false → wholeW d + 1 ≤ n) := by
  obtain ⟨hd, h0, h1⟩ := into_val hn h
  obtain ⟨_, k0, k1⟩ := into_int hn h
  have hU := one32_pos
  have hf := far_one
  have hn' : (n : Int) * one32 ≤ 4096 * one32 := Int.mul_le_mul_of_nonneg_right (by omega) (by omega)
  have hk' : (wholeW d : Int) * one32 ≤ 4096 * one32 := Int.mul_le_mul_of_nonneg_right (by omega) (by omega)
  have hk0 : 0 ≤ (wholeW d : Int) * one32 := Int.mul_nonneg (by omega) (by omega)
  obtain ⟨s, m, i, hr⟩ := finite_num hd (by omega) (by omega)
  obtain ⟨t, q, j, hr2⟩ := finite_num (isNan_int (wholeW d : Int)) (by rw [val_int (by omega)]; omega) (by rw [val_int (by omega)]; omega)
  obtain ⟨g1, g2⟩ := sub_num hr hr2
  refine ⟨g1, fun hz => ?_⟩
  apply Classical.byContradiction
  intro hc
  have hk : wholeW d = n := by omega
  have : val .f32 d = val .f32 (floatOfInt .f32 (wholeW d : Int)) := by
    rw [val_int (by omega), hk]
    have e3 : (wholeW d : Int) * one32 ≤ val .f32 d := by
      have e4 : (wholeW d : Int) = (val .f32 d).tdiv one32 := by unfold wholeW; rw [Int.toNat_of_nonneg (Int.tdiv_nonneg (by omega) (by omega))]
      rw [e4]
      rw [Int.tdiv_eq_ediv_of_nonneg (by omega)]
      exact Int.ediv_mul_le _ (by omega)
    rw [hk] at e3
    omega
  have hz' := g2 this
  unfold shareW at hz
  rw [hz'] at hz
  simp at hz
end Go.Fk

/- Bounds of what is rounded to the nearest narrow float. Nothing here names a program. -/
namespace Go.Fk
open Go Go.RowKit
/-- The size of a rung, in the least units. -/
def rv (r : Nat) : Nat := if r < 8388608 then r else (8388608 + r % 8388608) * 2 ^ (r / 8388608 - 1)
theorem f32_nums : FloatKind.f32.format.signWeight = 2147483648 ∧ FloatKind.f32.format.binade = 8388608 ∧ FloatKind.f32.format.infRung = 2139095040 ∧ FloatKind.f32.format.leastPlace = -149 ∧ FloatKind.f32.format.fractionBits = 23 := by decide
theorem val_word (s : Bool) {r : Nat} (h : r < 2139095040) : val .f32 (FloatKind.f32.format.word s r) = if s then -(rv r : Int) else (rv r : Int) := by
  obtain ⟨e1, e2, e3, e4, e5⟩ := f32_nums
  have hrung : FloatKind.f32.format.word s r % FloatKind.f32.format.signWeight = r := word_mod _ _ (by rw [e1]; omega)
  have hneg : (FloatKind.f32.format.word s r / FloatKind.f32.format.signWeight % 2 == 1) = s := by
    unfold Ieee.Format.word
    rw [e1]
    cases s
    · simp; omega
    · simp; omega
  have hu : (unitOf .f32 : Int) = 149 := rfl
  unfold val Ieee.Format.read
  rw [hrung, hneg, e2, e3, e4]
  dsimp only
  unfold rv
  by_cases h1 : r < 8388608
  · rw [if_pos h1, if_pos h1]
    simp only [signed_eq]
    rw [hu]
    cases s <;> simp
  · rw [if_neg h1, if_neg h1, if_pos h]
    simp only [signed_eq]
    rw [hu, show (-149 + ((r / 8388608 - 1 : Nat) : Int) + 149).toNat = r / 8388608 - 1 by omega]
    cases s
    · simp
    · simp [Int.neg_mul]
theorem rv_le {r c : Nat} (hc : 1 ≤ c) (h : r ≤ c * 8388608) : rv r ≤ 2 ^ (22 + c) := by
  unfold rv
  have hB : (8388608 : Nat) = 2 ^ 23 := by decide
  split
  · calc r ≤ 2 ^ 23 := by omega
      _ ≤ 2 ^ (22 + c) := Nat.pow_le_pow_right (by omega) (by omega)
  · rename_i h1
    have hq : r / 8388608 ≤ c := Nat.div_le_of_le_mul (by omega)
    rcases Nat.lt_or_ge (r / 8388608) c with h2 | h2
    · calc (8388608 + r % 8388608) * 2 ^ (r / 8388608 - 1) ≤ 2 ^ 24 * 2 ^ (r / 8388608 - 1) := Nat.mul_le_mul_right _ (by have := Nat.mod_lt r (show 0 < 8388608 by decide); omega)
        _ = 2 ^ (24 + (r / 8388608 - 1)) := by rw [← Nat.pow_add]
        _ ≤ 2 ^ (22 + c) := Nat.pow_le_pow_right (by omega) (by omega)
    · have h3 : r % 8388608 = 0 := by omega
      rw [h3, Nat.add_zero, hB, ← Nat.pow_add, ← hB]
      exact Nat.pow_le_pow_right (by omega) (by omega)
theorem rv_ge {r c : Nat} (hc : 1 ≤ c) (h : c * 8388608 ≤ r) : 2 ^ (22 + c) ≤ rv r := by
  unfold rv
  have hB : (8388608 : Nat) = 2 ^ 23 := by decide
  have hq : c ≤ r / 8388608 := (Nat.le_div_iff_mul_le (by decide)).2 h
  rw [if_neg (by omega)]
  calc 2 ^ (22 + c) ≤ 2 ^ (23 + (r / 8388608 - 1)) := Nat.pow_le_pow_right (by omega) (by omega)
    _ = 8388608 * 2 ^ (r / 8388608 - 1) := by rw [Nat.pow_add, ← hB]
    _ ≤ _ := Nat.mul_le_mul_right _ (by omega)
theorem cut_ge (s : Bool) (n d : Nat) : n / 2 ^ d ≤ Ieee.Toward.even.cut s n d := by
  have h : n / 2 ^ d ≤ n / 1 <<< min d (n.log2 + 2) := by
    rw [Nat.one_shiftLeft]
    exact Nat.div_le_div_left (Nat.pow_le_pow_right (by omega) (Nat.min_le_left _ _)) (Nat.two_pow_pos _)
  show n / 2 ^ d ≤ n / 1 <<< min d (n.log2 + 2) + _
  exact Nat.le_trans h (Nat.le_add_right _ _)
/-- What is nearest to a number below '2 ^ A' is at most this. -/
theorem near_le (s : Bool) {m : Nat} {e A : Int} (hm : m ≠ 0) (hA : e + m.log2 + 1 ≤ A) (h1 : -125 ≤ A) (h2 : A ≤ 126) : ∃ v : Nat, val .f32 (FloatKind.f32.format.nearest s m e) = (if s then -(v : Int) else (v : Int)) ∧ v ≤ 2 ^ (A + 149).toNat := by
  obtain ⟨e1, e2, e3, e4, e5⟩ := f32_nums
  obtain ⟨r, hr, h3, h4⟩ := nearest_rung FloatKind.f32.format s m e A hm hA (by rw [e4, e5]; omega)
  rw [e2, e4, e5] at h4
  have h5 : r ≤ (A + 127).toNat * 8388608 := by
    have e : (A - ((23 : Nat) : Int) - -149 + 1) = A + 127 := by omega
    rw [e] at h4
    omega
  have h7 : r < 2139095040 := by
    have : (A + 127).toNat ≤ 253 := by omega
    omega
  refine ⟨rv r, by rw [hr, val_word s h7], ?_⟩
  have := rv_le (r := r) (c := (A + 127).toNat) (by omega) h5
  rwa [show 22 + (A + 127).toNat = (A + 149).toNat by omega] at this
theorem aux_min {c l k B M : Nat} (h1 : c ≤ l + 1) (h2 : B ≤ k) (h3 : c ≤ 253) (h4 : 253 * B ≤ M) : c * B ≤ min (l * B + k) M := by
  refine Nat.le_min.2 ⟨?_, Nat.le_trans (Nat.mul_le_mul_right _ h3) h4⟩
  calc c * B ≤ (l + 1) * B := Nat.mul_le_mul_right _ h1
    _ = l * B + B := Nat.succ_mul _ _
    _ ≤ _ := Nat.add_le_add_left h2 _
/-- What is nearest to a number of at least '2 ^ C' is at least this. -/
theorem near_ge (s : Bool) {m : Nat} {e A C : Int} (hm : m ≠ 0) (hA : e + m.log2 + 1 ≤ A) (h1 : -125 ≤ C) (h2 : A ≤ 126) (hC : C ≤ e + m.log2) : ∃ v : Nat, val .f32 (FloatKind.f32.format.nearest s m e) = (if s then -(v : Int) else (v : Int)) ∧ v ≤ 2 ^ (A + 149).toNat ∧ 2 ^ (C + 149).toNat ≤ v := by
  obtain ⟨e1, e2, e3, e4, e5⟩ := f32_nums
  obtain ⟨v, hv, hle⟩ := near_le s hm hA (by omega) h2
  refine ⟨v, hv, hle, ?_⟩
  obtain ⟨r, hr, h3, h4⟩ := nearest_rung FloatKind.f32.format s m e A hm hA (by rw [e4, e5]; omega)
  have hr' := hr
  unfold Ieee.Format.nearest at hr
  rw [if_neg hm, e2, e3, e4, e5] at hr
  simp only [] at hr
  generalize hlast : max (e + (m.log2 : Int) - ((23 : Nat) : Int)) (-149) = last at hr
  have hl2 : last = e + m.log2 - 23 := by omega
  generalize hk : Ieee.Toward.even.cut s (m <<< (e - last).toNat) (last - e).toNat = kept at hr
  have hkept : 8388608 ≤ kept := by
    rw [← hk]
    refine Nat.le_trans ?_ (cut_ge _ _ _)
    rw [Nat.shiftLeft_eq]
    have hm2 := Nat.log2_self_le hm
    rw [Nat.le_div_iff_mul_le (Nat.two_pow_pos _)]
    have hB : (8388608 : Nat) = 2 ^ 23 := by decide
    calc 8388608 * 2 ^ (last - e).toNat = 2 ^ (23 + (last - e).toNat) := by rw [Nat.pow_add, ← hB]
      _ ≤ 2 ^ (m.log2 + (e - last).toNat) := Nat.pow_le_pow_right (by omega) (by omega)
      _ = 2 ^ m.log2 * 2 ^ (e - last).toNat := by rw [Nat.pow_add]
      _ ≤ m * 2 ^ (e - last).toNat := Nat.mul_le_mul_right _ hm2
  have hge : (C + 127).toNat * 8388608 ≤ min ((last - -149).toNat * 8388608 + kept) 2139095040 := by
    have h5 : (C + 127).toNat ≤ (last - -149).toNat + 1 := by omega
    have h7 : (C + 127).toNat ≤ 253 := by omega
    exact aux_min h5 hkept h7 (by decide)
  generalize min ((last - -149).toNat * 8388608 + kept) 2139095040 = q at hr hge
  have hq : r = q := by
    unfold Ieee.Format.word at hr
    split at hr <;> omega
  subst hq
  rw [hr', ] at hv
  have h7 : r < 2139095040 := by
    rw [e2, e4, e5] at h4
    have e : (A - ((23 : Nat) : Int) - -149 + 1) = A + 127 := by omega
    rw [e] at h4
    omega
  rw [val_word s h7] at hv
  have hvr : v = rv r := by cases s <;> simp at hv <;> omega
  rw [hvr]
  have := rv_ge (r := r) (c := (C + 127).toNat) (by omega) hge
  rwa [show 22 + (C + 127).toNat = (C + 149).toNat by omega] at this
end Go.Fk

/- Places and periods as numbers. Nothing here names a program. -/
namespace Go.Fk
open Go Go.RowKit
theorem within_val {x a b : Nat} (ha : isNan .f32 a = false) (hb : isNan .f32 b = false) (h : withinB x a b = true) : isNan .f32 x = false ∧ val .f32 a ≤ val .f32 x ∧ val .f32 x ≤ val .f32 b := by
  cases hd : isNan .f32 x
  · have h0 := order_val hd ha
    have h1 := order_val hd hb
    unfold withinB at h
    rw [h0, h1] at h
    generalize val .f32 x = v at *
    generalize val .f32 a = U at *
    generalize val .f32 b = T at *
    refine ⟨rfl, ?_, ?_⟩
    · rcases Int.lt_trichotomy v U with c | c | c
      · rw [Int.compare_eq_lt.2 c] at h; simp at h
      · omega
      · omega
    · rcases Int.lt_trichotomy v T with c | c | c
      · omega
      · omega
      · rw [Int.compare_eq_gt.2 c] at h; simp at h
  · unfold withinB at h
    rw [order_of_nan_l hd] at h
    simp at h
theorem val_3 : val .f32 1077936128 = 3 * 2 ^ 149 ∧ isNan .f32 1077936128 = false := by decide +kernel
theorem val_1024 : val .f32 1149239296 = 2 ^ 159 ∧ isNan .f32 1149239296 = false := by decide +kernel
theorem val_half : val .f32 1056964608 = 2 ^ 148 ∧ isNan .f32 1056964608 = false := by decide +kernel
theorem one_pow : one32 = 2 ^ 149 := rfl
theorem far_159 : (2 : Int) ^ 160 < (far : Int) := by decide +kernel
theorem pow2_of {m a b : Nat} (h : m * 2 ^ a = 2 ^ (m.log2 + a)) : m = 2 ^ m.log2 := by
  rw [Nat.pow_add] at h
  exact Nat.eq_of_mul_eq_mul_right (Nat.two_pow_pos a) h
/-- What is nearest to a number from 2 to 1024. -/
theorem near_in {m : Nat} {e : Int} (he : -149 ≤ e) (h1 : 2 ^ 150 ≤ m * 2 ^ (e + 149).toNat) (h2 : m * 2 ^ (e + 149).toNat ≤ 2 ^ 159) :
    2 ^ 150 ≤ val .f32 (FloatKind.f32.format.nearest false m e) ∧ val .f32 (FloatKind.f32.format.nearest false m e) ≤ 2 ^ 159 := by
  have hm : m ≠ 0 := by
    rintro rfl
    rw [Nat.zero_mul] at h1
    exact absurd h1 (by decide)
  have hlo : 150 ≤ m.log2 + (e + 149).toNat := by
    have a := @Nat.lt_log2_self m
    have b : 2 ^ 150 < 2 ^ (m.log2 + 1 + (e + 149).toNat) := by
      rw [Nat.pow_add]
      exact Nat.lt_of_le_of_lt h1 (Nat.mul_lt_mul_of_pos_right a (Nat.two_pow_pos _))
    have := (Nat.pow_lt_pow_iff_right (a := 2) (by omega)).1 b
    omega
  have hhi : m.log2 + (e + 149).toNat ≤ 159 := by
    have a := Nat.log2_self_le hm
    have b : 2 ^ (m.log2 + (e + 149).toNat) ≤ 2 ^ 159 := by
      rw [Nat.pow_add]
      exact Nat.le_trans (Nat.mul_le_mul_right _ a) h2
    exact (Nat.pow_le_pow_iff_right (a := 2) (by omega)).1 b
  rcases Nat.lt_or_ge (m.log2 + (e + 149).toNat) 159 with h3 | h3
  · obtain ⟨v, hv, h4, h5⟩ := near_ge (e := e) (A := 10) (C := 1) false hm (by omega) (by omega) (by omega) (by omega)
    rw [hv]
    simp only [Bool.false_eq_true, if_false]
    have h4' : v ≤ 2 ^ 159 := h4
    have h5' : 2 ^ 150 ≤ v := h5
    exact ⟨by exact_mod_cast h5', by exact_mod_cast h4'⟩
  · have h4 : m.log2 + (e + 149).toNat = 159 := by omega
    have h5 : m * 2 ^ (e + 149).toNat = 2 ^ (m.log2 + (e + 149).toNat) := by
      refine Nat.le_antisymm (by rw [h4]; exact h2) ?_
      rw [Nat.pow_add]
      exact Nat.mul_le_mul_right _ (Nat.log2_self_le hm)
    have h6 := pow2_of (b := 0) h5
    have h7 : FloatKind.f32.format.nearest false m e = FloatKind.f32.format.nearest false 1 10 := by
      have := nearest_scale FloatKind.f32.format false 1 m.log2 10
      rw [Nat.one_mul, ← h6] at this
      rw [← this]
      congr 1
      omega
    rw [h7]
    decide +kernel
/-- The delay of a string's ring and filters, and its whole part. -/
theorem period_int {p x d : Nat} (hp : withinB p 1077936128 1149239296 = true) (hx : withinB x 0 1056964608 = true) (hd : can .f32 d = fop .sub .f32 p x) :
    d = fop .sub .f32 p x ∧ isNan .f32 d = false ∧ floatToIntVal .f32 d .i64 = some (wholeW d : Int) ∧ 2 ≤ wholeW d ∧ wholeW d ≤ 1024 := by
  obtain ⟨n1, a1, a2⟩ := within_val val_3.2 val_1024.2 hp
  obtain ⟨n2, b1, b2⟩ := within_val val_zero.2 val_half.2 hx
  rw [val_3.1, val_1024.1] at *
  rw [val_zero.1, val_half.1] at *
  have hf := far_159
  have hpw : (2 : Int) ^ 159 < 2 ^ 160 := by decide
  have hpw2 : (2 : Int) ^ 148 < 2 ^ 160 := by decide
  have hz : (0 : Int) < 2 ^ 149 := by decide
  obtain ⟨s, m, i, hrx⟩ := finite_num n1 (by omega) (by omega)
  obtain ⟨t, n, j, hry⟩ := finite_num n2 (by omega) (by omega)
  have pi : -149 ≤ i := read_place hrx
  have pj : -149 ≤ j := read_place hry
  have vx : val .f32 p = Ieee.signed s m (i + 149).toNat := by simp only [val, hrx]; rfl
  have vy : val .f32 x = Ieee.signed t n (j + 149).toNat := by simp only [val, hry]; rfl
  have hneg : Ieee.signed (!t) n (j - min i j).toNat = -Ieee.signed t n (j - min i j).toNat := by
    unfold Ieee.signed; cases t <;> simp
  have e1 : val .f32 p - val .f32 x = (Ieee.signed s m (i - min i j).toNat + Ieee.signed (!t) n (j - min i j).toNat) * 2 ^ (min i j + 149).toNat := by
    rw [hneg, vx, vy, signed_eq, signed_eq, signed_eq, signed_eq, Int.add_mul, Int.neg_mul, Int.mul_assoc, Int.mul_assoc, ← Int.pow_add, ← Int.pow_add]
    rw [show (i - min i j).toNat + (min i j + 149).toNat = (i + 149).toNat by omega, show (j - min i j).toNat + (min i j + 149).toNat = (j + 149).toNat by omega]
    omega
  generalize hT : Ieee.signed s m (i - min i j).toNat + Ieee.signed (!t) n (j - min i j).toNat = T at e1
  have hD1 : (2 : Int) ^ 150 ≤ val .f32 p - val .f32 x := by
    have e2 : (2 : Int) ^ 150 = 2 * 2 ^ 149 := by decide
    have e3 : (2 : Int) ^ 149 = 2 * 2 ^ 148 := by decide
    omega
  have hD2 : val .f32 p - val .f32 x ≤ 2 ^ 159 := by omega
  rw [e1] at hD1 hD2
  have hpos : (0 : Int) < 2 ^ (min i j + 149).toNat := Int.pow_pos (by omega)
  have hTp : 0 < T := by
    rcases Int.lt_trichotomy T 0 with c | c | c
    · have : T * 2 ^ (min i j + 149).toNat < 0 := Int.mul_neg_of_neg_of_pos c hpos
      have h0 : (0 : Int) < 2 ^ 150 := by decide
      omega
    · subst c
      rw [Int.zero_mul] at hD1
      exact absurd hD1 (by decide)
    · exact c
  obtain ⟨M, rfl⟩ : ∃ M : Nat, T = M := ⟨T.toNat, by omega⟩
  have hb : floatBits .sub .f32 p x = some (FloatKind.f32.format.nearest false M (min i j)) := by
    have h0 : floatBits .sub .f32 p x = some (FloatKind.f32.format.nearest (if Ieee.signed s m (i - min i j).toNat + Ieee.signed (!t) n (j - min i j).toNat = 0 then s && !t else decide (Ieee.signed s m (i - min i j).toNat + Ieee.signed (!t) n (j - min i j).toNat < 0)) (Ieee.signed s m (i - min i j).toNat + Ieee.signed (!t) n (j - min i j).toNat).natAbs (min i j)) := by
      simp only [floatBits, Ieee.Format.sub, hrx, hry, Ieee.Datum.opposite, Ieee.Datum.sum, Option.map_some]; rfl
    rw [h0, hT, if_neg (by omega), decide_eq_false (by omega), Int.natAbs_natCast]
  have hfp : fop .sub .f32 p x = FloatKind.f32.format.nearest false M (min i j) := by
    unfold fop; rw [hb]; exact can_of_not (isNan_nearest _ _ _ _)
  have hn : isNan .f32 (fop .sub .f32 p x) = false := by rw [hfp]; exact isNan_nearest _ _ _ _
  have hdn : isNan .f32 d = false := by
    have := isNan_of_can (hd.trans (can_fop _ _ _ _).symm : can .f32 d = can .f32 (fop .sub .f32 p x))
    rw [this, hn]
  have hde : d = fop .sub .f32 p x := by rw [← can_of_not hdn, hd]
  obtain ⟨k1, k2⟩ := near_in (m := M) (e := min i j) (by omega) (by exact_mod_cast hD1) (by exact_mod_cast hD2)
  rw [← hfp, ← hde] at k1 k2
  have hU := one32_pos
  have q3 : 2 * one32 ≤ val .f32 d := by
    have e2 : (2 : Int) * 2 ^ 149 = 2 ^ 150 := by decide
    rw [one_pow, e2]; exact k1
  have q4 : val .f32 d ≤ 1024 * one32 := by
    have e2 : (1024 : Int) * 2 ^ 149 = 2 ^ 159 := by decide
    rw [one_pow, e2]; exact k2
  have q1 := Int.tdiv_le_tdiv hU q3
  have q2 := Int.tdiv_le_tdiv hU q4
  rw [Int.mul_tdiv_cancel _ (by omega)] at q1 q2
  refine ⟨hde, hdn, ?_, ?_, ?_⟩
  · rw [floatToInt_val32 hdn (by omega) (by omega)]
    unfold wholeW
    rw [Int.toNat_of_nonneg (by omega)]
  · unfold wholeW; omega
  · unfold wholeW; omega
end Go.Fk

/- 'OnePole', 'OneZero', 'BlockDc', 'AllpassFor'. -/
namespace Go.Fk
open Go Go.RowKit
/-- A filter is given, each of its numbers up to the bits of NaN. -/
def OutL (k : Int) (A B C X Y : Nat) (B0 : Nat) (w0 : World) (e : Ending) (w' : World) : Prop := ∃ a b c x y, e = .returned (.agg #[.int .i64 k, .float .f32 a, .float .f32 b, .float .f32 c, .float .f32 x, .float .f32 y]) ∧ (can .f32 a = A ∧ can .f32 b = B ∧ can .f32 c = C ∧ can .f32 x = X ∧ can .f32 y = Y) ∧ Below B0 w0 w'
def quoA (q : Nat) : Nat := fop .quo .f32 (fop .sub .f32 1065353216 q) (fop .add .f32 1065353216 q)
theorem Row.store6 {W : World} {g : Nat} {t : TypeId} {o0 o1 o2 o3 o4 o5 v0 v1 v2 v3 v4 v5 : Value} (h : Row W g t #[o0, o1, o2, o3, o4, o5]) :
    Row ((((((W.setCell ⟨g, 0, none⟩ v0).setCell ⟨g, 1, none⟩ v1).setCell ⟨g, 2, none⟩ v2).setCell ⟨g, 3, none⟩ v3).setCell ⟨g, 4, none⟩ v4).setCell ⟨g, 5, none⟩ v5) g t #[v0, v1, v2, v3, v4, v5] := by
  have := (((((h.set 0 v0).set 1 v1).set 2 v2).set 3 v3).set 4 v4).set 5 v5
  simpa using this
theorem can_zero : can .f32 0 = 0 := by decide
/-- Is it from 0 to 2? -/
def to2 (q : Nat) : Bool := (FloatKind.f32.format.order q 0 == some .gt || FloatKind.f32.format.order q 0 == some .eq) && (FloatKind.f32.format.order q 1073741824 == some .lt || FloatKind.f32.format.order q 1073741824 == some .eq)
/-- 'AllpassFor': a filter and OK, or none and ErrRange. -/
def OutA (q : Nat) (B0 : Nat) (w0 : World) (e : Ending) (w' : World) : Prop :=
  (to2 q = true → ∃ a, e = .returned (.tuple #[(.agg #[.int .i64 3, .float .f32 a, .float .f32 0, .float .f32 0, .float .f32 0, .float .f32 0]), .int .i64 0]) ∧ can .f32 a = quoA q) ∧ (to2 q = false → e = .returned (.tuple #[(.agg #[.int .i64 0, .float .f32 0, .float .f32 0, .float .f32 0, .float .f32 0, .float .f32 0]), .int .i64 2])) ∧ Below B0 w0 w'
end Go.Fk
namespace Go.Proofs.YtjihkfemejhllaaDoor
open Go.RowKit Go.Fk
end Go.Proofs.YtjihkfemejhllaaDoor

/- The numbers of a new string's filters are numbers. Nothing here names a program. -/
namespace Go.Fk
open Go Go.RowKit
theorem val_2 : val .f32 1073741824 = 2 ^ 150 ∧ isNan .f32 1073741824 = false := by decide +kernel
theorem read_1 : FloatKind.f32.format.read 1065353216 = .number false 8388608 (-23) := by decide
theorem num_of {x : Nat} (hn : isNan .f32 x = false) (h0 : 0 ≤ val .f32 x) (h1 : val .f32 x ≤ 2 ^ 150) : ∃ s m e, FloatKind.f32.format.read x = .number s m e ∧ -149 ≤ e ∧ val .f32 x = Ieee.signed s m (e + 149).toNat ∧ lt .f32 x 2 := by
  have hf := far_159
  have hp : (2 : Int) ^ 150 < 2 ^ 160 := by decide
  obtain ⟨s, m, e, hr⟩ := finite_num hn (by omega) (by omega)
  have hv : val .f32 x = Ieee.signed s m (e + 149).toNat := by simp only [val, hr]; rfl
  have pe : -149 ≤ e := read_place hr
  refine ⟨s, m, e, hr, pe, hv, s, m, e, hr, fun m0 => ?_⟩
  rw [hv, signed_eq] at h0 h1
  have hs : s = false := by
    cases s
    · rfl
    · simp only [if_true, Int.neg_mul] at h0
      have : 0 < (m : Int) * 2 ^ (e + 149).toNat := Int.mul_pos (by omega) (Int.pow_pos (by omega))
      omega
  subst hs
  simp only [Bool.false_eq_true, if_false] at h1
  have h2 : m * 2 ^ (e + 149).toNat ≤ 2 ^ 150 := by exact_mod_cast h1
  have b : 2 ^ (m.log2 + (e + 149).toNat) ≤ 2 ^ 150 := by
    rw [Nat.pow_add]
    exact Nat.le_trans (Nat.mul_le_mul_right _ (Nat.log2_self_le m0)) h2
  have := (Nat.pow_le_pow_iff_right (a := 2) (by omega)).1 b
  omega
theorem lt_one : lt .f32 1065353216 1 := ⟨false, 8388608, -23, read_1, fun _ => by decide⟩
theorem fop_of {op : BinOp} {x y r : Nat} {A : Int} (h : floatBits op .f32 x y = some r) (hl : lt .f32 r A) : fop op .f32 x y = r := by
  unfold fop; rw [h]; exact can_of_not hl.notNan
theorem ge_of {x : Nat} {v : Nat} {s : Bool} {m : Nat} {e : Int} (hr : FloatKind.f32.format.read x = .number s m e) (hv : val .f32 x = (v : Int)) (h : 2 ^ 149 ≤ v) : ge .f32 x 0 := by
  have pe : -149 ≤ e := read_place hr
  have hw : val .f32 x = Ieee.signed s m (e + 149).toNat := by simp only [val, hr]; rfl
  rw [hv, signed_eq] at hw
  have hs : s = false := by
    cases s
    · rfl
    · simp only [if_true, Int.neg_mul] at hw
      have h1 : 0 ≤ (m : Int) * 2 ^ (e + 149).toNat := Int.mul_nonneg (by omega) (Int.le_of_lt (Int.pow_pos (by omega)))
      have h2 : 0 < (v : Int) := by have := Nat.lt_of_lt_of_le (Nat.two_pow_pos 149) h; omega
      omega
  subst hs
  simp only [Bool.false_eq_true, if_false] at hw
  have hw' : v = m * 2 ^ (e + 149).toNat := by exact_mod_cast hw
  have m0 : m ≠ 0 := by
    rintro rfl
    rw [Nat.zero_mul] at hw'
    have := Nat.lt_of_lt_of_le (Nat.two_pow_pos 149) h
    omega
  refine ⟨false, m, e, hr, m0, ?_⟩
  have a := @Nat.lt_log2_self m
  have b : 2 ^ 149 < 2 ^ (m.log2 + 1 + (e + 149).toNat) := by
    rw [Nat.pow_add]
    refine Nat.lt_of_le_of_lt (hw' ▸ h) (Nat.mul_lt_mul_of_pos_right a (Nat.two_pow_pos _))
  have := (Nat.pow_lt_pow_iff_right (a := 2) (by omega)).1 b
  omega
theorem one_plus {f : Nat} (hn : isNan .f32 f = false) (h0 : 0 ≤ val .f32 f) (h1 : val .f32 f ≤ 2 ^ 150) : ge .f32 (fop .add .f32 1065353216 f) 0 := by
  obtain ⟨t, n, j, hr, pj, hv, hl⟩ := num_of hn h0 h1
  obtain ⟨r, hb, hlr⟩ := lt_add lt_one hl (fine32 (by decide) (by decide))
  have hfp := fop_of hb hlr
  obtain ⟨s', m', e', hr', _⟩ := hlr
  rw [hfp]
  generalize hT : Ieee.signed false 8388608 (-23 - min (-23) j).toNat + Ieee.signed t n (j - min (-23) j).toNat = T
  have e1 : 2 ^ 149 + val .f32 f = T * 2 ^ (min (-23) j + 149).toNat := by
    rw [← hT, hv, signed_eq, signed_eq, signed_eq, Int.add_mul, Int.mul_assoc, Int.mul_assoc, ← Int.pow_add, ← Int.pow_add]
    rw [show (-23 - min (-23) j).toNat + (min (-23) j + 149).toNat = 126 by omega, show (j - min (-23) j).toNat + (min (-23) j + 149).toNat = (j + 149).toNat by omega]
    simp only [Bool.false_eq_true, if_false]
    have : (2 : Int) ^ 149 = (8388608 : Nat) * 2 ^ 126 := by decide
    omega
  have hb2 : floatBits .add .f32 1065353216 f = some (FloatKind.f32.format.nearest (if T = 0 then false && t else decide (T < 0)) T.natAbs (min (-23) j)) := by
    rw [← hT]
    simp only [floatBits, Ieee.Format.add, read_1, hr, Ieee.Datum.sum, Option.map_some]; rfl
  have hpos : (0 : Int) < 2 ^ (min (-23) j + 149).toNat := Int.pow_pos (by omega)
  have hge : (2 : Int) ^ 149 ≤ T * 2 ^ (min (-23) j + 149).toNat := by omega
  have hle : T * 2 ^ (min (-23) j + 149).toNat ≤ (2 : Int) ^ 151 := by
    have : (2 : Int) ^ 151 = 2 ^ 150 + 2 ^ 149 + 2 ^ 149 := by decide
    have : (0 : Int) < 2 ^ 149 := by decide
    omega
  have hTp : 0 < T := by
    rcases Int.lt_trichotomy T 0 with c | c | c
    · have : T * 2 ^ (min (-23) j + 149).toNat < 0 := Int.mul_neg_of_neg_of_pos c hpos
      have h0 : (0 : Int) < 2 ^ 149 := by decide
      omega
    · subst c
      rw [Int.zero_mul] at hge
      exact absurd hge (by decide)
    · exact c
  obtain ⟨M, rfl⟩ : ∃ M : Nat, T = M := ⟨T.toNat, by omega⟩
  rw [if_neg (by omega), decide_eq_false (by omega), Int.natAbs_natCast, hb] at hb2
  have hrr : r = FloatKind.f32.format.nearest false M (min (-23) j) := by simpa using hb2
  have hm : M ≠ 0 := by omega
  have hgeN : 2 ^ 149 ≤ M * 2 ^ (min (-23) j + 149).toNat := by exact_mod_cast hge
  have hleN : M * 2 ^ (min (-23) j + 149).toNat ≤ 2 ^ 151 := by exact_mod_cast hle
  have hlo : 149 ≤ M.log2 + (min (-23) j + 149).toNat := by
    have a := @Nat.lt_log2_self M
    have b : 2 ^ 149 < 2 ^ (M.log2 + 1 + (min (-23) j + 149).toNat) := by
      rw [Nat.pow_add]
      exact Nat.lt_of_le_of_lt hgeN (Nat.mul_lt_mul_of_pos_right a (Nat.two_pow_pos _))
    have := (Nat.pow_lt_pow_iff_right (a := 2) (by omega)).1 b
    omega
  have hhi : M.log2 + (min (-23) j + 149).toNat ≤ 151 := by
    have b : 2 ^ (M.log2 + (min (-23) j + 149).toNat) ≤ 2 ^ 151 := by
      rw [Nat.pow_add]
      exact Nat.le_trans (Nat.mul_le_mul_right _ (Nat.log2_self_le hm)) hleN
    exact (Nat.pow_le_pow_iff_right (a := 2) (by omega)).1 b
  obtain ⟨v, hv2, _, h5⟩ := near_ge (e := min (-23) j) (A := 3) (C := 0) false hm (by omega) (by omega) (by omega) (by omega)
  rw [← hrr] at hv2
  simp only [Bool.false_eq_true, if_false] at hv2
  have h5' : 2 ^ 149 ≤ v := h5
  exact ge_of hr' hv2 h5'
/-- The number of an allpass filter is a number. -/
theorem quoA_num {f : Nat} (h : to2 f = true) : isNan .f32 (quoA f) = false := by
  obtain ⟨hn, h0, h1⟩ := within_val val_zero.2 val_2.2 (show withinB f 0 1073741824 = true from h)
  rw [val_zero.1] at h0
  rw [val_2.1] at h1
  obtain ⟨t, n, j, hr, pj, hv, hl⟩ := num_of hn h0 h1
  obtain ⟨r, hb, hlr⟩ := lt_sub lt_one hl (fine32 (by decide) (by decide))
  have hfp := fop_of hb hlr
  have hg := one_plus hn h0 h1
  obtain ⟨r2, hb2, hl2⟩ := lt_quo hlr hg (fine32 (by decide) (by decide))
  unfold quoA
  rw [hfp, fop_of hb2 hl2]
  exact hl2.notNan
/-- One less a mix is a number. -/
theorem mix_num {x : Nat} (h : withinB x 0 1056964608 = true) : isNan .f32 x = false ∧ isNan .f32 (fop .sub .f32 1065353216 x) = false := by
  obtain ⟨hn, h0, h1⟩ := within_val val_zero.2 val_half.2 h
  rw [val_zero.1] at h0
  rw [val_half.1] at h1
  have hp : (2 : Int) ^ 148 < 2 ^ 150 := by decide
  obtain ⟨t, n, j, hr, pj, hv, hl⟩ := num_of hn h0 (by omega)
  obtain ⟨r, hb, hlr⟩ := lt_sub lt_one hl (fine32 (by decide) (by decide))
  exact ⟨hn, by rw [fop_of hb hlr]; exact hlr.notNan⟩
end Go.Fk
namespace Go.Fk
open Go Go.RowKit
theorem of_can' {a A : Nat} (h : can .f32 a = A) (hn : isNan .f32 A = false) : a = A := by
  have hc : can .f32 a = can .f32 A := by rw [h, can_of_not hn]
  have : isNan .f32 a = false := by rw [isNan_of_can hc, hn]
  rw [← can_of_not this, h]
theorem lt_val {x A : Nat} (hn : isNan .f32 x = false) (h0 : 0 ≤ val .f32 x) (h1 : val .f32 x ≤ 2 ^ A) (hA : A ≤ 160) : ∃ s m e, FloatKind.f32.format.read x = .number s m e ∧ (m ≠ 0 → s = false ∧ e + m.log2 + 149 ≤ A) := by
  have hf := far_159
  have hp : (2 : Int) ^ A ≤ 2 ^ 160 := by exact_mod_cast Nat.pow_le_pow_right (n := 2) (by omega) hA
  obtain ⟨s, m, e, hr⟩ := finite_num hn (by omega) (by omega)
  have hv : val .f32 x = Ieee.signed s m (e + 149).toNat := by simp only [val, hr]; rfl
  have pe : -149 ≤ e := read_place hr
  refine ⟨s, m, e, hr, fun m0 => ?_⟩
  rw [hv, signed_eq] at h0 h1
  have hs : s = false := by
    cases s
    · rfl
    · simp only [if_true, Int.neg_mul] at h0
      have : 0 < (m : Int) * 2 ^ (e + 149).toNat := Int.mul_pos (by omega) (Int.pow_pos (by omega))
      omega
  subst hs
  simp only [Bool.false_eq_true, if_false] at h1
  have h2 : m * 2 ^ (e + 149).toNat ≤ 2 ^ A := by exact_mod_cast h1
  have b : 2 ^ (m.log2 + (e + 149).toNat) ≤ 2 ^ A := by
    rw [Nat.pow_add]
    exact Nat.le_trans (Nat.mul_le_mul_right _ (Nat.log2_self_le m0)) h2
  have := (Nat.pow_le_pow_iff_right (a := 2) (by omega)).1 b
  exact ⟨rfl, by omega⟩
/-- A place times a whole number. -/
theorem mult_int {pl n d : Nat} (hn : isNan .f32 pl = false) (h0 : 0 ≤ val .f32 pl) (h1 : val .f32 pl ≤ 2 ^ 149) (hk : n ≤ 1024) (hd : can .f32 d = fop .mul .f32 pl (floatOfInt .f32 (n : Int))) :
    d = fop .mul .f32 pl (floatOfInt .f32 (n : Int)) ∧ floatToIntVal .f32 d .i64 = some (wholeW d : Int) ∧ wholeW d ≤ 4096 := by
  have hU := one32_pos
  obtain ⟨s, m, i, hr, hm⟩ := lt_val hn h0 h1 (by omega)
  have hv : val .f32 (floatOfInt .f32 (n : Int)) = (n : Int) * one32 := val_int (by omega)
  have hv2 : val .f32 (floatOfInt .f32 (n : Int)) ≤ 2 ^ 159 := by
    rw [hv]
    have e2 : (1024 : Int) * one32 = 2 ^ 159 := by decide
    rw [← e2]
    exact Int.mul_le_mul_of_nonneg_right (by omega) (by omega)
  obtain ⟨t, q, j, hr2, hq⟩ := lt_val (isNan_int (n : Int)) (by rw [hv]; exact Int.mul_nonneg (by omega) (by omega)) hv2 (by omega)
  have hb : floatBits .mul .f32 pl (floatOfInt .f32 (n : Int)) = some (FloatKind.f32.format.nearest (s ^^ t) (m * q) (i + j)) := by
    simp only [floatBits, Ieee.Format.mul, hr, hr2, Ieee.Datum.product, Option.map_some]; rfl
  have hfp : fop .mul .f32 pl (floatOfInt .f32 (n : Int)) = FloatKind.f32.format.nearest (s ^^ t) (m * q) (i + j) := by
    unfold fop; rw [hb]; exact can_of_not (isNan_nearest _ _ _ _)
  have hnn : isNan .f32 (fop .mul .f32 pl (floatOfInt .f32 (n : Int))) = false := by rw [hfp]; exact isNan_nearest _ _ _ _
  have hde := of_can' hd hnn
  have key : 0 ≤ val .f32 d ∧ val .f32 d ≤ 4096 * one32 := by
    rw [hde, hfp]
    by_cases h : m * q = 0
    · rw [h, show FloatKind.f32.format.nearest (s ^^ t) 0 (i + j) = FloatKind.f32.format.word (s ^^ t) 0 by simp [Ieee.Format.nearest], val_word _ (by decide), show rv 0 = 0 by decide]
      have : 0 ≤ 4096 * one32 := Int.mul_nonneg (by omega) (by omega)
      cases (s ^^ t)
      · exact ⟨by simp, by simpa using this⟩
      · exact ⟨by simp, by simpa using this⟩
    · have m0 : m ≠ 0 := fun e => h (by rw [e, Nat.zero_mul])
      have q0 : q ≠ 0 := fun e => h (by rw [e, Nat.mul_zero])
      obtain ⟨rfl, a1⟩ := hm m0
      obtain ⟨rfl, a2⟩ := hq q0
      have hl := log2_mul_le m0 q0
      obtain ⟨v, hv3, hle⟩ := near_le (e := i + j) (A := 12) (false ^^ false) h (by omega) (by omega) (by omega)
      rw [hv3]
      have e2 : (4096 : Int) * one32 = 2 ^ 161 := by decide
      have hle' : v ≤ 2 ^ 161 := hle
      rw [e2]
      exact ⟨by simp, by simp only [Bool.xor_false, Bool.false_eq_true, if_false]; exact_mod_cast hle'⟩
  have q2 := Int.tdiv_le_tdiv hU key.2
  rw [Int.mul_tdiv_cancel _ (by omega)] at q2
  have q1 : 0 ≤ (val .f32 d).tdiv one32 := Int.tdiv_nonneg key.1 (by omega)
  have hdn : isNan .f32 d = false := by rw [hde]; exact hnn
  refine ⟨hde, ?_, by unfold wholeW; omega⟩
  rw [floatToInt_val32 hdn (by omega) (by omega)]
  unfold wholeW
  rw [Int.toNat_of_nonneg q1]
end Go.Fk

/- Tunings: data, 'ValidTuning', 'SameTuning' of both. -/
namespace Go.Fk
open Go Go.RowKit
def gtB (a b : Nat) : Bool := FloatKind.f32.format.order a b == some .gt
def ltB (a b : Nat) : Bool := FloatKind.f32.format.order a b == some .lt
theorem gtB_congr {a a' b b' : Nat} (h : can .f32 a = can .f32 a') (k : can .f32 b = can .f32 b') : gtB a b = gtB a' b' := by unfold gtB; rw [order_congr h k]
theorem ltB_congr {a a' b b' : Nat} (h : can .f32 a = can .f32 a') (k : can .f32 b = can .f32 b') : ltB a b = ltB a' b' := by unfold ltB; rw [order_congr h k]
theorem gtB_val {a b : Nat} : gtB a b = true ↔ isNan .f32 a = false ∧ isNan .f32 b = false ∧ val .f32 b < val .f32 a := by
  unfold gtB
  cases ha : isNan .f32 a
  · cases hb : isNan .f32 b
    · rw [order_val ha hb]
      rcases Int.lt_trichotomy (val .f32 a) (val .f32 b) with c | c | c
      · rw [Int.compare_eq_lt.2 c]; simp; omega
      · rw [Int.compare_eq_eq.2 c]; simp; omega
      · rw [Int.compare_eq_gt.2 c]; simp; omega
    · rw [order_of_nan_r hb]; simp
  · rw [order_of_nan_l ha]; simp
theorem ltB_val {a b : Nat} : ltB a b = true ↔ isNan .f32 a = false ∧ isNan .f32 b = false ∧ val .f32 a < val .f32 b := by
  unfold ltB
  cases ha : isNan .f32 a
  · cases hb : isNan .f32 b
    · rw [order_val ha hb]
      rcases Int.lt_trichotomy (val .f32 a) (val .f32 b) with c | c | c
      · rw [Int.compare_eq_lt.2 c]; simp; omega
      · rw [Int.compare_eq_eq.2 c]; simp; omega
      · rw [Int.compare_eq_gt.2 c]; simp; omega
    · rw [order_of_nan_r hb]; simp
  · rw [order_of_nan_l ha]; simp
/-- Degrees that ascend, the last one below the octave. -/
def degB (x : Nat → Nat) (n o : Nat) : Bool := decide (1 ≤ n) && (decide (n ≤ 31) && (sameB (x 0) 0 && (allB (fun i => gtB (x (i + 1)) (x i)) (n - 1) && ltB (x (n - 1)) o)))
/-- The same, as the model asks for it: each degree above the one before it, and below the octave. -/
def stepD (x : Nat → Nat) (o i : Nat) : Bool := (i == 0 || gtB (x i) (x (i - 1))) && ltB (x i) o
theorem deg_eq {x : Nat → Nat} {n o : Nat} (h : 1 ≤ n) : allB (stepD x o) n = (allB (fun i => gtB (x (i + 1)) (x i)) (n - 1) && ltB (x (n - 1)) o) := by
  cases hm : allB (stepD x o) n
  · symm
    rw [Bool.eq_false_iff]
    intro hh
    rw [Bool.and_eq_true] at hh
    obtain ⟨h1, h2⟩ := hh
    obtain ⟨i, hi, hf⟩ := allB_ex hm
    have key : ∀ k, k ≤ n - 1 → ltB (x (n - 1 - k)) o = true := by
      intro k
      induction k with
      | zero => intro _; exact h2
      | succ k ih =>
        intro hk
        have a := allB_all h1 (n - 1 - (k + 1)) (by omega)
        have b := ih (by omega)
        replace a : gtB (x (n - 1 - (k + 1) + 1)) (x (n - 1 - (k + 1))) = true := a
        rw [show n - 1 - (k + 1) + 1 = n - 1 - k by omega] at a
        obtain ⟨a1, a2, a3⟩ := gtB_val.1 a
        obtain ⟨b1, b2, b3⟩ := ltB_val.1 b
        exact ltB_val.2 ⟨a2, b2, by omega⟩
    have hl := key (n - 1 - i) (by omega)
    rw [show n - 1 - (n - 1 - i) = i by omega] at hl
    unfold stepD at hf
    rw [hl, Bool.and_true] at hf
    by_cases h0 : i = 0
    · subst h0; simp at hf
    · have a := allB_all h1 (i - 1) (by omega)
      replace a : gtB (x (i - 1 + 1)) (x (i - 1)) = true := a
      rw [show i - 1 + 1 = i by omega] at a
      rw [a] at hf
      simp at hf
  · symm
    rw [Bool.and_eq_true]
    refine ⟨allB_yes (fun i hi => ?_), ?_⟩
    · have a := allB_all hm (i + 1) (by omega)
      unfold stepD at a
      simp at a
      exact a.1
    · have a := allB_all hm (n - 1) (by omega)
      unfold stepD at a
      rw [Bool.and_eq_true] at a
      exact a.2
def okT (b o : Nat) (x : Nat → Nat) (n : Nat) : Bool := withinB b 1065353216 1184645120 && (withinB o 1065353216 1167458304 && degB x n o)
/-- A slice of floats, opened. -/
theorem slT_raw {x : Nat → Nat} {n B : Nat} {s : Value} {w : World} (h : (slT x n).RdN w B s) (hn : 1 ≤ n) : ∃ (b p cap : Nat) (y : Nat → Nat), s = .slice (some ⟨b, p, none⟩) n cap ∧ n ≤ cap ∧ cap ≤ maxLen ∧ ∀ i, i < n → w.cell? ⟨b, p + i, none⟩ = some (.float .f32 (y i)) ∧ fits .f32 (y i) ∧ can .f32 (y i) = x i := by
  rcases h with ⟨_, rfl⟩ | ⟨b, p, cap, rfl, h2, h3, h4⟩
  · omega
  have : ∀ i, ∃ y, i < n → w.cell? ⟨b, p + i, none⟩ = some (.float .f32 y) ∧ fits .f32 y ∧ can .f32 y = x i := fun i => by
    by_cases hi : i < n
    · obtain ⟨_, u, e, y, rfl, f, c⟩ := h4 i (by omega)
      exact ⟨y, fun _ => ⟨e, f, c⟩⟩
    · exact ⟨0, fun h => absurd h hi⟩
  obtain ⟨y, hy⟩ := Classical.skolem.1 this
  exact ⟨b, p, cap, y, rfl, h2, h3, hy⟩
end Go.Fk
namespace Go.Proofs.YtjihkfemejhllaaDoor
open Go.RowKit Go.Fk
def sameT (b o : Nat) (x : Nat → Nat) (n : Nat) (b' o' : Nat) (x' : Nat → Nat) (n' : Nat) : Bool := sameB b b' && (sameB o o' && sameS x x' n n')
theorem tun_data {cs : List CD} (h : HasShL shTuning cs) : ∃ (b o : Nat) (xs : Nat → CD) (n : Nat), cs = [.flt .f32 b, .flt .f32 o, .sl 1 n xs] ∧ (∀ i, i < n → (xs i).flk = some .f32) := by
  obtain ⟨c0, cs, rfl, q0, h⟩ := h.inv
  obtain ⟨c1, cs, rfl, q1, h⟩ := h.inv
  obtain ⟨c2, cs, rfl, q2, h⟩ := h.inv
  obtain rfl := h.inv0
  obtain ⟨b, rfl⟩ := q0
  obtain ⟨o, rfl⟩ := q1
  obtain ⟨n, xs, rfl, r0⟩ := q2
  exact ⟨b, o, xs, n, rfl, fun i hi => ShOk.flts (fun i hi j hj => (r0 i hi j hj).ok) rfl i hi⟩
theorem tun_open {b o : Nat} {xs : Nat → CD} {n : Nat} {w : World} {B : Nat} {u : List Value} (h : RdLN w B (([.flt .f32 b, .flt .f32 o, .sl 1 n xs] : List CD).map CD.cp) u) (hx : ∀ i, i < n → (xs i).flk = some .f32) : ∃ s : Value, u = [.float .f32 b, .float .f32 o, s] ∧ (slT (fun i => (xs i).fx) n).RdN w B s ∧ fits .f32 b ∧ fits .f32 o := by
  simp only [List.map_cons, List.map_nil] at h
  obtain ⟨v0, u0, rfl, q0, hh0⟩ := h.inv
  obtain ⟨v1, u1, rfl, q1, hh1⟩ := hh0.inv
  obtain ⟨v2, u2, rfl, q2, hh2⟩ := hh1.inv
  obtain rfl := hh2.inv0
  obtain ⟨rfl, f1⟩ := q0
  obtain ⟨rfl, f2⟩ := q1
  exact ⟨v2, rfl, q2.congr (slT_cp hx), f1, f2⟩
end Go.Proofs.YtjihkfemejhllaaDoor

/- The text of a ring. -/
namespace Go.Fk
open Go Go.RowKit
def nlB : ByteArray := ⟨#[10]⟩
/-- The line of a ring of n samples, at k. -/
def rgT (x : Nat → Nat) (n k : Nat) : ByteArray := jnB spB [decT n, decT k, txtS x n]
theorem rgT_size {x : Nat → Nat} {n k : Nat} (hn : n ≤ 1024) (hk : k ≤ 1024) : (rgT x n k).size ≤ 30006 := by
  have h1 := decT_size n (by omega); have h2 := decT_size k (by omega); have h3 := txtS_size x n
  have := jnB_size spB 10000 [decT n, decT k, txtS x n] (fun z hz => by
    simp only [List.mem_cons, List.not_mem_nil, or_false] at hz
    rcases hz with rfl | rfl | rfl <;> omega)
  simp only [List.length_cons, List.length_nil] at this
  rw [show spB.size = 1 from rfl] at this
  exact Nat.le_trans this (by decide)
theorem rgT_eq (x : Nat → Nat) {n : Nat} (k : Nat) (h : 0 < n) : decT n ++ spB ++ decT k ++ samL x n ++ nlB = rgT x n k ++ nlB := by
  unfold rgT
  rw [samL_txt x h, jnB_cons, jnB_cons, jnB_one]
  simp only [ba_assoc]
/-- The number that a call gets, in decimal. -/
def decB (args : Array Value) : ByteArray := match args.toList with | [.int _ z] => decT z.toNat | _ => ⟨#[]⟩
end Go.Fk
namespace Go.Proofs.YtjihkfemejhllaaDoor
open Go.RowKit Go.Fk
theorem infoStr3 : (Tryd.prog.info? 9).map (fun i => (i.zero, i.size, i.bytes)) = some (some (.string ⟨#[]⟩), 1, 16) := by kernel_rfl
theorem fill3S (ti : TypeInfo) (p q r : ByteArray) (h : ti.size = 1) : Instr.fill (fun i => some (i * ti.size, ti.size)) ((Array.range (3 * ti.size)).map ((.string ⟨#[]⟩ : Value).cells[· % (.string ⟨#[]⟩ : Value).cells.size]!)) (#[(0, .string p), (1, .string q), (2, .string r)] : Array (Nat × Value)).toList = some #[.string p, .string q, .string r] := by
  rw [h]
  have hr : Array.range (3 * 1) = #[0, 1, 2] := by decide
  rw [hr]
  simp [Instr.fill, Value.cells]
theorem mkStr3 (p q r : ByteArray) (w : World) : (Instr.buildSlice 87 3 #[(0, .string p), (1, .string q), (2, .string r)]).run Tryd.prog w = .ok (.slice (some ⟨w.heap.size, 0, none⟩) 3 3) (w.alloc (.cells #[.string p, .string q, .string r] 9)) := by
  have h := infoStr3
  cases hi : Tryd.prog.info? 9 with
  | none => rw [hi] at h; simp at h
  | some i =>
    rw [hi] at h; simp at h
    exact run_buildSlice (P := Tryd.prog) w 87 9 3 _ _ i _ Tryd.underlying87 hi h.1 (by rw [h.2.1]; decide) (by rw [h.2.1]; decide) (fill3S _ _ _ _ h.2.1)
set_option maxRecDepth 100000 in
set_option maxHeartbeats 4000000 in
theorem i_ringText (x : Nat → Nat) (n k B : Nat) (s : Value) (w : World) (hs : (slT x n).RdN w B s) (n1 : 1 ≤ n) (n2 : n ≤ 1024) (hk : k ≤ 1024) (hT : Tab10 w) : Calls Tryd.prog 46 #[.agg #[s, .int .i64 (k : Nat)]] w (Out_t (rgT x n k) w) := by
  obtain ⟨bs, ps, cap, y, rfl, hcap, hmax, hy⟩ := slT_raw hs n1
  have EX := hid (show txtS y n = txtS x n from congrArg (jnB spB) (hexs_congr (f := y) (g := x) (fun i hi => by rw [← (hy i hi).2.2, can_can])))
  have HS := hid (fun (w' : World) (hl2 : le w w') => i_samplesText y ⟨bs, ps, none⟩ n cap w' (by omega) (fun i hi => (hy i hi).2.1) (fun i hi => by rw [add_none]; exact (Below.cell hl2 (cell_lt' (hy i hi).1)).trans (hy i hi).1))
  rw [EX.out] at HS
  have HD := hid (fun (z : Nat) (hz : z ≤ 1024) (w' : World) (hl2 : le w w') => i_decimal z (by omega) w' (hT.le hl2))
  have ez := rgT_size (x := x) n2 hk
  clear hs hy hcap hmax hT
  have F := (Frg.nil w).box 34 #[.slice (some ⟨bs, ps, none⟩) n cap, .int .i64 (k : Nat)]
  go_enter Tryd.func46, Tryd.ntmps46
  go_wp2_with fail
  first | (refine wpAt0 F ?_; clear F; intro wN F) | (refine wpAtN F ?_; clear F; intro wN F)
  have FD := F.drewN 1
  refine region_freeD (E := leX) (fun f args _ v => v = .string (if f = 69 then decB args else txtS x n)) (by kernel_rfl) (by kernel_rfl) ?_
  refine wpFreeD_one rfl (.pointer (some ⟨w.heap.size, 0, none⟩)) (fun w1 _ => by kernel_rfl) ?_
  simp only [Act.put, List.setIfInBounds_toArray, List.set_cons_succ, List.set_cons_zero]
  refine wpFreeD_load1 rfl rfl rfl (p := ⟨w.heap.size, 0, none⟩) (v := .slice (some ⟨bs, ps, none⟩) n cap) (fun w1 h1 => by rw [((FD.le h1).row m0).cell?]; rfl) ukindFloat32S ?_
  simp only [Act.put, List.setIfInBounds_toArray, List.set_cons_succ, List.set_cons_zero]
  refine wpFreeD_one rfl (.int .i64 n) (fun w1 _ => by kernel_rfl) ?_
  simp only [Act.put, List.setIfInBounds_toArray, List.set_cons_succ, List.set_cons_zero]
  refine wpFreeD_callB rfl rfl Tryd.func69 (by kernel_rfl) (by kernel_rfl) (args := #[.int .i64 n]) (by first | (simp [Act.eval]; done) | (simp [Act.eval, spB]; done)) (fun v w1 w2 hw hv => hv) (fun w1 hw1 _ => (HD.out n n2 w1 (FD.le hw1).below).mono ?_) ?_
  · rintro e w2 ⟨rfl, hl⟩
    exact ⟨_, rfl, hl, rfl⟩
  rintro v ⟨_, _, _, hv⟩
  replace hv : v = .string (decT n) := hv
  subst hv
  simp only [Act.put, List.setIfInBounds_toArray, List.set_cons_succ, List.set_cons_zero]
  refine wpFreeD_one rfl (.pointer (some ⟨w.heap.size, 1, none⟩)) (fun w1 _ => by kernel_rfl) ?_
  simp only [Act.put, List.setIfInBounds_toArray, List.set_cons_succ, List.set_cons_zero]
  refine wpFreeD_load1 rfl rfl rfl (p := ⟨w.heap.size, 1, none⟩) (v := .int .i64 (k : Nat)) (fun w1 h1 => by rw [((FD.le h1).row m0).cell?]; rfl) ukindInt64 ?_
  simp only [Act.put, List.setIfInBounds_toArray, List.set_cons_succ, List.set_cons_zero]
  refine wpFreeD_callB rfl rfl Tryd.func69 (by kernel_rfl) (by kernel_rfl) (args := #[.int .i64 (k : Nat)]) (by first | (simp [Act.eval]; done) | (simp [Act.eval, spB]; done)) (fun v w1 w2 hw hv => hv) (fun w1 hw1 _ => (HD.out k hk w1 (FD.le hw1).below).mono ?_) ?_
  · rintro e w2 ⟨rfl, hl⟩
    exact ⟨_, rfl, hl, rfl⟩
  rintro v ⟨_, _, _, hv⟩
  replace hv : v = .string (decT k) := hv
  subst hv
  simp only [Act.put, List.setIfInBounds_toArray, List.set_cons_succ, List.set_cons_zero]
  refine wpFreeD_one rfl (.pointer (some ⟨w.heap.size, 0, none⟩)) (fun w1 _ => by kernel_rfl) ?_
  simp only [Act.put, List.setIfInBounds_toArray, List.set_cons_succ, List.set_cons_zero]
  refine wpFreeD_load1 rfl rfl rfl (p := ⟨w.heap.size, 0, none⟩) (v := .slice (some ⟨bs, ps, none⟩) n cap) (fun w1 h1 => by rw [((FD.le h1).row m0).cell?]; rfl) ukindFloat32S ?_
  simp only [Act.put, List.setIfInBounds_toArray, List.set_cons_succ, List.set_cons_zero]
  refine wpFreeD_callB rfl rfl Tryd.func42 (by kernel_rfl) (by kernel_rfl) (args := #[.slice (some ⟨bs, ps, none⟩) n cap]) (by first | (simp [Act.eval]; done) | (simp [Act.eval, spB]; done)) (fun v w1 w2 hw hv => hv) (fun w1 hw1 _ => (HS.out w1 (FD.le hw1).below).mono ?_) ?_
  · rintro e w2 ⟨rfl, hl⟩
    exact ⟨_, rfl, hl, rfl⟩
  rintro v ⟨_, _, _, hv⟩
  replace hv : v = .string (txtS x n) := hv
  subst hv
  simp only [Act.put, List.setIfInBounds_toArray, List.set_cons_succ, List.set_cons_zero]
  refine wpFreeD_newN rfl (fun z => .slice (some ⟨z, 0, none⟩) 3 3) (fun b b' h => by simpa using h) 9 #[.string (decT n), .string (decT k), .string (txtS x n)] (fun w1 => ?_) (fun z => ?_)
  · have hb := mkStr3 (decT n) (decT k) (txtS x n) w1
    simp [execOp, Act.eval, Result.andThen, hb]
  simp only [Act.put, List.setIfInBounds_toArray, List.set_cons_succ, List.set_cons_zero]
  refine wpFreeD_one rfl (.slice (some ⟨z, 0, none⟩) 3 3) (fun w1 _ => by kernel_rfl) ?_
  simp only [Act.put, List.setIfInBounds_toArray, List.set_cons_succ, List.set_cons_zero]
  refine wpFreeD_nil (fun wR hwR hF => ?_)
  obtain ⟨_, hq4⟩ := (hF 10).1.2 rfl
  clear hF
  replace F := FD.le hwR
  clear hwR FD
  have HJ := hid (run_Join z 0 3 [decT n, decT k, txtS x n] spB 3 rfl wR (fun j u hj => by
    rw [Nat.zero_add, hq4.cell?]
    match j, hj with
    | 0, hj => simp at hj; subst hj; rfl
    | 1, hj => simp at hj; subst hj; rfl
    | 2, hj => simp at hj; subst hj; rfl
    | j + 3, hj => simp at hj) hq4.lt (Nat.le_refl _) (by decide) (by unfold rgT at ez; omega))
  clear hq4
  go_wp2_with (first | ((with_reducible refine listN F ?_); clear F; intro wN F) | (go_at_call 41; (refine HJ.out.mono ?_; rintro e w1 ⟨rfl, hl1⟩; replace F := F.le hl1; clear hl1)))
  go_ret
  exact ⟨rfl, F.below⟩
set_option maxRecDepth 100000 in
set_option maxHeartbeats 4000000 in
theorem s_l04Line (x : Nat → Nat) (n k B : Nat) (s : Value) (g f : Nat) (w : World) (hs : (slT x n).RdN w B s) (n1 : 1 ≤ n) (n2 : n ≤ 1024) (hk : k ≤ 1024) (hc0 : w.cell? ⟨g, f, none⟩ = some s) (hc1 : w.cell? ⟨g, f + 1, none⟩ = some (.int .i64 (k : Nat))) : Calls Tryd.prog 54 #[.pointer (some ⟨g, f, none⟩)] w (Out_t (rgT x n k ++ nlB) w) := by
  obtain ⟨bs, ps, cap, y, rfl, hcap, hmax, hy⟩ := slT_raw hs n1
  have EX := hid (show samL y n = samL x n from samL_congr (f := y) (g := x) (fun i hi => by rw [← (hy i hi).2.2, can_can]))
  have HS := hid (fun (w' : World) (hl2 : le w w') => s_l04Samples y ⟨bs, ps, none⟩ n cap w' (by omega) (fun i hi => (hy i hi).2.1) (fun i hi => by rw [add_none]; exact (Below.cell hl2 (cell_lt' (hy i hi).1)).trans (hy i hi).1))
  rw [EX.out] at HS
  have HDc := hid (fun (z : Nat) (hz : z ≤ 1024) => s_Decimal z (by omega))
  have C0 := hid (fun (w' : World) (hl2 : le w w') => (Below.cell hl2 (cell_lt' hc0)).trans hc0)
  have C1 := hid (fun (w' : World) (hl2 : le w w') => (Below.cell hl2 (cell_lt' hc1)).trans hc1)
  have ez := samL_size x n
  have en := decT_size n (by omega)
  have ek := decT_size k (by omega)
  have w2_ : spB.size = 1 := rfl
  have w3_ : nlB.size = 1 := rfl
  have EA := hid (rgT_eq x k n1)
  clear hs hy hcap hmax hc0 hc1
  go_enter Tryd.func54, Tryd.ntmps54
  go_wp2_with fail
  have G := hid (le_drewN w 1)
  refine region_freeD (E := leX) (fun f args _ v => v = .string (if f = 76 then decB args else samL x n)) (by kernel_rfl) (by kernel_rfl) ?_
  refine wpFreeD_one rfl (.pointer (some ⟨g, f, none⟩)) (fun w1 _ => by kernel_rfl) ?_
  simp only [Act.put, List.setIfInBounds_toArray, List.set_cons_succ, List.set_cons_zero]
  refine wpFreeD_one rfl (.pointer (some ⟨g, f, none⟩)) (fun w1 _ => by kernel_rfl) ?_
  simp only [Act.put, List.setIfInBounds_toArray, List.set_cons_succ, List.set_cons_zero]
  refine wpFreeD_one rfl (.pointer (some ⟨g, f, none⟩)) (fun w1 _ => by kernel_rfl) ?_
  simp only [Act.put, List.setIfInBounds_toArray, List.set_cons_succ, List.set_cons_zero]
  refine wpFreeD_load1 rfl rfl rfl (p := ⟨g, f, none⟩) (v := .slice (some ⟨bs, ps, none⟩) n cap) (fun w1 h1 => C0.out w1 (le_trans G.out h1)) ukindFloat32S ?_
  simp only [Act.put, List.setIfInBounds_toArray, List.set_cons_succ, List.set_cons_zero]
  refine wpFreeD_one rfl (.int .i64 n) (fun w1 _ => by kernel_rfl) ?_
  simp only [Act.put, List.setIfInBounds_toArray, List.set_cons_succ, List.set_cons_zero]
  refine wpFreeD_callB rfl rfl Tryd.func76 (by kernel_rfl) (by kernel_rfl) (args := #[.int .i64 n]) (by first | (simp [Act.eval]; done) | (simp [Act.eval, spB]; done)) (fun v w1 w2 hw hv => hv) (fun w1 hw1 _ => (HDc.out n n2 w1).mono ?_) ?_
  · rintro e w2 ⟨rfl, hl⟩
    exact ⟨_, rfl, hl, rfl⟩
  rintro v ⟨_, _, _, hv⟩
  replace hv : v = .string (decT n) := hv
  subst hv
  simp only [Act.put, List.setIfInBounds_toArray, List.set_cons_succ, List.set_cons_zero]
  refine wpFreeD_cat rfl rfl (s := (decT n)) (r := spB) rfl rfl (by first | omega | (simp only [ByteArray.size_append]; omega)) (q := decT n ++ spB) rfl ?_
  simp only [Act.put, List.setIfInBounds_toArray, List.set_cons_succ, List.set_cons_zero]
  refine wpFreeD_one rfl (.pointer (some ⟨g, f, none⟩)) (fun w1 _ => by kernel_rfl) ?_
  simp only [Act.put, List.setIfInBounds_toArray, List.set_cons_succ, List.set_cons_zero]
  refine wpFreeD_one rfl (.pointer (some ⟨g, f, none⟩)) (fun w1 _ => by kernel_rfl) ?_
  simp only [Act.put, List.setIfInBounds_toArray, List.set_cons_succ, List.set_cons_zero]
  refine wpFreeD_one rfl (.pointer (some ⟨g, f + 1, none⟩)) (fun w1 _ => by kernel_rfl) ?_
  simp only [Act.put, List.setIfInBounds_toArray, List.set_cons_succ, List.set_cons_zero]
  refine wpFreeD_load1 rfl rfl rfl (p := ⟨g, f + 1, none⟩) (v := .int .i64 (k : Nat)) (fun w1 h1 => C1.out w1 (le_trans G.out h1)) ukindInt64 ?_
  simp only [Act.put, List.setIfInBounds_toArray, List.set_cons_succ, List.set_cons_zero]
  refine wpFreeD_callB rfl rfl Tryd.func76 (by kernel_rfl) (by kernel_rfl) (args := #[.int .i64 (k : Nat)]) (by first | (simp [Act.eval]; done) | (simp [Act.eval, spB]; done)) (fun v w1 w2 hw hv => hv) (fun w1 hw1 _ => (HDc.out k hk w1).mono ?_) ?_
  · rintro e w2 ⟨rfl, hl⟩
    exact ⟨_, rfl, hl, rfl⟩
  rintro v ⟨_, _, _, hv⟩
  replace hv : v = .string (decT k) := hv
  subst hv
  simp only [Act.put, List.setIfInBounds_toArray, List.set_cons_succ, List.set_cons_zero]
  refine wpFreeD_cat rfl rfl (s := (decT n ++ spB)) (r := (decT k)) rfl rfl (by first | omega | (simp only [ByteArray.size_append]; omega)) (q := decT n ++ spB ++ decT k) rfl ?_
  simp only [Act.put, List.setIfInBounds_toArray, List.set_cons_succ, List.set_cons_zero]
  refine wpFreeD_one rfl (.pointer (some ⟨g, f, none⟩)) (fun w1 _ => by kernel_rfl) ?_
  simp only [Act.put, List.setIfInBounds_toArray, List.set_cons_succ, List.set_cons_zero]
  refine wpFreeD_one rfl (.pointer (some ⟨g, f, none⟩)) (fun w1 _ => by kernel_rfl) ?_
  simp only [Act.put, List.setIfInBounds_toArray, List.set_cons_succ, List.set_cons_zero]
  refine wpFreeD_one rfl (.pointer (some ⟨g, f, none⟩)) (fun w1 _ => by kernel_rfl) ?_
  simp only [Act.put, List.setIfInBounds_toArray, List.set_cons_succ, List.set_cons_zero]
  refine wpFreeD_load1 rfl rfl rfl (p := ⟨g, f, none⟩) (v := .slice (some ⟨bs, ps, none⟩) n cap) (fun w1 h1 => C0.out w1 (le_trans G.out h1)) ukindFloat32S ?_
  simp only [Act.put, List.setIfInBounds_toArray, List.set_cons_succ, List.set_cons_zero]
  refine wpFreeD_callB rfl rfl Tryd.func52 (by kernel_rfl) (by kernel_rfl) (args := #[.slice (some ⟨bs, ps, none⟩) n cap]) (by first | (simp [Act.eval]; done) | (simp [Act.eval, spB]; done)) (fun v w1 w2 hw hv => hv) (fun w1 hw1 _ => (HS.out w1 (le_trans G.out hw1)).mono ?_) ?_
  · rintro e w2 ⟨rfl, hl⟩
    exact ⟨_, rfl, hl, rfl⟩
  rintro v ⟨_, _, _, hv⟩
  replace hv : v = .string (samL x n) := hv
  subst hv
  simp only [Act.put, List.setIfInBounds_toArray, List.set_cons_succ, List.set_cons_zero]
  refine wpFreeD_cat rfl rfl (s := (decT n ++ spB ++ decT k)) (r := (samL x n)) rfl rfl (by first | omega | (simp only [ByteArray.size_append]; omega)) (q := decT n ++ spB ++ decT k ++ samL x n) rfl ?_
  simp only [Act.put, List.setIfInBounds_toArray, List.set_cons_succ, List.set_cons_zero]
  refine wpFreeD_cat rfl rfl (s := (decT n ++ spB ++ decT k ++ samL x n)) (r := nlB) rfl rfl (by first | omega | (simp only [ByteArray.size_append]; omega)) (q := rgT x n k ++ nlB) EA.out ?_
  simp only [Act.put, List.setIfInBounds_toArray, List.set_cons_succ, List.set_cons_zero]
  refine wpFreeD_one rfl (.string (rgT x n k ++ nlB)) (fun w1 _ => by kernel_rfl) ?_
  simp only [Act.put, List.setIfInBounds_toArray, List.set_cons_succ, List.set_cons_zero]
  refine wpFreeD_nil (fun wR hwR _ => ?_)
  have HL := hid (le_trans G.out hwR)
  clear hwR
  go_wp2
  go_ret
  exact ⟨rfl, HL.out⟩
end Go.Proofs.YtjihkfemejhllaaDoor

/- The text of a ring whose samples lie wherever; the texts of a list of samples, none too. -/
namespace Go.Fk
open Go Go.RowKit
def scaW : ByteArray := ⟨#[115, 99, 97, 116, 116, 101, 114]⟩
end Go.Fk
namespace Go.Proofs.YtjihkfemejhllaaDoor
open Go.RowKit Go.Fk
set_option maxRecDepth 100000 in
set_option maxHeartbeats 4000000 in
theorem i_ringTextS (x : Nat → Nat) (n k B : Nat) (s : Value) (w : World) (hs : RdS w B s x n) (n1 : 1 ≤ n) (n2 : n ≤ 1024) (hk : k ≤ 1024) (hT : Tab10 w) : Calls Tryd.prog 46 #[.agg #[s, .int .i64 (k : Nat)]] w (Out_t (rgT x n k) w) := by
  obtain ⟨ad, cap, y, rfl, hcap, hmax, hy⟩ := hs.raw (by omega)
  have EX := hid (show txtS y n = txtS x n from congrArg (jnB spB) (hexs_congr (f := y) (g := x) (fun i hi => by rw [← (hy i hi).2.2, can_can])))
  have HS := hid (fun (w' : World) (hl2 : le w w') => i_samplesText y ad n cap w' (by omega) (fun i hi => (hy i hi).2.1) (fun i hi => (Below.cell hl2 (cell_lt' (hy i hi).1)).trans (hy i hi).1))
  rw [EX.out] at HS
  have HD := hid (fun (z : Nat) (hz : z ≤ 1024) (w' : World) (hl2 : le w w') => i_decimal z (by omega) w' (hT.le hl2))
  have ez := rgT_size (x := x) n2 hk
  clear hs hy hcap hmax hT
  have F := (Frg.nil w).box 34 #[.slice (some ad) n cap, .int .i64 (k : Nat)]
  go_enter Tryd.func46, Tryd.ntmps46
  go_wp2_with fail
  first | (refine wpAt0 F ?_; clear F; intro wN F) | (refine wpAtN F ?_; clear F; intro wN F)
  have FD := F.drewN 1
  refine region_freeD (E := leX) (fun f args _ v => v = .string (if f = 69 then decB args else txtS x n)) (by kernel_rfl) (by kernel_rfl) ?_
  refine wpFreeD_one rfl (.pointer (some ⟨w.heap.size, 0, none⟩)) (fun w1 _ => by kernel_rfl) ?_
  simp only [Act.put, List.setIfInBounds_toArray, List.set_cons_succ, List.set_cons_zero]
  refine wpFreeD_load1 rfl rfl rfl (p := ⟨w.heap.size, 0, none⟩) (v := .slice (some ad) n cap) (fun w1 h1 => by rw [((FD.le h1).row m0).cell?]; rfl) ukindFloat32S ?_
  simp only [Act.put, List.setIfInBounds_toArray, List.set_cons_succ, List.set_cons_zero]
  refine wpFreeD_one rfl (.int .i64 n) (fun w1 _ => by kernel_rfl) ?_
  simp only [Act.put, List.setIfInBounds_toArray, List.set_cons_succ, List.set_cons_zero]
  refine wpFreeD_callB rfl rfl Tryd.func69 (by kernel_rfl) (by kernel_rfl) (args := #[.int .i64 n]) (by first | (simp [Act.eval]; done) | (simp [Act.eval, spB]; done)) (fun v w1 w2 hw hv => hv) (fun w1 hw1 _ => (HD.out n n2 w1 (FD.le hw1).below).mono ?_) ?_
  · rintro e w2 ⟨rfl, hl⟩
    exact ⟨_, rfl, hl, rfl⟩
  rintro v ⟨_, _, _, hv⟩
  replace hv : v = .string (decT n) := hv
  subst hv
  simp only [Act.put, List.setIfInBounds_toArray, List.set_cons_succ, List.set_cons_zero]
  refine wpFreeD_one rfl (.pointer (some ⟨w.heap.size, 1, none⟩)) (fun w1 _ => by kernel_rfl) ?_
  simp only [Act.put, List.setIfInBounds_toArray, List.set_cons_succ, List.set_cons_zero]
  refine wpFreeD_load1 rfl rfl rfl (p := ⟨w.heap.size, 1, none⟩) (v := .int .i64 (k : Nat)) (fun w1 h1 => by rw [((FD.le h1).row m0).cell?]; rfl) ukindInt64 ?_
  simp only [Act.put, List.setIfInBounds_toArray, List.set_cons_succ, List.set_cons_zero]
  refine wpFreeD_callB rfl rfl Tryd.func69 (by kernel_rfl) (by kernel_rfl) (args := #[.int .i64 (k : Nat)]) (by first | (simp [Act.eval]; done) | (simp [Act.eval, spB]; done)) (fun v w1 w2 hw hv => hv) (fun w1 hw1 _ => (HD.out k hk w1 (FD.le hw1).below).mono ?_) ?_
  · rintro e w2 ⟨rfl, hl⟩
    exact ⟨_, rfl, hl, rfl⟩
  rintro v ⟨_, _, _, hv⟩
  replace hv : v = .string (decT k) := hv
  subst hv
  simp only [Act.put, List.setIfInBounds_toArray, List.set_cons_succ, List.set_cons_zero]
  refine wpFreeD_one rfl (.pointer (some ⟨w.heap.size, 0, none⟩)) (fun w1 _ => by kernel_rfl) ?_
  simp only [Act.put, List.setIfInBounds_toArray, List.set_cons_succ, List.set_cons_zero]
  refine wpFreeD_load1 rfl rfl rfl (p := ⟨w.heap.size, 0, none⟩) (v := .slice (some ad) n cap) (fun w1 h1 => by rw [((FD.le h1).row m0).cell?]; rfl) ukindFloat32S ?_
  simp only [Act.put, List.setIfInBounds_toArray, List.set_cons_succ, List.set_cons_zero]
  refine wpFreeD_callB rfl rfl Tryd.func42 (by kernel_rfl) (by kernel_rfl) (args := #[.slice (some ad) n cap]) (by first | (simp [Act.eval]; done) | (simp [Act.eval, spB]; done)) (fun v w1 w2 hw hv => hv) (fun w1 hw1 _ => (HS.out w1 (FD.le hw1).below).mono ?_) ?_
  · rintro e w2 ⟨rfl, hl⟩
    exact ⟨_, rfl, hl, rfl⟩
  rintro v ⟨_, _, _, hv⟩
  replace hv : v = .string (txtS x n) := hv
  subst hv
  simp only [Act.put, List.setIfInBounds_toArray, List.set_cons_succ, List.set_cons_zero]
  refine wpFreeD_newN rfl (fun z => .slice (some ⟨z, 0, none⟩) 3 3) (fun b b' h => by simpa using h) 9 #[.string (decT n), .string (decT k), .string (txtS x n)] (fun w1 => ?_) (fun z => ?_)
  · have hb := mkStr3 (decT n) (decT k) (txtS x n) w1
    simp [execOp, Act.eval, Result.andThen, hb]
  simp only [Act.put, List.setIfInBounds_toArray, List.set_cons_succ, List.set_cons_zero]
  refine wpFreeD_one rfl (.slice (some ⟨z, 0, none⟩) 3 3) (fun w1 _ => by kernel_rfl) ?_
  simp only [Act.put, List.setIfInBounds_toArray, List.set_cons_succ, List.set_cons_zero]
  refine wpFreeD_nil (fun wR hwR hF => ?_)
  obtain ⟨_, hq4⟩ := (hF 10).1.2 rfl
  clear hF
  replace F := FD.le hwR
  clear hwR FD
  have HJ := hid (run_Join z 0 3 [decT n, decT k, txtS x n] spB 3 rfl wR (fun j u hj => by
    rw [Nat.zero_add, hq4.cell?]
    match j, hj with
    | 0, hj => simp at hj; subst hj; rfl
    | 1, hj => simp at hj; subst hj; rfl
    | 2, hj => simp at hj; subst hj; rfl
    | j + 3, hj => simp at hj) hq4.lt (Nat.le_refl _) (by decide) (by unfold rgT at ez; omega))
  clear hq4
  go_wp2_with (first | ((with_reducible refine listN F ?_); clear F; intro wN F) | (go_at_call 41; (refine HJ.out.mono ?_; rintro e w1 ⟨rfl, hl1⟩; replace F := F.le hl1; clear hl1)))
  go_ret
  exact ⟨rfl, F.below⟩
set_option maxRecDepth 100000 in
set_option maxHeartbeats 4000000 in
theorem s_l04LineS (x : Nat → Nat) (n k B : Nat) (s : Value) (g f : Nat) (w : World) (hs : RdS w B s x n) (n1 : 1 ≤ n) (n2 : n ≤ 1024) (hk : k ≤ 1024) (hc0 : w.cell? ⟨g, f, none⟩ = some s) (hc1 : w.cell? ⟨g, f + 1, none⟩ = some (.int .i64 (k : Nat))) : Calls Tryd.prog 54 #[.pointer (some ⟨g, f, none⟩)] w (Out_t (rgT x n k ++ nlB) w) := by
  obtain ⟨ad, cap, y, rfl, hcap, hmax, hy⟩ := hs.raw (by omega)
  have EX := hid (show samL y n = samL x n from samL_congr (f := y) (g := x) (fun i hi => by rw [← (hy i hi).2.2, can_can]))
  have HS := hid (fun (w' : World) (hl2 : le w w') => s_l04Samples y ad n cap w' (by omega) (fun i hi => (hy i hi).2.1) (fun i hi => (Below.cell hl2 (cell_lt' (hy i hi).1)).trans (hy i hi).1))
  rw [EX.out] at HS
  have HDc := hid (fun (z : Nat) (hz : z ≤ 1024) => s_Decimal z (by omega))
  have C0 := hid (fun (w' : World) (hl2 : le w w') => (Below.cell hl2 (cell_lt' hc0)).trans hc0)
  have C1 := hid (fun (w' : World) (hl2 : le w w') => (Below.cell hl2 (cell_lt' hc1)).trans hc1)
  have ez := samL_size x n
  have en := decT_size n (by omega)
  have ek := decT_size k (by omega)
  have w2_ : spB.size = 1 := rfl
  have w3_ : nlB.size = 1 := rfl
  have EA := hid (rgT_eq x k n1)
  clear hs hy hcap hmax hc0 hc1
  go_enter Tryd.func54, Tryd.ntmps54
  go_wp2_with fail
  have G := hid (le_drewN w 1)
  refine region_freeD (E := leX) (fun f args _ v => v = .string (if f = 76 then decB args else samL x n)) (by kernel_rfl) (by kernel_rfl) ?_
  refine wpFreeD_one rfl (.pointer (some ⟨g, f, none⟩)) (fun w1 _ => by kernel_rfl) ?_
  simp only [Act.put, List.setIfInBounds_toArray, List.set_cons_succ, List.set_cons_zero]
  refine wpFreeD_one rfl (.pointer (some ⟨g, f, none⟩)) (fun w1 _ => by kernel_rfl) ?_
  simp only [Act.put, List.setIfInBounds_toArray, List.set_cons_succ, List.set_cons_zero]
  refine wpFreeD_one rfl (.pointer (some ⟨g, f, none⟩)) (fun w1 _ => by kernel_rfl) ?_
  simp only [Act.put, List.setIfInBounds_toArray, List.set_cons_succ, List.set_cons_zero]
  refine wpFreeD_load1 rfl rfl rfl (p := ⟨g, f, none⟩) (v := .slice (some ad) n cap) (fun w1 h1 => C0.out w1 (le_trans G.out h1)) ukindFloat32S ?_
  simp only [Act.put, List.setIfInBounds_toArray, List.set_cons_succ, List.set_cons_zero]
  refine wpFreeD_one rfl (.int .i64 n) (fun w1 _ => by kernel_rfl) ?_
  simp only [Act.put, List.setIfInBounds_toArray, List.set_cons_succ, List.set_cons_zero]
  refine wpFreeD_callB rfl rfl Tryd.func76 (by kernel_rfl) (by kernel_rfl) (args := #[.int .i64 n]) (by first | (simp [Act.eval]; done) | (simp [Act.eval, spB]; done)) (fun v w1 w2 hw hv => hv) (fun w1 hw1 _ => (HDc.out n n2 w1).mono ?_) ?_
  · rintro e w2 ⟨rfl, hl⟩
    exact ⟨_, rfl, hl, rfl⟩
  rintro v ⟨_, _, _, hv⟩
  replace hv : v = .string (decT n) := hv
  subst hv
  simp only [Act.put, List.setIfInBounds_toArray, List.set_cons_succ, List.set_cons_zero]
  refine wpFreeD_cat rfl rfl (s := (decT n)) (r := spB) rfl rfl (by first | omega | (simp only [ByteArray.size_append]; omega)) (q := decT n ++ spB) rfl ?_
  simp only [Act.put, List.setIfInBounds_toArray, List.set_cons_succ, List.set_cons_zero]
  refine wpFreeD_one rfl (.pointer (some ⟨g, f, none⟩)) (fun w1 _ => by kernel_rfl) ?_
  simp only [Act.put, List.setIfInBounds_toArray, List.set_cons_succ, List.set_cons_zero]
  refine wpFreeD_one rfl (.pointer (some ⟨g, f, none⟩)) (fun w1 _ => by kernel_rfl) ?_
  simp only [Act.put, List.setIfInBounds_toArray, List.set_cons_succ, List.set_cons_zero]
  refine wpFreeD_one rfl (.pointer (some ⟨g, f + 1, none⟩)) (fun w1 _ => by kernel_rfl) ?_
  simp only [Act.put, List.setIfInBounds_toArray, List.set_cons_succ, List.set_cons_zero]
  refine wpFreeD_load1 rfl rfl rfl (p := ⟨g, f + 1, none⟩) (v := .int .i64 (k : Nat)) (fun w1 h1 => C1.out w1 (le_trans G.out h1)) ukindInt64 ?_
  simp only [Act.put, List.setIfInBounds_toArray, List.set_cons_succ, List.set_cons_zero]
  refine wpFreeD_callB rfl rfl Tryd.func76 (by kernel_rfl) (by kernel_rfl) (args := #[.int .i64 (k : Nat)]) (by first | (simp [Act.eval]; done) | (simp [Act.eval, spB]; done)) (fun v w1 w2 hw hv => hv) (fun w1 hw1 _ => (HDc.out k hk w1).mono ?_) ?_
  · rintro e w2 ⟨rfl, hl⟩
    exact ⟨_, rfl, hl, rfl⟩
  rintro v ⟨_, _, _, hv⟩
  replace hv : v = .string (decT k) := hv
  subst hv
  simp only [Act.put, List.setIfInBounds_toArray, List.set_cons_succ, List.set_cons_zero]
  refine wpFreeD_cat rfl rfl (s := (decT n ++ spB)) (r := (decT k)) rfl rfl (by first | omega | (simp only [ByteArray.size_append]; omega)) (q := decT n ++ spB ++ decT k) rfl ?_
  simp only [Act.put, List.setIfInBounds_toArray, List.set_cons_succ, List.set_cons_zero]
  refine wpFreeD_one rfl (.pointer (some ⟨g, f, none⟩)) (fun w1 _ => by kernel_rfl) ?_
  simp only [Act.put, List.setIfInBounds_toArray, List.set_cons_succ, List.set_cons_zero]
  refine wpFreeD_one rfl (.pointer (some ⟨g, f, none⟩)) (fun w1 _ => by kernel_rfl) ?_
  simp only [Act.put, List.setIfInBounds_toArray, List.set_cons_succ, List.set_cons_zero]
  refine wpFreeD_one rfl (.pointer (some ⟨g, f, none⟩)) (fun w1 _ => by kernel_rfl) ?_
  simp only [Act.put, List.setIfInBounds_toArray, List.set_cons_succ, List.set_cons_zero]
  refine wpFreeD_load1 rfl rfl rfl (p := ⟨g, f, none⟩) (v := .slice (some ad) n cap) (fun w1 h1 => C0.out w1 (le_trans G.out h1)) ukindFloat32S ?_
  simp only [Act.put, List.setIfInBounds_toArray, List.set_cons_succ, List.set_cons_zero]
  refine wpFreeD_callB rfl rfl Tryd.func52 (by kernel_rfl) (by kernel_rfl) (args := #[.slice (some ad) n cap]) (by first | (simp [Act.eval]; done) | (simp [Act.eval, spB]; done)) (fun v w1 w2 hw hv => hv) (fun w1 hw1 _ => (HS.out w1 (le_trans G.out hw1)).mono ?_) ?_
  · rintro e w2 ⟨rfl, hl⟩
    exact ⟨_, rfl, hl, rfl⟩
  rintro v ⟨_, _, _, hv⟩
  replace hv : v = .string (samL x n) := hv
  subst hv
  simp only [Act.put, List.setIfInBounds_toArray, List.set_cons_succ, List.set_cons_zero]
  refine wpFreeD_cat rfl rfl (s := (decT n ++ spB ++ decT k)) (r := (samL x n)) rfl rfl (by first | omega | (simp only [ByteArray.size_append]; omega)) (q := decT n ++ spB ++ decT k ++ samL x n) rfl ?_
  simp only [Act.put, List.setIfInBounds_toArray, List.set_cons_succ, List.set_cons_zero]
  refine wpFreeD_cat rfl rfl (s := (decT n ++ spB ++ decT k ++ samL x n)) (r := nlB) rfl rfl (by first | omega | (simp only [ByteArray.size_append]; omega)) (q := rgT x n k ++ nlB) EA.out ?_
  simp only [Act.put, List.setIfInBounds_toArray, List.set_cons_succ, List.set_cons_zero]
  refine wpFreeD_one rfl (.string (rgT x n k ++ nlB)) (fun w1 _ => by kernel_rfl) ?_
  simp only [Act.put, List.setIfInBounds_toArray, List.set_cons_succ, List.set_cons_zero]
  refine wpFreeD_nil (fun wR hwR _ => ?_)
  have HL := hid (le_trans G.out hwR)
  clear hwR
  go_wp2
  go_ret
  exact ⟨rfl, HL.out⟩
set_option maxRecDepth 100000 in
set_option maxHeartbeats 4000000 in
theorem s_l04Samples_none (a : Option Addr) (cap : Nat) (f : Nat → Nat) (w : World) : Calls Tryd.prog 52 #[.slice a 0 cap] w fun e w' => e = .returned (.string (samL f 0)) ∧ le w w' := by
  cases a
  all_goals
    go_enter Tryd.func52, Tryd.ntmps52
    go_wp2
    go_loop [3, 4] (fun q i => q = .string (samL f 0) ∧ i = .int .i64 0) (fun _ _ => 0)
    case atStart => exact ⟨rfl, rfl⟩
    case round =>
      obtain ⟨rfl, rfl⟩ := hrel
      go_wp2
      go_ret
      exact ⟨rfl, le_refl _⟩
theorem s_l04SamplesS (x : Nat → Nat) (n B : Nat) (s : Value) (w : World) (hs : RdS w B s x n) (hn : n ≤ 1048576) : Calls Tryd.prog 52 #[s] w fun e w' => e = .returned (.string (samL x n)) ∧ le w w' := by
  by_cases h0 : n = 0
  · subst h0
    rcases hs with ⟨rfl, _⟩ | ⟨a, cap, rfl, h2, h3, h4⟩
    · exact s_l04Samples_none none 0 x w
    · exact s_l04Samples_none (some a) cap x w
  · obtain ⟨ad, cap, y, rfl, hcap, hmax, hy⟩ := hs.raw (by omega)
    rw [← samL_congr (f := y) (g := x) (fun i hi => by rw [← (hy i hi).2.2, can_can])]
    exact s_l04Samples y ad n cap w hn (fun i hi => (hy i hi).2.1) (fun i hi => (hy i hi).1)
set_option maxRecDepth 100000 in
set_option maxHeartbeats 4000000 in
theorem i_scatterText_none (a : Option Addr) (cap : Nat) (f : Nat → Nat) (w : World) : Calls Tryd.prog 43 #[.slice a 0 cap] w fun e w' => e = .returned (.string (scaW ++ samL f 0)) ∧ le w w' := by
  have E0 : scaW ++ samL f 0 = scaW := by apply ba_ext; simp [samL]
  rw [E0]
  cases a
  all_goals
    go_enter Tryd.func43, Tryd.ntmps43
    go_wp2
    go_loop [3, 8] (fun q i => q = .string scaW ∧ i = .int .i64 0) (fun _ _ => 0)
    case atStart => exact ⟨rfl, rfl⟩
    case round =>
      obtain ⟨rfl, rfl⟩ := hrel
      go_wp2
      go_ret
      exact ⟨rfl, le_refl _⟩
set_option maxRecDepth 100000 in
set_option maxHeartbeats 4000000 in
theorem i_scatterText (f : Nat → Nat) (a : Addr) (u cap : Nat) (w : World) (hu : u ≤ 1048576) (hf : ∀ i, i < u → fits .f32 (f i)) (hc : ∀ i, i < u → w.cell? (a.add i) = some (.float .f32 (f i))) :
    Calls Tryd.prog 43 #[.slice (some a) u cap] w fun e w' => e = .returned (.string (scaW ++ samL f u)) ∧ le w w' := by
  have Hf := hid hf; have Hc := hid hc; clear hf hc
  have E0 := hid (show scaW ++ samL f 0 = scaW by apply ba_ext; simp [samL])
  go_enter Tryd.func43, Tryd.ntmps43
  go_wp2
  go_loopw [3, 8] (fun q i wr => ∃ j : Nat, j ≤ u ∧ i = .int .i64 j ∧ q = .string (scaW ++ samL f j) ∧ Hid (le w wr)) (fun _ i _ => u - (intOf i).toNat)
  case atStart => exact ⟨0, by omega, rfl, by rw [E0.out]; rfl, le_refl _⟩
  case round =>
    obtain ⟨j, hj, rfl, rfl, HL⟩ := hrel
    rename_i wr _
    by_cases hlt : j < u
    · have cj := (Below.cell HL.out (cell_lt' (Hc.out j hlt))).trans (Hc.out j hlt)
      have HT := hid (i_sampleText (f j) (Hf.out j hlt))
      have ez := samL_size f j
      have e2 : (scaW ++ samL f j).size ≤ 10000000 := by rw [ByteArray.size_append, show scaW.size = 7 from rfl]; omega
      have eh := hexT_size (can .f32 (f j))
      have EN := hid (show scaW ++ samL f (j + 1) = (scaW ++ samL f j) ++ (spB ++ hexT (can .f32 (f j))) by rw [samL, ba_assoc])
      obtain ⟨Z, hZ⟩ : ∃ Z, Z = scaW ++ samL f j := ⟨_, rfl⟩
      rw [← hZ] at EN e2 ⊢
      clear hZ
      go_wp2_with (go_at_call 68; ((with_reducible refine (HT.out _).mono ?_); rintro e w1 ⟨rfl, hl1⟩; have HL1 := hid (le_trans HL.out hl1); clear hl1))
      go_roundw
      case rel => exact ⟨j + 1, by omega, by go_num, by rw [EN.out]; rfl, HL1.out⟩
      case measure => simp [intOf]; omega
    · obtain rfl : j = u := by omega
      go_wp2
      go_ret
      exact ⟨rfl, HL.out⟩
theorem i_scatterTextS (x : Nat → Nat) (n B : Nat) (s : Value) (w : World) (hs : RdS w B s x n) (hn : n ≤ 1048576) : Calls Tryd.prog 43 #[s] w fun e w' => e = .returned (.string (scaW ++ samL x n)) ∧ le w w' := by
  by_cases h0 : n = 0
  · subst h0
    rcases hs with ⟨rfl, _⟩ | ⟨a, cap, rfl, h2, h3, h4⟩
    · exact i_scatterText_none none 0 x w
    · exact i_scatterText_none (some a) cap x w
  · obtain ⟨ad, cap, y, rfl, hcap, hmax, hy⟩ := hs.raw (by omega)
    rw [← samL_congr (f := y) (g := x) (fun i hi => by rw [← (hy i hi).2.2, can_can])]
    exact i_scatterText y ad n cap w hn (fun i hi => (hy i hi).2.1) (fun i hi => (hy i hi).1)
end Go.Proofs.YtjihkfemejhllaaDoor

/- A strings.Builder of one's own. -/
namespace Go.Proofs.YtjihkfemejhllaaDoor
open Go.Shelf Go.RowKit Go.Fk
/-- The builder in block b (from B on) holds the text s. -/
def Bd (B b : Nat) (s : ByteArray) (w : World) : Prop := Lib.IsBuilderF 107 5 B b (Lib.byteCells s.data.toList) w
theorem Bd.fresh (w : World) : Bd w.heap.size w.heap.size ⟨#[]⟩ (w.alloc (.cells #[.pointer none, .slice none 0 0] 107)) := Lib.IsBuilderF.of (Lib.fresh_isBuilder _ _ w)
theorem bd_at {T e : TypeId} {B b : Nat} {p : Value} {bs : List Value} {w w' : World} (h : Lib.BuilderAtF T e B b p bs w) (hb : Below w.heap.size w w') : Lib.BuilderAtF T e B b p bs w' := by
  obtain ⟨h1, v, h2, h3, h4⟩ := h
  have lt : ∀ k o, w.heap[k]? = some o → w'.heap[k]? = some o := fun k o ho => by
    have : k < w.heap.size := by
      rcases Nat.lt_or_ge k w.heap.size with h | h
      · exact h
      · rw [Array.getElem?_eq_none h] at ho; cases ho
    rw [hb.block k this]; exact ho
  refine ⟨h1, v, lt _ _ h2, ?_, h4⟩
  obtain ⟨g1, g2⟩ := h3
  refine ⟨g1, ?_⟩
  rcases g2 with g2 | ⟨g, cap, cur, fz, a1, a2, a3, rest⟩
  · exact .inl g2
  · exact .inr ⟨g, cap, cur, fz, a1, a2, lt _ _ a3, rest⟩
theorem Bd.le {B b : Nat} {s : ByteArray} {w w' : World} (h : Bd B b s w) (hl : Go.Fk.le w w') : Bd B b s w' := h.elim (fun x => .inl (bd_at x hl)) (fun x => .inr (bd_at x hl))
/-- Rows of other types stay. -/
theorem kept_row {b g : Nat} {t : TypeId} {cs : Array Value} {w w' : World} (h : Lib.OthersKept 5 (some b) w w') (R : Row w g t cs) (hg : g ≠ b) (ht : t ≠ 5) : Row w' g t cs :=
  h g _ R (by simpa using hg) (fun c fz e => by injection e with e1 e2 e3; exact ht e2)
theorem run_Write (B b : Nat) (s r : ByteArray) (w : World) (h : Bd B b s w) (hz : s.size + r.size ≤ 140737488355328) (hB : B ≤ w.heap.size) :
    Calls Tryd.prog 59 #[.pointer (some ⟨b, 0, none⟩), .string r] w fun e w' => e = .returned (.tuple #[.int .i64 r.size, .nilIface]) ∧ Bd B b (s ++ r) w' ∧ Below B w w' ∧ Lib.OthersKept 5 (some b) w w' := by
  refine (Any.Builder_WriteString_kc { laysJ with } extraJ B b _ r w h (by rw [Lib.byteCells_length, ← ba_size]; exact hz) hB).mono ?_
  rintro e w' ⟨h1, ⟨h2, h3, h4⟩, _⟩
  refine ⟨h1, ?_, h3, h4⟩
  have : Lib.byteCells (s ++ r).data.toList = Lib.byteCells s.data.toList ++ Lib.strCells r := by rw [Lib.strCells_eq, ← Lib.byteCells_append]; simp
  unfold Bd
  rw [this]
  exact .inr h2
theorem run_Str (B b : Nat) (s : ByteArray) (w : World) (h : Bd B b s w) (hB : B ≤ w.heap.size) :
    Calls Tryd.prog 60 #[.pointer (some ⟨b, 0, none⟩)] w fun e w' => e = .returned (.string s) ∧ Below B w w' := by
  refine (Any.Builder_String_any_f { laysJ with } extraJ B b _ w h hB).mono ?_
  rintro e w' ⟨h1, h2⟩
  exact ⟨by rw [h1], h2.2⟩
end Go.Proofs.YtjihkfemejhllaaDoor

/- Texts put together piece by piece. -/
namespace Go.Fk
open Go Go.RowKit Go.Proofs.YtjihkfemejhllaaDoor
/-- The first n pieces. -/
def accs (l : List ByteArray) (n : Nat) : ByteArray := (l.take n).foldl (· ++ ·) ⟨#[]⟩
theorem accs_succ {l : List ByteArray} {n : Nat} {c : ByteArray} (h : l[n]? = some c) : accs l (n + 1) = accs l n ++ c := by
  unfold accs
  rw [List.take_add_one, h]
  simp [List.foldl_append]
theorem accs_size {l : List ByteArray} {m : Nat} (h : ∀ c ∈ l, c.size ≤ m) : ∀ n, (accs l n).size ≤ n * m := by
  intro n
  induction n with
  | zero => exact Nat.zero_le _
  | succ n ih =>
    cases e : l[n]? with
    | none =>
      have : accs l (n + 1) = accs l n := by unfold accs; rw [List.take_add_one, e]; simp
      rw [this, Nat.succ_mul]; omega
    | some c =>
      rw [accs_succ e, ByteArray.size_append, Nat.succ_mul]
      have := h c (List.mem_of_getElem? e)
      omega
theorem filT_sz (k : Int) (a b c x y : Nat) : (filT k a b c x y).size ≤ 4100 := by
  unfold filT
  split
  · rename_i h
    obtain ⟨n, rfl, hn⟩ := okF_k h
    have h1 := txtS_size (tri a b c) 3; have h2 := txtS_size (duo x y) 2; have h3 := decT_sz100 hn
    have := jnB_size spB 1024 [filW, decT n, txtS (tri a b c) 3, txtS (duo x y) 2] (fun z hz => by
      simp only [List.mem_cons, List.not_mem_nil, or_false] at hz
      rcases hz with rfl | rfl | rfl | rfl
      · decide
      · omega
      · omega
      · omega)
    simp only [List.length_cons, List.length_nil] at this
    rw [show spB.size = 1 from rfl] at this
    exact Nat.le_trans this (by decide)
  · exact Nat.zero_le _
def filB (args : Array Value) : ByteArray := match args.toList with | [.agg l] => (match l.toList with | [.int _ k, .float _ a, .float _ b, .float _ c, .float _ x, .float _ y] => filT k a b c x y | _ => ⟨#[]⟩) | _ => ⟨#[]⟩
def offA (args : Array Value) : Nat := match args.toList with | [.pointer (some p)] => p.off | _ => 0
end Go.Fk
