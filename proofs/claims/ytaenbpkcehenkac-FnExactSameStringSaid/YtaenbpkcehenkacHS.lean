/- Slices of floats in the laws' helpers: 'szFloat32S', 'toFloat32S', 'eqFloat32S', 'markFloat32S', 'heldFloat32S', over facts of memory. -/
import Derived.Test.YtaenbpkcehenkacSl
import Derived.Test.YtaenbpkcehenkacOwn
import Derived.Test.YtaenbpkcehenkacMark
namespace Go.Fk
open Go Go.RowKit
theorem can_int (z : Int) : can .f32 (floatOfInt .f32 z) = floatOfInt .f32 z := can_of_not (isNan_int z)
theorem RdS.slIn {w : World} {B : Nat} {v : Value} {x : Nat → Nat} {n : Nat} (h : RdS w B v x n) : ∃ y, SlIn w v y n ∧ ∀ i, i < n → can .f32 (y i) = x i := by
  rcases h with ⟨rfl, rfl⟩ | ⟨a, cap, rfl, h2, h3, h4⟩
  · exact ⟨fun _ => 0, .inl ⟨rfl, rfl⟩, fun i hi => absurd hi (by omega)⟩
  · have : ∀ i, ∃ y, i < n → w.cell? (a.add i) = some (.float .f32 y) ∧ fits .f32 y ∧ can .f32 y = x i := fun i => by
      by_cases hi : i < n
      · obtain ⟨_, y, e⟩ := h4 i hi; exact ⟨y, fun _ => e⟩
      · exact ⟨0, fun h => absurd h hi⟩
    obtain ⟨y, hy⟩ := Classical.skolem.1 this
    exact ⟨y, .inr ⟨a, cap, rfl, h2, h3, fun i hi => ⟨(hy i hi).1, (hy i hi).2.1⟩⟩, fun i hi => (hy i hi).2.2⟩
theorem same_of_can {y : Nat} {z : Int} (h : can .f32 y = floatOfInt .f32 z) : y = floatOfInt .f32 z :=
  (eq_of_can ((can_int z).trans h.symm) (isNan_int z)).symm
end Go.Fk
namespace Go.Proofs.Ytaenbpkcehenkac
open Go.RowKit Go.Fk
theorem toR (B : Nat) (v : Value) (x : Nat → Nat) (n : Nat) (w : World) (hv : RdS w B v x n) (hn : n ≤ 1048576) :
    Calls Try.prog 29 #[v] w fun e w' => ∃ s, e = .returned s ∧ OwnS w' w.heap.size w'.heap.size s x n ∧ le w w' := by
  obtain ⟨y, hy, hc⟩ := hv.slIn
  have hf : ∀ i, i < n → fits .f32 (y i) := by
    rcases hy with ⟨_, rfl⟩ | ⟨a, cap, _, _, _, h4⟩
    · intro i hi; omega
    · intro i hi; exact (h4 i hi).2
  refine (toS v y n w hy hn).mono ?_
  rintro e w' ⟨rfl, hr, hl⟩
  exact ⟨_, rfl, .inr ⟨_, 0, n, _, _, rfl, Nat.le_refl _, by unfold maxLen; omega, Nat.le_refl _, hr.lt, hr, fun i hi => ⟨y i, by rw [Nat.zero_add]; exact get_ftab _ _ _ _ hi, hf i hi, hc i hi⟩⟩, hl⟩
set_option maxHeartbeats 1000000 in
theorem eqR (B B' : Nat) (s s' : Value) (x : Nat → Nat) (n : Nat) (w : World) (hn : n ≤ 1048576) (hs : RdS w B s x n) (hs' : RdS w B' s' x n) :
    Calls Try.prog 31 #[s, s'] w fun e w' => e = .returned (.bool true) ∧ ∃ m, w' = w.drewN m := by
  by_cases h0 : n = 0
  · subst h0
    rcases hs with ⟨rfl, _⟩ | ⟨a, cap, rfl, hc, hg, hx⟩ <;> rcases hs' with ⟨rfl, _⟩ | ⟨a', cap', rfl, hc', hg', hx'⟩
    all_goals
      try clear hx
      try clear hx'
      go_enter Try.func31, Try.ntmps31
      go_wp2
      go_loop [5] (fun i => i = .int .i64 0) (fun _ => 0)
      case atStart => rfl
      case round =>
        obtain rfl := hrel
        go_wp2
        go_ret
        exact ⟨rfl, 0, rfl⟩
  rcases hs with ⟨_, h⟩ | ⟨a, cap, rfl, hc, hg, hx⟩
  · exact absurd h h0
  rcases hs' with ⟨_, h⟩ | ⟨a', cap', rfl, hc', hg', hx'⟩
  · exact absurd h h0
  have HX := hid hx; have HY := hid hx'; clear hx hx' h0
  go_enter Try.func31, Try.ntmps31
  go_wp2
  go_loopw [5] (fun i wr => ∃ k : Nat, k ≤ n ∧ i = .int .i64 k ∧ ∃ m, wr = w.drewN m) (fun i _ => n - (intOf i).toNat)
  case atStart => exact ⟨0, by omega, rfl, 0, rfl⟩
  case round =>
    obtain ⟨k, hk, rfl, m, rfl⟩ := hrel
    by_cases hlt : k < n
    · obtain ⟨_, p, c1, _, e1⟩ := HX.out k hlt
      obtain ⟨_, q, c2, _, e2⟩ := HY.out k hlt
      have hxy := hid (e1.trans e2.symm)
      clear e1 e2
      go_wp2_with fail
      refine wp_region_loose (fun _ _ v => v = .bool true) (by kernel_rfl) (by kernel_rfl) ?_
      repeat (first | (with_reducible refine wpLoose_widen rfl rfl rfl Try.underlying22 Try.underlying60 ?_; intro r hr hf; simp only [Act.put, List.setIfInBounds_toArray, List.set_cons_succ, List.set_cons_zero]) | (refine wpLoose_quiet rfl ?_; go_big_quiet_step (fail); refine wpQuiet_nil ?_))
      refine wpLoose_any rfl (· = .bool true) (fun m0 => ?_) ?_
      · go_simp
        have hr1 := ‹Hid (can .f64 _ = can .f64 (widen p))›
        refine (sameFloat_yes _ _ _ (hr1.out.trans ((congrArg (can .f64) (widen_congr hxy.out)).trans hr.out.symm))).mono ?_
        rintro e w2 ⟨rfl, m2, rfl⟩
        exact ⟨_, rfl, rfl, m0 + m2, by go_simp; rw [Nat.add_assoc]⟩
      · rintro v rfl
        simp only [Act.put, List.setIfInBounds_toArray, List.set_cons_succ, List.set_cons_zero]
        repeat (refine wpLoose_quiet rfl ?_; go_big_quiet_step (fail); refine wpQuiet_nil ?_)
        refine wpLoose_nil (fun m1 => ?_)
        go_wp2
        go_roundw
        case rel => exact ⟨k + 1, by omega, by go_num, _, rfl⟩
        case measure => simp [intOf]; omega
    · obtain rfl : k = n := by omega
      go_wp2
      go_ret
      exact ⟨rfl, _, rfl⟩
set_option maxHeartbeats 1000000 in
theorem markR (lo hi : Nat) (s : Value) (x : Nat → Nat) (n : Nat) (z : Int) (w : World) (hn : n ≤ 1048576) (hz : 0 ≤ z) (hz2 : z ≤ 1073741824) (hs : OwnS w lo hi s x n) :
    Calls Try.prog 32 #[s, .int .i64 z] w fun e w' => e = .returned (.int .i64 (z + n)) ∧ OwnS w' lo hi s (markW z) n ∧ Chg (rng lo hi) w w' ∧ w'.heap.size = w.heap.size := by
  rcases hs with ⟨rfl, rfl⟩ | ⟨b, o, cap, t, cs, rfl, hc, hg, hb, hb', hr, hx⟩
  · go_enter Try.func32, Try.ntmps32
    go_wp2
    go_loop [1, 5] (fun m i => m = .int .i64 z ∧ i = .int .i64 0) (fun _ _ => 0)
    case atStart => exact ⟨rfl, rfl⟩
    case round =>
      obtain ⟨rfl, rfl⟩ := hrel
      go_wp2
      go_ret
      exact ⟨ret_i (by simp), .inl ⟨rfl, rfl⟩, Chg.refl _ _, rfl⟩
  · have HR := hid hr; have HX := hid hx; clear hr hx
    go_enter Try.func32, Try.ntmps32
    go_wp2
    go_loopw [1, 5] (fun m i wr => ∃ k : Nat, k ≤ n ∧ i = .int .i64 k ∧ m = .int .i64 (z + k) ∧ Hid (∃ ds, Row wr b t ds ∧ ∀ j, j < n → ∃ y, ds[o + j]? = some (.float .f32 y) ∧ fits .f32 y ∧ (j < k → can .f32 y = markW z j)) ∧ Hid (Chg (rng lo hi) w wr ∧ wr.heap.size = w.heap.size)) (fun _ i _ => n - (intOf i).toNat)
    case atStart => exact ⟨0, by omega, rfl, by simp, ⟨cs, HR.out, fun j hj => by obtain ⟨y, e1, e2, _⟩ := HX.out j hj; exact ⟨y, e1, e2, fun h => absurd h (by omega)⟩⟩, Chg.refl _ _, rfl⟩
    case round =>
      obtain ⟨k, hk, rfl, rfl, HO, HU⟩ := hrel
      by_cases hlt : k < n
      · rename_i wr _
        obtain ⟨ds, hd, hy⟩ := HO.out
        obtain ⟨y0, c0, _⟩ := hy k hlt
        have c2 : wr.cell? ⟨b, o + k, none⟩ = some (.float .f32 y0) := (hd.cell? (o + k)).trans c0
        have f2 := hd.frozen (o + k)
        have HD := hid hd; have HY := hid hy; have HC := hid c0
        clear hd hy c0 HO
        go_wp2
        go_roundw
        case rel =>
          refine ⟨k + 1, by omega, by go_num, by go_num, ⟨_, HD.out.set (o + k) (.float .f32 (markW z k)), fun j hj => ?_⟩, Chg.setCell HU.out.1 ⟨hb, hb'⟩ _, by simpa using HU.out.2⟩
          by_cases e : j = k
          · subst e
            refine ⟨markW z j, ?_, ?_, fun _ => ?_⟩
            · rw [Array.getElem?_setIfInBounds_self_of_lt (Array.getElem?_eq_some_iff.1 HC.out).1]
            · exact floatOfInt_wf .f32 _
            · exact can_int _
          · obtain ⟨y, e1, e2, e3⟩ := HY.out j hj
            exact ⟨y, by rw [Array.getElem?_setIfInBounds_ne (by omega)]; exact e1, e2, fun h => e3 (by omega)⟩
        case measure => simp [intOf]; omega
      · obtain rfl : k = n := by omega
        go_wp2
        go_ret
        obtain ⟨ds, hd, hy⟩ := HO.out
        exact ⟨rfl, .inr ⟨b, o, cap, t, ds, rfl, hc, hg, hb, hb', hd, fun j hj => by obtain ⟨y, e1, e2, e3⟩ := hy j hj; exact ⟨y, e1, e2, e3 hj⟩⟩, HU.out.1, HU.out.2⟩
set_option maxHeartbeats 1000000 in
theorem heldR (B : Nat) (s : Value) (n : Nat) (z : Int) (w : World) (hn : n ≤ 1048576) (hz : 0 ≤ z) (hz2 : z ≤ 1073741824) (hs : RdS w B s (markW z) n) :
    Calls Try.prog 40 #[s, .int .i64 z] w fun e w' => e = .returned (.int .i64 (z + n)) ∧ w = w' := by
  rcases hs with ⟨rfl, rfl⟩ | ⟨a, cap, rfl, hc, hg, hx⟩
  · go_enter Try.func40, Try.ntmps40
    go_wp2
    go_loop [1, 5] (fun m i => m = .int .i64 z ∧ i = .int .i64 0) (fun _ _ => 0)
    case atStart => exact ⟨rfl, rfl⟩
    case round =>
      obtain ⟨rfl, rfl⟩ := hrel
      go_wp2
      go_ret
      exact ⟨ret_i (by simp), rfl⟩
  · have HX := hid hx; clear hx
    go_enter Try.func40, Try.ntmps40
    go_wp2
    go_loop [1, 5] (fun m i => ∃ k : Nat, k ≤ n ∧ i = .int .i64 k ∧ m = .int .i64 (z + k)) (fun _ i => n - (intOf i).toNat)
    case atStart => exact ⟨0, by omega, rfl, by simp⟩
    case round =>
      obtain ⟨k, hk, rfl, rfl⟩ := hrel
      by_cases hlt : k < n
      · obtain ⟨_, y, c2, _, hm⟩ := HX.out k hlt
        obtain rfl : y = floatOfInt .f32 (z + k) := same_of_can hm
        clear hm
        have e2 := same_int (z + k)
        go_wp2
        go_round
        case rel => exact ⟨k + 1, by omega, by go_num, by go_num⟩
        case measure => simp [intOf]; omega
      · obtain rfl : k = n := by omega
        go_wp2
        go_ret
        exact ⟨rfl, rfl⟩
end Go.Proofs.Ytaenbpkcehenkac
