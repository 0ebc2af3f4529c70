/- 'ReadBack' of both. -/
import Derived.Test.YtaenbpkcehenkaaPush
namespace Go.Fk
open Go Go.RowKit
/-- Where a sample lies that came k samples ago. -/
def backJ (n j k : Nat) : Nat := (j + n - k) % n
theorem backJ_lt {n j k : Nat} (hn : 1 ≤ n) : backJ n j k < n := Nat.mod_lt _ (by omega)
def OutBk (x : Nat → Nat) (n j k : Nat) (w : World) (e : Ending) (w' : World) : Prop := ∃ y, e = .returned (.float .f32 y) ∧ can .f32 y = x (backJ n j k) ∧ fits .f32 y ∧ le w w'
end Go.Fk
namespace Go.Proofs.Ytaenbpkcehenkaa
open Go.RowKit Go.Fk
set_option maxRecDepth 100000 in
set_option maxHeartbeats 1000000 in
theorem i_back (B : Nat) (s : Value) (x : Nat → Nat) (n j k : Nat) (w : World) (hs : RdS w B s x n) (h1 : 1 ≤ n) (h2 : n ≤ 1024) (hj : j < n) (hk : k ≤ n) :
    Calls Try.prog 76 #[.agg #[s, .int .i64 j], .int .i64 k] w (OutBk x n j k w) := by
  obtain ⟨a, cap, y, rfl, hc, hm, hx⟩ := hs.raw h1
  have hb := backJ_lt (n := n) (j := j) (k := k) h1
  have Hx := hid (hx _ hb); clear hx hs
  unfold maxLen at hm
  have F := (Frg.nil w).box 27 #[.slice (some a) n cap, .int .i64 j]
  have c0 := (F.row m0).cell? 0
  have c1 := (F.row m0).cell? 1
  have cj := (Below.cell F.below (World.block_lt_of_cell? w _ Hx.out.1)).trans Hx.out.1
  have HL := hid F.below
  have e1 : ((j : Int) - k + n) % n = ((backJ n j k : Nat) : Int) := by unfold backJ; rw [Int.natCast_emod, Int.natCast_sub (by omega)]; congr 1; omega
  have E1 := hid e1
  clear F e1
  go_enter Try.func76, Try.ntmps76
  go_wp2_with fail
  refine wp_region_tail (fun _ _ _ => True) 10 (by kernel_rfl) (by kernel_rfl) ?_; simp only [List.take_succ_cons, List.take_zero, List.drop_succ_cons, List.drop_zero]
  repeat (refine wpLoose_quiet rfl ?_; go_big_quiet_step (fail); refine wpQuiet_nil ?_)
  refine wpLoose_nil (fun m1 => ?_)
  rw [E1.out]
  go_wp2
  go_ret
  exact ⟨_, rfl, Hx.out.2.2, Hx.out.2.1, le_trans HL.out (le_drewN _ _)⟩
set_option maxRecDepth 100000 in
set_option maxHeartbeats 1000000 in
theorem s_l02Back (B : Nat) (s : Value) (x : Nat → Nat) (n j k g f : Nat) (w : World) (hs : RdS w B s x n) (c0 : w.cell? ⟨g, f, none⟩ = some s) (c1 : w.cell? ⟨g, f + 1, none⟩ = some (.int .i64 j)) (h1 : 1 ≤ n) (h2 : n ≤ 1024) (hj : j < n) (hk : k ≤ n) :
    Calls Try.prog 75 #[.pointer (some ⟨g, f, none⟩), .int .i64 k] w (OutBk x n j k w) := by
  obtain ⟨a, cap, y, rfl, hc, hm, hx⟩ := hs.raw h1
  have hb := backJ_lt (n := n) (j := j) (k := k) h1
  have Hx := hid (hx _ hb); clear hx hs
  unfold maxLen at hm
  have cj := Hx.out.1
  have e1 : ((j : Int) + n - k) % n = ((backJ n j k : Nat) : Int) := by unfold backJ; rw [Int.natCast_emod, Int.natCast_sub (by omega)]; congr 1
  have E1 := hid e1
  clear e1
  go_enter Try.func75, Try.ntmps75
  go_wp2_with fail
  refine wp_region_tail (fun _ _ _ => True) 14 (by kernel_rfl) (by kernel_rfl) ?_; simp only [List.take_succ_cons, List.take_zero, List.drop_succ_cons, List.drop_zero]
  repeat (first | (refine wpLoose_quiet rfl ?_; go_big_quiet_step (fail); refine wpQuiet_nil ?_) | (refine wpLoose_nilP rfl rfl rfl ?_; simp only [Act.put, List.setIfInBounds_toArray, List.set_cons_succ, List.set_cons_zero]))
  refine wpLoose_nil (fun m1 => ?_)
  rw [E1.out]
  go_wp2
  go_ret
  exact ⟨_, rfl, Hx.out.2.2, Hx.out.2.1, le_drewN _ _⟩
set_option maxRecDepth 100000 in
set_option maxHeartbeats 2000000 in
theorem i_ReadBack (B : Nat) (s : Value) (x : Nat → Nat) (n : Nat) (k : Int) (c : Int) (w : World) (hs : RdS w B s x n) (v : Nat) (d : Int)
    (h : (okRing n k = false ∧ v = 0 ∧ d = 1) ∨ (okRing n k = true ∧ ¬ (1 ≤ c ∧ c ≤ n) ∧ v = 0 ∧ d = 2) ∨ (okRing n k = true ∧ (1 ≤ c ∧ c ≤ n) ∧ v = x (backJ n k.toNat c.toNat) ∧ d = 0)) :
    Calls Try.prog 28 #[.agg #[s, .int .i64 k], .int .i64 c] w (Out_fi v d w) := by
  have HV := hid (fun (w' : World) (hl : le w w') => i_ValidRingR B s x n k w' (hs.le hl))
  have F := (Frg.nil w).box 27 #[s, .int .i64 k]
  rcases h with ⟨hv, rfl, rfl⟩ | ⟨hv, hr, rfl, rfl⟩ | ⟨hv, hr, hvv, rfl⟩
  · rw [hv] at HV
    clear hs hv
    go_enter Try.func28, Try.ntmps28
    go_wp2_with (first | ((with_reducible refine at_load rfl ?_); (with_reducible refine wpList_loadG F rfl rfl rfl m0 Try.underlying27 rfl infoRing rfl ?_)) | (go_at_call 18; ((with_reducible refine (HV.out _ F.below).mono ?_); rintro e w1 ⟨rfl, hl⟩; replace F := F.le hl; clear hl)))
    go_ret2
    exact ⟨_, rfl, by decide, F.below⟩
  · rw [hv] at HV
    obtain ⟨h1, h2, j, rfl, hj⟩ := okRing_nat hv
    obtain ⟨a, cap, y, rfl, hc, hm, hx⟩ := hs.raw h1
    unfold maxLen at hm
    clear hs hv hx
    by_cases k1 : c < 1
    all_goals
      try have k2 : (n : Int) < c := by omega
      clear hr
      go_enter Try.func28, Try.ntmps28
      go_wp2_with (first | (go_at_call 18; ((with_reducible refine (HV.out _ F.below).mono ?_); rintro e w1 ⟨rfl, hl⟩; replace F := F.le hl; clear hl; have c0 := (F.row m0).cell? 0; have c1 := (F.row m0).cell? 1)) | ((with_reducible refine at_loadU rfl rfl ?_); (with_reducible refine wpList_loadG F rfl rfl rfl m0 Try.underlying27 rfl infoRing rfl ?_)))
      go_ret2
      exact ⟨_, rfl, by decide, F.below⟩
  · rw [hv] at HV
    obtain ⟨h1, h2, j, rfl, hj⟩ := okRing_nat hv
    obtain ⟨k', rfl⟩ : ∃ k' : Nat, c = k' := ⟨c.toNat, by omega⟩
    have k1 : ¬ (k' : Int) < 1 := by omega
    have k2 : k' ≤ n := by omega
    have HB := hid (fun (w' : World) (hl : le w w') => i_back B s x n j k' w' (hs.le hl) h1 h2 hj k2)
    obtain ⟨a, cap, y, rfl, hc, hm, hx⟩ := hs.raw h1
    unfold maxLen at hm
    have HVV := hid hvv
    clear hs hv hx hr hvv
    go_enter Try.func28, Try.ntmps28
    go_wp2_with (first | (go_at_call 18; ((with_reducible refine (HV.out _ F.below).mono ?_); rintro e w1 ⟨rfl, hl⟩; replace F := F.le hl; clear hl; have c0 := (F.row m0).cell? 0; have c1 := (F.row m0).cell? 1)) | (go_at_call 76; ((with_reducible refine (HB.out _ F.below).mono ?_); rintro e w2 ⟨y2, rfl, hy2, fy2, hl⟩; replace F := F.le hl; have HY := hid hy2; clear hl hy2)) | ((with_reducible refine at_loadU rfl rfl ?_); (with_reducible refine wpList_loadG F rfl rfl rfl m0 Try.underlying27 rfl infoRing rfl ?_)))
    go_ret2
    exact ⟨_, rfl, HY.out.trans (by rw [HVV.out]; rfl), F.below⟩
set_option maxRecDepth 100000 in
set_option maxHeartbeats 2000000 in
theorem s_ReadBack (B : Nat) (s : Value) (x : Nat → Nat) (n : Nat) (k : Int) (c : Int) (w : World) (hs : RdS w B s x n) (hk : (Lit.int .i64 k).wf = true) (v : Nat) (d : Int)
    (h : (okRing n k = false ∧ v = 0 ∧ d = 1) ∨ (okRing n k = true ∧ ¬ (1 ≤ c ∧ c ≤ n) ∧ v = 0 ∧ d = 2) ∨ (okRing n k = true ∧ (1 ≤ c ∧ c ≤ n) ∧ v = x (backJ n k.toNat c.toNat) ∧ d = 0)) :
    Calls Try.prog 27 #[.agg #[s, .int .i64 k], .int .i64 c] w (Out_fi v d w) := by
  have HV := hid (fun (w' : World) (g f : Nat) (hl : le w w') (c0 : w'.cell? ⟨g, f, none⟩ = some s) (c1 : w'.cell? ⟨g, f + 1, none⟩ = some (.int .i64 k)) => s_l02RingR B s x n k g f w' (hs.le hl) c0 c1 hk)
  have F := (Frg.nil w).box 27 #[s, .int .i64 k]
  have c0 := (F.row m0).cell? 0
  have c1 := (F.row m0).cell? 1
  clear hk
  rcases h with ⟨hv, rfl, rfl⟩ | ⟨hv, hr, rfl, rfl⟩ | ⟨hv, hr, hvv, rfl⟩
  · rw [hv] at HV
    clear hs hv
    go_enter Try.func27, Try.ntmps27
    go_wp2_with (go_at_call 67; ((with_reducible refine (HV.out _ _ 0 F.below ((F.row m0).cell? 0) ((F.row m0).cell? 1)).mono ?_); rintro e w1 ⟨rfl, rfl⟩))
    go_ret2
    exact ⟨_, rfl, by decide, F.below⟩
  · rw [hv] at HV
    obtain ⟨h1, h2, j, rfl, hj⟩ := okRing_nat hv
    obtain ⟨a, cap, y, rfl, hc, hm, hx⟩ := hs.raw h1
    unfold maxLen at hm
    have HI : Hid (∀ w, Calls Try.prog 74 #[.int .i64 c, .int .i64 1, .int .i64 n] w fun e w' => e = .returned (.bool false) ∧ w = w') := fun w => by
      have h := s_In c 1 n w
      have e : (decide (1 ≤ c) && decide (c ≤ (n : Int))) = false := by rw [Bool.eq_false_iff]; intro hh; simp at hh; exact hr hh
      rw [e] at h; exact h
    clear hs hv hx hr
    go_enter Try.func27, Try.ntmps27
    go_wp2_with (first | (go_at_call 67; ((with_reducible refine (HV.out _ _ 0 F.below ((F.row m0).cell? 0) ((F.row m0).cell? 1)).mono ?_); rintro e w1 ⟨rfl, rfl⟩)) | (go_at_call 74; refine (HI.out _).mono ?_; rintro e w' ⟨rfl, rfl⟩))
    go_ret2
    exact ⟨_, rfl, by decide, F.below⟩
  · rw [hv] at HV
    obtain ⟨h1, h2, j, rfl, hj⟩ := okRing_nat hv
    obtain ⟨k', rfl⟩ : ∃ k' : Nat, c = k' := ⟨c.toNat, by omega⟩
    have k2 : k' ≤ n := by omega
    have HI : Hid (∀ w, Calls Try.prog 74 #[.int .i64 k', .int .i64 1, .int .i64 n] w fun e w' => e = .returned (.bool true) ∧ w = w') := fun w => by
      have h := s_In k' 1 n w
      have e : (decide (1 ≤ (k' : Int)) && decide ((k' : Int) ≤ (n : Int))) = true := by simp; omega
      rw [e] at h; exact h
    have HB := hid (fun (w' : World) (g f : Nat) (hl : le w w') (c0 : w'.cell? ⟨g, f, none⟩ = some s) (c1 : w'.cell? ⟨g, f + 1, none⟩ = some (.int .i64 j)) => s_l02Back B s x n j k' g f w' (hs.le hl) c0 c1 h1 h2 hj k2)
    obtain ⟨a, cap, y, rfl, hc, hm, hx⟩ := hs.raw h1
    unfold maxLen at hm
    have HVV := hid hvv
    clear hs hv hx hr hvv
    go_enter Try.func27, Try.ntmps27
    go_wp2_with (first | (go_at_call 67; ((with_reducible refine (HV.out _ _ 0 F.below ((F.row m0).cell? 0) ((F.row m0).cell? 1)).mono ?_); rintro e w1 ⟨rfl, rfl⟩)) | (go_at_call 74; refine (HI.out _).mono ?_; rintro e w' ⟨rfl, rfl⟩) | (go_at_call 75; ((with_reducible refine (HB.out _ _ 0 F.below ((F.row m0).cell? 0) ((F.row m0).cell? 1)).mono ?_); rintro e w2 ⟨y2, rfl, hy2, fy2, hl⟩; replace F := F.le hl; have HY := hid hy2; clear hl hy2)))
    go_ret2
    exact ⟨_, rfl, HY.out.trans (by rw [HVV.out]; rfl), F.below⟩
theorem both_ReadBack (x : Nat → Nat) (n : Nat) (k : Int) (c : Int) (hk : (Lit.int .i64 k).wf = true) (_ : (Lit.int .i64 c).wf = true) : ∃ (v : Nat) (d : Int), (∀ (w : World) (B : Nat) (u : Value), RdS w B u x n → Calls Try.prog 27 #[.agg #[u, .int .i64 k], .int .i64 c] w (Out_fi v d w)) ∧ (∀ (w : World) (B : Nat) (u : Value), RdS w B u x n → Calls Try.prog 28 #[.agg #[u, .int .i64 k], .int .i64 c] w (Out_fi v d w)) := by
  have key : ∃ (v : Nat) (d : Int), (okRing n k = false ∧ v = 0 ∧ d = 1) ∨ (okRing n k = true ∧ ¬ (1 ≤ c ∧ c ≤ n) ∧ v = 0 ∧ d = 2) ∨ (okRing n k = true ∧ (1 ≤ c ∧ c ≤ n) ∧ v = x (backJ n k.toNat c.toNat) ∧ d = 0) := by
    cases hv : okRing n k
    · exact ⟨0, 1, .inl ⟨rfl, rfl, rfl⟩⟩
    · by_cases h : 1 ≤ c ∧ c ≤ n
      · exact ⟨_, 0, .inr (.inr ⟨rfl, h, rfl, rfl⟩)⟩
      · exact ⟨0, 2, .inr (.inl ⟨rfl, h, rfl, rfl⟩)⟩
  obtain ⟨v, d, h⟩ := key
  exact ⟨v, d, fun w B u hu => s_ReadBack B u x n k c w hu hk v d h, fun w B u hu => i_ReadBack B u x n k c w hu v d h⟩
end Go.Proofs.Ytaenbpkcehenkaa
