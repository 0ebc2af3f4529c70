/- Rings: what the laws do with them, marks and all. -/
import Derived.Test.YtaenbpkcehenkacRing
import Derived.Test.YtaenbpkcehenkacInteg
namespace Go.Fk
open Go Go.RowKit
theorem isNan_int (z : Int) : isNan .f32 (floatOfInt .f32 z) = false := by
  unfold floatOfInt
  exact isNan_encode .f32 rfl
theorem same_int (z : Int) : (FloatKind.f32.format.order (floatOfInt .f32 z) (floatOfInt .f32 z) != some .eq) = false := by
  rw [order_ne, isNan_int]
/-- What a mark leaves. -/
def markW (m : Int) (j : Nat) : Nat := floatOfInt .f32 (m + j)
end Go.Fk
namespace Go.Proofs.Ytaenbpkcehenkac
open Go.RowKit Go.Fk
set_option maxHeartbeats 1000000 in
theorem markS (b n : Nat) (t : TypeId) (x : Nat → Nat) (w : World) (hn : n ≤ 1048576) (hr : Row w b t (ftab .f32 x n)) :
    Calls Try.prog 32 #[.slice (some ⟨b, 0, none⟩) n n, .int .i64 1] w fun e w' => e = .returned (.int .i64 (1 + n)) ∧ Row w' b t (ftab .f32 (markW 1) n) ∧ Upd b w w' := by
  have HR := hid hr; clear hr
  go_enter Try.func32, Try.ntmps32
  go_wp2
  go_loopw [1, 5] (fun m i wr => ∃ k : Nat, k ≤ n ∧ i = .int .i64 k ∧ m = .int .i64 (1 + k) ∧ Hid (Row wr b t (ftab .f32 (fun j => if j < k then markW 1 j else x j) n)) ∧ Hid (Upd b w wr)) (fun _ i _ => n - (intOf i).toNat)
  case atStart => exact ⟨0, by omega, rfl, rfl, HR, Upd.refl _ _⟩
  case round =>
    obtain ⟨k, hk, rfl, rfl, HO, HU⟩ := hrel
    by_cases hlt : k < n
    · have c2 := HO.out.ftab hlt
      have f2 := HO.out.frozen k
      go_wp2
      go_roundw
      case rel =>
        refine ⟨k + 1, by omega, by go_num, by go_num, ?_, Upd.setCell HU.out rfl _⟩
        have h := HO.out.set k (.float .f32 (markW 1 k))
        rw [set_ftab] at h
        rw [show (fun j => if j < k + 1 then markW 1 j else x j) = (fun j => if j = k then markW 1 k else if j < k then markW 1 j else x j) from ?_]
        · exact h
        · funext j
          by_cases e : j = k
          · subst e; simp
          · simp [e, show (j < k + 1) = (j < k) by simp; omega]
      case measure => simp [intOf]; omega
    · obtain rfl : k = n := by omega
      have hO := HO.out
      rw [show ftab .f32 (fun j => if j < k then markW 1 j else x j) k = ftab .f32 (markW 1) k from ftab_congr (fun j hj => if_pos hj)] at hO
      have HO := hid hO
      clear hO
      go_wp2
      go_ret
      exact ⟨rfl, HO.out, HU.out⟩
set_option maxHeartbeats 1000000 in
theorem heldS (b n : Nat) (t : TypeId) (w : World) (hn : n ≤ 1048576) (hr : Row w b t (ftab .f32 (markW 1) n)) :
    Calls Try.prog 40 #[.slice (some ⟨b, 0, none⟩) n n, .int .i64 1] w fun e w' => e = .returned (.int .i64 (1 + n)) ∧ w = w' := by
  have HR := hid hr; clear hr
  go_enter Try.func40, Try.ntmps40
  go_wp2
  go_loop [1, 5] (fun m i => ∃ k : Nat, k ≤ n ∧ i = .int .i64 k ∧ m = .int .i64 (1 + k)) (fun _ i => n - (intOf i).toNat)
  case atStart => exact ⟨0, by omega, rfl, rfl⟩
  case round =>
    obtain ⟨k, hk, rfl, rfl⟩ := hrel
    by_cases hlt : k < n
    · have c2 : w.cell? ⟨b, k, none⟩ = some (.float .f32 (floatOfInt .f32 (1 + k))) := HR.out.ftab hlt
      have e2 := same_int (1 + k)
      go_wp2
      go_round
      case rel => exact ⟨k + 1, by omega, by go_num, by go_num⟩
      case measure => simp [intOf]; omega
    · obtain rfl : k = n := by omega
      go_wp2
      go_ret
      exact ⟨rfl, rfl⟩
theorem markRing_any (b n : Nat) (t : TypeId) (x : Nat → Nat) (k : Int) (w : World) (hn : n ≤ 1048576) (hr : Row w b t (ftab .f32 x n)) :
    Calls Try.prog 60 #[.agg #[.slice (some ⟨b, 0, none⟩) n n, .int .i64 k], .int .i64 1] w fun e w' => e = .returned (.int .i64 (1 + n)) ∧ Row w' b t (ftab .f32 (markW 1) n) ∧ Upd b w w' := by
  have HR := hid hr; clear hr
  go_enter Try.func60, Try.ntmps60
  go_wp2_with (go_at_call 32; ((with_reducible refine (markS b n t x _ hn (HR.out.le (le_alloc _ _))).mono ?_); rintro e w2 ⟨rfl, hR, hU⟩; have HR2 := hid hR; have HU := hid (Upd.trans (Upd.of_le (le_alloc _ _)) hU); clear hR hU))
  go_ret
  exact ⟨rfl, HR2.out, HU.out⟩
theorem heldRing_any (b n : Nat) (t : TypeId) (k : Int) (w : World) (hn : n ≤ 1048576) (hr : Row w b t (ftab .f32 (markW 1) n)) :
    Calls Try.prog 61 #[.agg #[.slice (some ⟨b, 0, none⟩) n n, .int .i64 k], .int .i64 1] w fun e w' => e = .returned (.int .i64 (1 + n)) ∧ le w w' := by
  have HR := hid hr; clear hr
  have HL := hid (le_alloc w (.cells #[.slice (some ⟨b, 0, none⟩) n n, .int .i64 k] 25))
  go_enter Try.func61, Try.ntmps61
  go_wp2_with (go_at_call 40; ((with_reducible refine (heldS b n t _ hn (HR.out.le (le_alloc _ _))).mono ?_); rintro e w2 ⟨rfl, rfl⟩))
  go_ret
  exact ⟨rfl, HL.out⟩
theorem eqRing_yes (b b' n : Nat) (t t' : TypeId) (x y : Nat → Nat) (k : Int) (w : World) (hn : n ≤ 1048576) (hr : Row w b t (ftab .f32 x n)) (hr' : Row w b' t' (ftab .f32 y n)) (h : ∀ j, j < n → can .f32 (x j) = can .f32 (y j)) :
    Calls Try.prog 58 #[.agg #[.slice (some ⟨b, 0, none⟩) n n, .int .i64 k], .agg #[.slice (some ⟨b', 0, none⟩) n n, .int .i64 k]] w fun e w' => e = .returned (.bool true) ∧ le w w' := by
  have HR := hid hr; have HR' := hid hr'; have H := hid h; clear hr hr' h
  have F := ((Frm.nil w).box 25 #[.slice (some ⟨b, 0, none⟩) n n, .int .i64 k]).box 25 #[.slice (some ⟨b', 0, none⟩) n n, .int .i64 k]
  have HL := hid F.below
  have HX := hid (fun (i : Nat) (hi : i < n) => (((HR.out.alloc (.cells #[.slice (some ⟨b, 0, none⟩) n n, .int .i64 k] 25)).alloc (.cells #[.slice (some ⟨b', 0, none⟩) n n, .int .i64 k] 25)).ftab hi))
  have HY := hid (fun (i : Nat) (hi : i < n) => (((HR'.out.alloc (.cells #[.slice (some ⟨b, 0, none⟩) n n, .int .i64 k] 25)).alloc (.cells #[.slice (some ⟨b', 0, none⟩) n n, .int .i64 k] 25)).ftab hi))
  clear F
  go_enter Try.func58, Try.ntmps58
  go_wp2_with (go_at_call 31; ((with_reducible refine (eqS_yes b 0 n b' 0 n x y n _ hn (Nat.le_refl _) (Nat.le_refl _) (fun i hi => by rw [Nat.zero_add]; exact HX.out i hi) (fun i hi => by rw [Nat.zero_add]; exact HY.out i hi) H.out).mono ?_); rintro e w2 ⟨rfl, m, rfl⟩))
  go_ret
  exact ⟨rfl, le_trans HL.out (le_drewN _ _)⟩
theorem markS_nil (w : World) : Calls Try.prog 32 #[.slice none 0 0, .int .i64 1] w fun e w' => e = .returned (.int .i64 1) ∧ w = w' := by
  go_enter Try.func32, Try.ntmps32
  go_wp2
  go_loop [1, 5] (fun m i => m = .int .i64 1 ∧ i = .int .i64 0) (fun _ _ => 0)
  case atStart => exact ⟨rfl, rfl⟩
  case round =>
    obtain ⟨rfl, rfl⟩ := hrel
    go_wp2
    go_ret
    exact ⟨rfl, rfl⟩
theorem heldS_nil (w : World) : Calls Try.prog 40 #[.slice none 0 0, .int .i64 1] w fun e w' => e = .returned (.int .i64 1) ∧ w = w' := by
  go_enter Try.func40, Try.ntmps40
  go_wp2
  go_loop [1, 5] (fun m i => m = .int .i64 1 ∧ i = .int .i64 0) (fun _ _ => 0)
  case atStart => exact ⟨rfl, rfl⟩
  case round =>
    obtain ⟨rfl, rfl⟩ := hrel
    go_wp2
    go_ret
    exact ⟨rfl, rfl⟩
theorem eqS_nil (w : World) : Calls Try.prog 31 #[.slice none 0 0, .slice none 0 0] w fun e w' => e = .returned (.bool true) ∧ w = w' := by
  go_enter Try.func31, Try.ntmps31
  go_wp2
  go_loop [5] (fun i => i = .int .i64 0) (fun _ => 0)
  case atStart => rfl
  case round =>
    obtain rfl := hrel
    go_wp2
    go_ret
    exact ⟨rfl, rfl⟩
theorem markRing_nil (k : Int) (w : World) : Calls Try.prog 60 #[.agg #[.slice none 0 0, .int .i64 k], .int .i64 1] w fun e w' => e = .returned (.int .i64 1) ∧ le w w' := by
  have HL := hid (le_alloc w (.cells #[.slice none 0 0, .int .i64 k] 25))
  go_enter Try.func60, Try.ntmps60
  go_wp2_with (go_at_call 32; ((with_reducible refine (markS_nil _).mono ?_); rintro e w2 ⟨rfl, rfl⟩))
  go_ret
  exact ⟨rfl, HL.out⟩
theorem heldRing_nil (k : Int) (w : World) : Calls Try.prog 61 #[.agg #[.slice none 0 0, .int .i64 k], .int .i64 1] w fun e w' => e = .returned (.int .i64 1) ∧ le w w' := by
  have HL := hid (le_alloc w (.cells #[.slice none 0 0, .int .i64 k] 25))
  go_enter Try.func61, Try.ntmps61
  go_wp2_with (go_at_call 40; ((with_reducible refine (heldS_nil _).mono ?_); rintro e w2 ⟨rfl, rfl⟩))
  go_ret
  exact ⟨rfl, HL.out⟩
theorem eqRing_nil (k : Int) (w : World) : Calls Try.prog 58 #[.agg #[.slice none 0 0, .int .i64 k], .agg #[.slice none 0 0, .int .i64 k]] w fun e w' => e = .returned (.bool true) ∧ le w w' := by
  have F := ((Frm.nil w).box 25 #[.slice none 0 0, .int .i64 k]).box 25 #[.slice none 0 0, .int .i64 k]
  have HL := hid F.below
  clear F
  go_enter Try.func58, Try.ntmps58
  go_wp2_with (go_at_call 31; ((with_reducible refine (eqS_nil _).mono ?_); rintro e w2 ⟨rfl, rfl⟩))
  go_ret
  exact ⟨rfl, HL.out⟩
end Go.Proofs.Ytaenbpkcehenkac
