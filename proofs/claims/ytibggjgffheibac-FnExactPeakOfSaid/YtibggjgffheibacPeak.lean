/- The contracts of 'PeakOf'. -/
import Derived.Test.YtibggjgffheibacBlk
import Derived.Test.YtibggjgffheibacExact
import Derived.Test.YtibggjgffheibacFlush
import Derived.Test.YtibggjgffheibacDot
import Derived.Laws.BitsAllLaws
namespace Go.Fk
open Go Go.RowKit
/-- The greatest size among the first k. -/
def peakW (x : Nat → Nat) : Nat → Nat
  | 0 => 0
  | k + 1 => if (FloatKind.f32.format.order (x k % 2147483648) (peakW x k) == some .gt) = true then x k % 2147483648 else peakW x k
theorem peakW_up {x : Nat → Nat} {k : Nat} (h : (FloatKind.f32.format.order (x k % 2147483648) (peakW x k) == some .gt) = true) : peakW x (k + 1) = x k % 2147483648 := if_pos h
theorem peakW_stay {x : Nat → Nat} {k : Nat} (h : (FloatKind.f32.format.order (x k % 2147483648) (peakW x k) == some .gt) = false) : peakW x (k + 1) = peakW x k := if_neg (by rw [h]; simp)
theorem notNan_of_gt {a b : Nat} (h : (FloatKind.f32.format.order a b == some .gt) = true) : isNan .f32 a = false := by
  cases hn : isNan .f32 a
  · rfl
  · rw [order_of_nan_l hn] at h; cases h
theorem peakW_num (x : Nat → Nat) (k : Nat) : isNan .f32 (peakW x k) = false := by
  induction k with
  | zero => show isNan .f32 0 = false; decide
  | succ k ih =>
    cases h : (FloatKind.f32.format.order (x k % 2147483648) (peakW x k) == some .gt)
    · rw [peakW_stay h]; exact ih
    · rw [peakW_up h]; exact notNan_of_gt h
theorem andNot_sign (x : Nat) (hx : fits .f64 x) : (bits .andNot .u64 (x : Int) 9223372036854775808).toNat = x % 9223372036854775808 := by
  have h : x < 18446744073709551616 := by simp only [fits, Lit.wf, decide_eq_true_eq] at hx; omega
  have h1 := u64_andNot_nat x 9223372036854775808 (by omega) (by omega)
  rw [show ((9223372036854775808 : Nat) : Int) = 9223372036854775808 by rfl] at h1
  rw [h1, Int.toNat_natCast]
  exact Nat.and_two_pow_sub_one_eq_mod x 63
end Go.Fk
namespace Go.Proofs.Ytibggjgffheibac
open Go.RowKit Go.Fk
@[go_sem] theorem run_f64bits (x : Nat) (w : World) : (callFunc 31 #[.float .f64 x]).run Try.prog w = .ok (.value (.int .u64 x)) w := by
  rw [run_callFunc_extern (e := Extern.MathFloatBits.float64bits) Try.func31 (by kernel_rfl) (by kernel_rfl) (by kernel_rfl) (by kernel_rfl)]; rfl
@[go_sem] theorem run_f64from (x : Int) (w : World) : (callFunc 30 #[.int .u64 x]).run Try.prog w = .ok (.value (.float .f64 x.toNat)) w := by
  rw [run_callFunc_extern (e := Extern.MathFloatBits.float64frombits) Try.func30 (by kernel_rfl) (by kernel_rfl) (by kernel_rfl) (by kernel_rfl)]; rfl
theorem abs64 (x : Nat) (w : World) (hx : fits .f64 x) : Calls Try.prog 27 #[.float .f64 x] w fun e w' => e = .returned (.float .f64 (x % 9223372036854775808)) ∧ w = w' := by
  have hn := andNot_sign x hx
  go_enter Try.func27, Try.ntmps27
  go_wp2
  go_ret
  exact ⟨rfl, rfl⟩
theorem s_PeakOf (x : Nat → Nat) (w : World) (hx : Hid (∀ j, j < 16 → fits .f32 (x j))) : Calls Try.prog 21 #[.agg (ftab .f32 x 16)] w (OutF (peakW x 16) w) := by
  go_enter Try.func21, Try.ntmps21
  go_wp2
  go_loopw [3, 4] (fun sv i wr => ∃ k : Nat, k ≤ 16 ∧ i = .int .i64 k ∧ sv = .float .f32 (peakW x k) ∧ Row wr w.heap.size 25 (ftab .f32 x 16) ∧ Below w.heap.size w wr) (fun _ i _ => 16 - (intOf i).toNat)
  case atStart =>
    exact ⟨0, by omega, rfl, rfl, Row.new w _ _, by repeat' (first | (with_reducible exact Below.refl _ _) | (with_reducible assumption) | (with_reducible refine below_drewN ?_ _) | (with_reducible refine Below.alloc ?_ ?_ _) | (with_reducible refine Below.drew ?_) | (with_reducible refine Below.setCell ?_ ?_ _) | go_size)⟩
  case round =>
    obtain ⟨k, hk, rfl, rfl, hA, hb⟩ := hrel
    by_cases hlt : k < 16
    · have c1 := hA.ftab hlt
      have HA := hid hA; clear hA
      have hfit := hid (hx.out k hlt)
      generalize hpk : peakW x k = pk
      have Hpk := hid hpk; clear hpk
      cases ho : (FloatKind.f32.format.order (x k % 2147483648) pk == some .gt)
      · have Ho := hid ho
        go_wp2_with (go_at_call 26; refine (s_l01Abs _ _ hfit.out).mono ?_; rintro e w' ⟨rfl, rfl⟩)
        go_roundw
        case rel =>
          exact ⟨k + 1, by omega, by go_num, by rw [peakW_stay (by rw [Hpk.out]; exact Ho.out), Hpk.out], HA.out, hb⟩
        case measure => simp [intOf]; omega
      · have Ho := hid ho
        go_wp2_with (go_at_call 26; refine (s_l01Abs _ _ hfit.out).mono ?_; rintro e w' ⟨rfl, rfl⟩)
        go_roundw
        case rel =>
          exact ⟨k + 1, by omega, by go_num, by rw [peakW_up (by rw [Hpk.out]; exact Ho.out)], HA.out, hb⟩
        case measure => simp [intOf]; omega
    · obtain rfl : k = 16 := by omega
      have HA := hid hA; clear hA
      go_wp2
      go_ret
      exact ⟨_, rfl, can_of_not (peakW_num x 16), hb⟩
theorem i_PeakOf (x : Nat → Nat) (w : World) (hx : Hid (∀ j, j < 16 → fits .f32 (x j))) : Calls Try.prog 22 #[.agg (ftab .f32 x 16)] w (OutF (peakW x 16) w) := by
  have hsz : (Try.prog.info? 25).map (·.size) = some (ftab .f32 x 16).size := by rw [size_ftab]; exact infoBlk
  go_enter Try.func22, Try.ntmps22
  go_wp2_with (with_reducible refine wpList_loadA rfl rfl rfl (Row.new w _ _) Try.underlying25 hsz ?_)
  clear hsz
  go_loopw [3, 8] (fun sv i wr => ∃ k : Nat, k ≤ 16 ∧ i = .int .i64 k ∧ sv = .float .f32 (peakW x k) ∧ Row wr w.heap.size 25 (ftab .f32 x 16) ∧ Below w.heap.size w wr) (fun _ i _ => 16 - (intOf i).toNat)
  case atStart =>
    exact ⟨0, by omega, rfl, rfl, Row.new w _ _, by repeat' (first | (with_reducible exact Below.refl _ _) | (with_reducible assumption) | (with_reducible refine below_drewN ?_ _) | (with_reducible refine Below.alloc ?_ ?_ _) | (with_reducible refine Below.drew ?_) | (with_reducible refine Below.setCell ?_ ?_ _) | go_size)⟩
  case round =>
    obtain ⟨k, hk, rfl, rfl, hA, hb⟩ := hrel
    by_cases hlt : k < 16
    · have hidx := fun w' => run_index_arr (P := Try.prog) w' Try.underlying25 Try.underlying22 (by kernel_rfl) hlt (get_ftab .f32 x 16 k hlt) .i64
      have HA := hid hA; clear hA
      generalize hpk : peakW x k = pk
      have Hpk := hid hpk; clear hpk
      go_wp2_with (first | (with_reducible refine wpList_widen rfl rfl rfl Try.underlying22 Try.underlying38 ?_; intro s1 n1 h1 f1) | (go_at_call 27; refine (abs64 _ _ (Hid.out (by assumption))).mono ?_; rintro e w' ⟨rfl, rfl⟩; have ha := narrow_abs (Hid.out (by assumption)); have ha1 := hid ha.1; have ha2 := hid ha.2; clear ha) | (with_reducible refine wpList_narrowX rfl rfl rfl Try.underlying38 Try.underlying22 (Hid.out (by assumption)) ?_; intro r n hr hf))
      all_goals
        have hsize := hid ((hr.out).trans ha2.out)
        have ho := ‹(FloatKind.f32.format.order r pk == some .gt) = _›
        have ho2 : FloatKind.f32.format.order r pk = FloatKind.f32.format.order (x k % 2147483648) pk := order_congr hsize.out rfl
        go_roundw
        case measure => simp [intOf]; omega
      case rel =>
        refine ⟨k + 1, by omega, by go_num, ?_, HA.out.drewN _, below_drewN hb _⟩
        first
        | rw [peakW_stay (by rw [Hpk.out, ← ho2]; exact ho), Hpk.out]
        | rw [peakW_up (by rw [Hpk.out, ← ho2]; exact ho), eq_of_can hsize.out (notNan_of_gt ho)]
      case rel =>
        refine ⟨k + 1, by omega, by go_num, ?_, HA.out.drewN _, below_drewN hb _⟩
        first
        | rw [peakW_stay (by rw [Hpk.out, ← ho2]; exact ho), Hpk.out]
        | rw [peakW_up (by rw [Hpk.out, ← ho2]; exact ho), eq_of_can hsize.out (notNan_of_gt ho)]
    · obtain rfl : k = 16 := by omega
      have HA := hid hA; clear hA
      go_wp2
      go_ret
      exact ⟨_, rfl, can_of_not (peakW_num x 16), hb⟩
end Go.Proofs.Ytibggjgffheibac
