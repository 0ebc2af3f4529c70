/- What a state keeps of a number; is a number finite? -/
import Derived.Test.YtaenbpkcehenkacFlush
import Derived.Test.YtaenbpkcehenkacNaN
import Derived.Test.YtaenbpkcehenkacFin
namespace Go.Fk
open Go Go.RowKit
theorem fin_bits (x : Nat) : fin x = decide (x % 2147483648 < 2139095040) := by
  have e1 : Ieee.single.signWeight = 2147483648 := by decide
  have e2 : Ieee.single.infRung = 2139095040 := by decide
  have e3 : Ieee.single.binade = 8388608 := by decide
  have e4 : Ieee.single.leastPlace = -149 := by decide
  simp only [fin, FloatKind.format, Ieee.Format.read, e1, e2, e3, e4]
  split
  · rename_i s m e h
    split at h
    · simp; omega
    · split at h
      · simp; omega
      · split at h <;> cases h
  · rename_i h
    split at h
    · exact absurd rfl (h _ _ _)
    · split at h
      · exact absurd rfl (h _ _ _)
      · simp; omega
theorem and_exp255 (x : Nat) (hx : x < 4294967296) : ((x &&& 2139095040) = 2139095040) ↔ ¬ x % 2147483648 < 2139095040 := by
  have e : x &&& 2139095040 = (x >>> 23 &&& 255) <<< 23 := by
    rw [Nat.shiftLeft_and_distrib]
    apply Nat.eq_of_testBit_eq
    intro i
    simp only [Nat.testBit_and, Nat.testBit_shiftLeft, Nat.testBit_shiftRight]
    by_cases hi : 23 ≤ i
    · simp only [hi, decide_true, Bool.true_and, show 23 + (i - 23) = i by omega]
      congr 1
      rw [show (2139095040 : Nat) = 255 <<< 23 by decide, Nat.testBit_shiftLeft]
      simp [hi]
    · simp only [hi, decide_false, Bool.false_and]
      rw [show (2139095040 : Nat) = 255 <<< 23 by decide, Nat.testBit_shiftLeft]
      simp [hi]
  rw [e, show (255 : Nat) = 2 ^ 8 - 1 by decide, Nat.and_two_pow_sub_one_eq_mod, Nat.shiftLeft_eq, Nat.shiftRight_eq_div_pow]
  omega
theorem exp_full {x : Nat} (hx : x < 4294967296) : (bits .and .u32 (x : Int) 2139095040 == 2139095040) = !fin x := by
  rw [bits_and_exp x hx, fin_bits]
  have h := and_exp255 x hx
  by_cases c : x % 2147483648 < 2139095040
  · have : ¬ (x &&& 2139095040) = 2139095040 := fun e => (h.1 e) c
    simp only [c, decide_true, Bool.not_true, beq_eq_false_iff_ne]
    intro e
    exact this (Int.ofNat_inj.1 e)
  · simp only [c, decide_false, Bool.not_false, beq_iff_eq]
    rw [h.2 c]; rfl
/-- What a state keeps. -/
def kept (v : Nat) : Nat := if fin v = true then flush v else 0
theorem fin_can {a b : Nat} (h : can .f32 a = can .f32 b) : fin a = fin b := by
  cases hn : isNan .f32 a
  · rw [eq_of_can h hn]
  · have hm := (isNan_of_can h).symm.trans hn
    obtain ⟨s, t, h1⟩ := read_nan hn
    obtain ⟨s', t', h2⟩ := read_nan hm
    simp [fin, h1, h2]
theorem fin_num {a : Nat} (h : fin a = true) : isNan .f32 a = false := by
  cases hr : FloatKind.f32.format.read a with
  | nan s t => simp [fin, hr] at h
  | infinity s => simp [fin, hr] at h
  | number s m e => simp [isNan, hr, Ieee.Datum.isNaN]
theorem kept_can {a b : Nat} (h : can .f32 a = can .f32 b) : kept a = kept b := by
  unfold kept
  rw [← fin_can h]
  split
  · rename_i hf
    rw [eq_of_can h (fin_num hf)]
  · rfl
theorem fits_kept {b : Nat} (h : fits .f32 b) : fits .f32 (kept b) := by
  unfold kept; split
  · exact fits_flush h
  · simp [fits, Lit.wf]
theorem same0_fin {v : Nat} (h : sameB v 0 = true) : fin v = true := by
  have e : can .f32 v = can .f32 0 := by
    simp only [sameB, beq_iff_eq] at h
    exact_mod_cast h
  rw [fin_can e]; decide
end Go.Fk
namespace Go.Proofs.Ytaenbpkcehenkac
open Go.RowKit Go.Fk
theorem i_isFinite (x : Nat) (w : World) (hx : fits .f32 x) : Calls Try.prog 68 #[.float .f32 x] w fun e w' => e = .returned (.bool (fin x)) ∧ w = w' := by
  have hz := exp_full (fits32 hx)
  go_enter Try.func68, Try.ntmps68
  go_wp2
  go_ret
  refine ⟨ret_b ?_, rfl⟩
  rw [bne, hz, Bool.not_not]
theorem i_kept (x : Nat) (w : World) (hx : fits .f32 x) : Calls Try.prog 119 #[.float .f32 x] w fun e w' => e = .returned (.float .f32 (kept x)) ∧ w = w' := by
  cases h : fin x
  all_goals
    go_enter Try.func119, Try.ntmps119
    go_wp2_with (first | (go_at_call 68; refine (i_isFinite _ _ hx).mono ?_; rintro e w' ⟨rfl, rfl⟩) | (go_at_call 126; refine (i_FlushSample _ _ hx).mono ?_; rintro e w' ⟨rfl, rfl⟩))
    go_ret
    exact ⟨ret_f (by simp [kept, h]), rfl⟩
theorem s_Kept (x : Nat) (w : World) (hx : fits .f32 x) : Calls Try.prog 114 #[.float .f32 x] w fun e w' => e = .returned (.float .f32 (kept x)) ∧ ∃ n, w' = w.drewN n := by
  cases h : fin x
  all_goals
    go_enter Try.func114, Try.ntmps114
    go_wp2_with (first | (go_at_call 75; refine (s_l01Finite _ _).mono ?_; rintro e w' ⟨rfl, n0, rfl⟩) | (go_at_call 125; refine (s_l01Flush _ _ hx).mono ?_; rintro e w' ⟨rfl, rfl⟩))
    go_ret
    exact ⟨ret_f (by simp [kept, h]), _, rfl⟩
end Go.Proofs.Ytaenbpkcehenkac
