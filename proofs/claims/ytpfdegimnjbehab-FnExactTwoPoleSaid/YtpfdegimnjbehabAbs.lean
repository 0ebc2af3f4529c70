/- What math.Float64bits, math.Float64frombits and math.Abs give. -/
import Derived.Test.YtpfdegimnjbehabRows
import Derived.Test.YtpfdegimnjbehabFlt
import Derived.Laws.BitsAllLaws
import Derived.Handy
namespace Go.Fk
open Go Go.RowKit
theorem andNot_sign (x : Nat) (hx : fits .f64 x) : (bits .andNot .u64 (x : Int) 9223372036854775808).toNat = x % 9223372036854775808 := by
  have h : x < 18446744073709551616 := by simp only [fits, Lit.wf, decide_eq_true_eq] at hx; omega
  have h1 := u64_andNot_nat x 9223372036854775808 (by omega) (by omega)
  rw [show ((9223372036854775808 : Nat) : Int) = 9223372036854775808 by rfl] at h1
  rw [h1, Int.toNat_natCast]
  exact Nat.and_two_pow_sub_one_eq_mod x 63
end Go.Fk
namespace Go.Proofs.Ytpfdegimnjbehab
open Go.RowKit Go.Fk
@[go_sem] theorem run_f64bits (x : Nat) (w : World) : (callFunc 83 #[.float .f64 x]).run Try.prog w = .ok (.value (.int .u64 x)) w := by
  rw [run_callFunc_extern (e := Extern.MathFloatBits.float64bits) Try.func83 (by kernel_rfl) (by kernel_rfl) (by kernel_rfl) (by kernel_rfl)]; rfl
@[go_sem] theorem run_f64from (x : Int) (w : World) : (callFunc 78 #[.int .u64 x]).run Try.prog w = .ok (.value (.float .f64 x.toNat)) w := by
  rw [run_callFunc_extern (e := Extern.MathFloatBits.float64frombits) Try.func78 (by kernel_rfl) (by kernel_rfl) (by kernel_rfl) (by kernel_rfl)]; rfl
theorem abs64 (x : Nat) (w : World) (hx : fits .f64 x) : Calls Try.prog 81 #[.float .f64 x] w fun e w' => e = .returned (.float .f64 (x % 9223372036854775808)) ∧ w = w' := by
  have hn := andNot_sign x hx
  go_enter Try.func81, Try.ntmps81
  go_wp2
  go_ret
  exact ⟨rfl, rfl⟩
end Go.Proofs.Ytpfdegimnjbehab
