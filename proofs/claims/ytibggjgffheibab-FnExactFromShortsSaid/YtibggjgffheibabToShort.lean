/- The contracts of 'ToShort': the product with 32768, made whole, cut to 16 bits. -/
import Derived.Test.YtibggjgffheibabInteg
import Derived.Test.YtibggjgffheibabNaN
import Derived.Handy
namespace Go.Fk
open Go Go.RowKit

def fmax (k : FloatKind) (x y : Nat) : Nat := match k.format.order x y with
  | some .lt => y
  | some .gt => x
  | some .eq => if (k.decode x).neg then y else x
  | none => x
def fmin (k : FloatKind) (x y : Nat) : Nat := match k.format.order x y with
  | some .lt => x
  | some .gt => y
  | some .eq => if (k.decode x).neg then x else y
  | none => x
theorem val_fmax {k : FloatKind} {x y : Nat} (hx : isNan k x = false) (hy : isNan k y = false) : val k (fmax k x y) = max (val k x) (val k y) ∧ isNan k (fmax k x y) = false := by
  unfold fmax
  rw [order_val hx hy]
  rcases Int.lt_trichotomy (val k x) (val k y) with h | h | h
  · rw [Int.compare_eq_lt.2 h]; exact ⟨by simp only; omega, hy⟩
  · rw [Int.compare_eq_eq.2 h]; simp only; split
    · exact ⟨by omega, hy⟩
    · exact ⟨by omega, hx⟩
  · rw [Int.compare_eq_gt.2 h]; exact ⟨by simp only; omega, hx⟩
theorem val_fmin {k : FloatKind} {x y : Nat} (hx : isNan k x = false) (hy : isNan k y = false) : val k (fmin k x y) = min (val k x) (val k y) ∧ isNan k (fmin k x y) = false := by
  unfold fmin
  rw [order_val hx hy]
  rcases Int.lt_trichotomy (val k x) (val k y) with h | h | h
  · rw [Int.compare_eq_lt.2 h]; exact ⟨by simp only; omega, hx⟩
  · rw [Int.compare_eq_eq.2 h]; simp only; split
    · exact ⟨by omega, hx⟩
    · exact ⟨by omega, hy⟩
  · rw [Int.compare_eq_gt.2 h]; exact ⟨by simp only; omega, hy⟩
section
variable {P : Program} (w : World) (ts : Array TypeId) (t : TypeId) (k : FloatKind) (x y : Nat)
@[go_sem] theorem run_max_float (hx : isNan k x = false) (hy : isNan k y = false) : (Builtin.max_ ts t #[.float k x, .float k y]).run P w = .ok (.float k (fmax k x y)) w := by
  have ho := order_val hx hy
  simp only [Builtin.max_, List.foldlM, Builtin.max2, fmax, ho]
  rcases compare (val k x) (val k y) with _ | _ | _ <;> simp
@[go_sem] theorem run_min_float (hx : isNan k x = false) (hy : isNan k y = false) : (Builtin.min_ ts t #[.float k x, .float k y]).run P w = .ok (.float k (fmin k x y)) w := by
  have ho := order_val hx hy
  simp only [Builtin.min_, List.foldlM, Builtin.min2, fmin, ho]
  rcases compare (val k x) (val k y) with _ | _ | _ <;> simp
end

/-- The units of 1. -/
def unit64 : Int := 2 ^ unitOf .f64
theorem unit64_pos : 0 < unit64 := Int.pow_pos (by omega)
theorem val_low : val .f64 13898108450065350656 = -32768 * unit64 := by decide +kernel
theorem val_high : val .f64 4674736138332667904 = 32767 * unit64 := by decide +kernel
theorem low_far : -(far : Int) < -32768 * unit64 := by decide +kernel
theorem high_far : 32767 * unit64 < (far : Int) := by decide +kernel
/-- A wide whole number, cut to 16 bits. -/
def shortOf (n : Nat) : Int := if 32767 * unit64 < val .f64 n then 32767 else if val .f64 n < -32768 * unit64 then -32768 else (val .f64 n).tdiv unit64
/-- The integer of a sample. -/
def toShort (a : Nat) : Int := if isNan .f32 a = true then 0 else shortOf (integ .even (widen (fop .mul .f32 a 1191182336)))

theorem toShort_congr {a b : Nat} (h : can .f32 a = can .f32 b) : toShort a = toShort b := by
  unfold toShort; rw [isNan_of_can h, fop_congr h rfl]

theorem shortOf_clamped (n : Nat) : (min (max (val .f64 n) (-32768 * unit64)) (32767 * unit64)).tdiv unit64 = shortOf n := by
  have hU := unit64_pos
  unfold shortOf
  generalize unit64 = U at *
  generalize val .f64 n = v at *
  split
  · rw [show min (max v (-32768 * U)) (32767 * U) = 32767 * U by omega, Int.mul_tdiv_cancel _ (by omega)]
  · split
    · rw [show min (max v (-32768 * U)) (32767 * U) = -32768 * U by omega, Int.mul_tdiv_cancel _ (by omega)]
    · rw [show min (max v (-32768 * U)) (32767 * U) = v by omega]

theorem convert_short {b : Nat} (hn : isNan .f64 b = false) (hlo : -32768 * unit64 ≤ val .f64 b) (hhi : val .f64 b ≤ 32767 * unit64) :
    floatToIntVal .f64 b .i16 = some ((val .f64 b).tdiv unit64) :=
  floatToInt_val (k := .i16) hn hlo hhi high_far low_far

theorem mul_notNan {a : Nat} (h : isNan .f32 a = false) : isNan .f32 (fop .mul .f32 a 1191182336) = false := by
  have hc : FloatKind.f32.format.read 1191182336 = .number false 8388608 (-8) := by decide
  unfold isNan at h
  have key : ∃ d : Ieee.Datum, d.isNaN = false ∧ floatBits .mul .f32 a 1191182336 = some (FloatKind.f32.encode d) := by
    cases hr : FloatKind.f32.format.read a with
    | nan s t => rw [hr] at h; simp [Ieee.Datum.isNaN] at h
    | infinity s => exact ⟨.infinity (s ^^ false), rfl, by simp only [floatBits, Ieee.Format.mul, hr, hc]; rfl⟩
    | number s m e => exact ⟨.number (s ^^ false) (m * 8388608) (e + -8), rfl, by simp only [floatBits, Ieee.Format.mul, hr, hc]; rfl⟩
  obtain ⟨d, hd, hf⟩ := key
  simp only [fop, hf, isNan_can]
  exact isNan_encode .f32 hd

def RteRes (b r : Nat) : Prop := can .f64 r = can .f64 (integ .even b) ∧ fits .f64 r
theorem short_chain {x p q n : Nat} (h : isNan .f32 x = false) (hp : can .f32 p = fop .mul .f32 x 1191182336) (hq : can .f64 q = can .f64 (widen p)) (hn : RteRes q n) :
    isNan .f64 n = false ∧ shortOf n = toShort x := by
  have h1 : can .f64 n = can .f64 (integ .even (widen (fop .mul .f32 x 1191182336))) := by
    rw [hn.1, ← integ_can, hq, integ_can, ← widen_can, hp]
  have h2 : isNan .f64 n = false := by
    rw [isNan_of_can h1, isNan_integ, isNan_widen, mul_notNan h]
  refine ⟨h2, ?_⟩
  rw [eq_of_can h1 h2]
  unfold toShort
  rw [if_neg (by simp [h])]
theorem short_nan {x p q n : Nat} (h : isNan .f32 x = true) (hp : can .f32 p = fop .mul .f32 x 1191182336) (hq : can .f64 q = can .f64 (widen p)) (hn : RteRes q n) : isNan .f64 n = true := by
  rw [isNan_of_can hn.1, isNan_integ, isNan_of_can hq, isNan_widen, isNan_of_can (hp.trans (can_fop _ _ _ _).symm)]
  unfold fop
  rw [floatBits_nan_l h]
  exact isNan_qnan .f32
end Go.Fk

namespace Go.Proofs.Ytibggjgffheibab
open Go.RowKit Go.Fk
theorem run_rte (b : Nat) (hb : fits .f64 b) (w : World) : ∃ r n, (callFunc 29 #[.float .f64 b]).run Try.prog w = .ok (.value (.float .f64 r)) (w.drewN n) ∧ RteRes b r := by
  obtain ⟨r, n, h, h2⟩ := run_integral (P := Try.prog) "math.RoundToEven" .even w b hb
  refine ⟨r, n, ?_, h2⟩
  rw [run_callFunc_extern (e := Extern.MathFloor.toIntegral "math.RoundToEven" .even) Try.func29 (by kernel_rfl) (by kernel_rfl) (by kernel_rfl) (by kernel_rfl), h]; rfl
theorem rte_any (b : Nat) (hb : Hid (fits .f64 b)) : ∀ w, ∃ r n, (callFunc 29 #[.float .f64 b]).run Try.prog w = .ok (.value (.float .f64 r)) (w.drewN n) ∧ RteRes b r := run_rte b hb
theorem i_ToShort (x : Nat) (w : World) : Calls Try.prog 13 #[.float .f32 x] w fun e w' => e = .returned (.int .i16 (toShort x)) ∧ ∃ n, w' = w.drewN n := by
  cases h : isNan .f32 x
  · have hc1 : isNan .f64 13898108450065350656 = false := by decide
    have hc2 : isNan .f64 4674736138332667904 = false := by decide
    go_enter Try.func13, Try.ntmps13
    go_wp2_with (first | (with_reducible refine wpList_farith rfl rfl rfl rfl rfl ?_; intro p n1 hp fp) | (with_reducible refine wpList_widen rfl rfl rfl Try.underlying22 Try.underlying25 ?_; intro q n2 hq fq) | (go_at_call 28; refine (i_isNaN _ _).mono ?_; rintro e w' ⟨rfl, rfl⟩) | (with_reducible refine wpList_extern rfl rfl rfl _ (rte_any _ fq) ?_))
    intro n m hn
    obtain ⟨hN, hs⟩ := short_chain h hp hq hn
    have hm := (val_fmax hN hc1).2
    have hcv : ∀ w, (convert 25 27 (.float .f64 (fmin .f64 (fmax .f64 n 13898108450065350656) 4674736138332667904))).run Try.prog w = .ok (.int .i16 (toShort x)) w := by
      intro w
      have hv := (val_fmin hm hc2).1
      rw [(val_fmax hN hc1).1, val_low, val_high] at hv
      refine run_convert_float_int (P := Try.prog) w _ _ .f64 .i16 _ _ (by rw [Try.underlying25]; rfl) Try.underlying27 ?_
      have hU := unit64_pos
      rw [convert_short (val_fmin hm hc2).2 (by rw [hv]; omega) (by rw [hv]; omega), hv, shortOf_clamped, hs]
    clear hs hn
    go_wp2
    go_ret
    exact ⟨rfl, _, rfl⟩
  · go_enter Try.func13, Try.ntmps13
    go_wp2_with (first | (with_reducible refine wpList_farith rfl rfl rfl rfl rfl ?_; intro r n hr hf) | (with_reducible refine wpList_widen rfl rfl rfl Try.underlying22 Try.underlying25 ?_; intro r n hr hf) | (go_at_call 28; refine (i_isNaN _ _).mono ?_; rintro e w' ⟨rfl, rfl⟩))
    go_ret
    exact ⟨ret_i (by unfold toShort; rw [if_pos h]), 0, rfl⟩
theorem s_l01Short (x : Nat) (w : World) : Calls Try.prog 27 #[.float .f32 x] w fun e w' => e = .returned (.int .i16 (toShort x)) ∧ ∃ n, w' = w.drewN n := by
  cases h : isNan .f32 x
  · have hc1 : isNan .f64 13898108450065350656 = false := by decide
    have hc2 : isNan .f64 4674736138332667904 = false := by decide
    go_enter Try.func27, Try.ntmps27
    go_wp2_with (first | (with_reducible refine wpList_farith rfl rfl rfl rfl rfl ?_; intro p n1 hp fp) | (with_reducible refine wpList_widen rfl rfl rfl Try.underlying22 Try.underlying25 ?_; intro q n2 hq fq) | (with_reducible refine wpList_extern rfl rfl rfl _ (rte_any _ fq) ?_))
    intro n m hn
    obtain ⟨hN, hs⟩ := short_chain h hp hq hn
    have o1 := order_val hN hc2
    have o2 := order_val hN hc1
    rw [val_high] at o1
    rw [val_low] at o2
    have hs' := hid hs.symm
    clear hs hn
    by_cases g1 : 32767 * unit64 < val .f64 n
    · rw [Int.compare_eq_gt.2 g1] at o1
      have hres := hid (show toShort x = 32767 by rw [hs'.out]; unfold shortOf; rw [if_pos g1])
      clear o2 g1 hs'
      go_wp2
      go_ret
      exact ⟨ret_i hres.out.symm, _, rfl⟩
    · have o1' : (FloatKind.f64.format.order n 4674736138332667904 == some .gt) = false := by
        rw [o1, beq_eq_false_iff_ne]; intro e; exact g1 (Int.compare_eq_gt.1 (Option.some.inj e))
      clear o1
      by_cases g2 : val .f64 n < -32768 * unit64
      · rw [Int.compare_eq_lt.2 g2] at o2
        have hres := hid (show toShort x = -32768 by rw [hs'.out]; unfold shortOf; rw [if_neg g1, if_pos g2])
        clear g1 g2 hs'
        go_wp2
        go_ret
        exact ⟨ret_i hres.out.symm, _, rfl⟩
      · have o2' : (FloatKind.f64.format.order n 13898108450065350656 == some .lt) = false := by
          rw [o2, beq_eq_false_iff_ne]; intro e; exact g2 (Int.compare_eq_lt.1 (Option.some.inj e))
        clear o2
        have hcv : ∀ w, (convert 25 27 (.float .f64 n)).run Try.prog w = .ok (.int .i16 ((val .f64 n).tdiv unit64)) w := fun w =>
          run_convert_float_int (P := Try.prog) w _ _ .f64 .i16 _ _ (by rw [Try.underlying25]; rfl) Try.underlying27 (convert_short hN (by omega) (by omega))
        have hres := hid (show toShort x = (val .f64 n).tdiv unit64 by rw [hs'.out]; unfold shortOf; rw [if_neg g1, if_neg g2])
        clear g1 g2 hs'
        go_wp2
        go_ret
        exact ⟨ret_i hres.out.symm, _, rfl⟩
  · go_enter Try.func27, Try.ntmps27
    go_wp2_with (first | (with_reducible refine wpList_farith rfl rfl rfl rfl rfl ?_; intro p n1 hp fp) | (with_reducible refine wpList_widen rfl rfl rfl Try.underlying22 Try.underlying25 ?_; intro q n2 hq fq) | (with_reducible refine wpList_extern rfl rfl rfl _ (rte_any _ fq) ?_))
    intro n m hn
    have hN := short_nan h hp hq hn
    go_wp2
    go_ret
    exact ⟨ret_i (by unfold toShort; rw [if_pos h]), _, rfl⟩
theorem s_ToShort (x : Nat) (w : World) : Calls Try.prog 12 #[.float .f32 x] w fun e w' => e = .returned (.int .i16 (toShort x)) ∧ ∃ n, w' = w.drewN n := by
  go_enter Try.func12, Try.ntmps12
  go_wp2_with (go_at_call 27; refine (s_l01Short _ _).mono ?_; rintro e w' ⟨rfl, n, rfl⟩)
  go_ret
  exact ⟨rfl, _, rfl⟩
end Go.Proofs.Ytibggjgffheibab
