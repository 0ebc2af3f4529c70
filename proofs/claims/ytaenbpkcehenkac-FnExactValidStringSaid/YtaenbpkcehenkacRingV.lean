/- 'szRing' and 'ValidRing' of both. -/
import Derived.Test.YtaenbpkcehenkacToRing
namespace Go.Fk
open Go Go.RowKit
def okRing (n : Nat) (k : Int) : Bool := (decide (1 ≤ (n : Int)) && decide ((n : Int) ≤ 1024)) && (decide (0 ≤ k) && decide (k < (n : Int)))
end Go.Fk
namespace Go.Proofs.Ytaenbpkcehenkac
open Go.RowKit Go.Fk
theorem szRing_no (s : Value) (x : Nat → Nat) (n : Nat) (k : Int) (w : World) (hs : SlIn w s x n) (hn : ¬ n ≤ 1048576) :
    Calls Try.prog 62 #[.agg #[s, .int .i64 k], .int .i64 1048576] w fun e w' => e = .returned (.int .i64 (-1)) ∧ le w w' := by
  have HS := hid (hs.le (le_alloc w (.cells #[s, .int .i64 k] 37)))
  have HN := hid hs.small
  have HL := hid (le_alloc w (.cells #[s, .int .i64 k] 37))
  clear hs
  go_enter Try.func62, Try.ntmps62
  go_wp2_with (go_at_call 96; ((with_reducible refine (szS_no s x n 1048576 _ HS.out (by omega) (by omega) HN.out (by omega)).mono ?_); rintro e w2 ⟨rfl, rfl⟩))
  go_ret
  exact ⟨rfl, HL.out⟩
theorem szRing_yes (s : Value) (x : Nat → Nat) (n : Nat) (k : Int) (w : World) (hs : SlIn w s x n) (hn : n ≤ 1048576) :
    Calls Try.prog 62 #[.agg #[s, .int .i64 k], .int .i64 1048576] w fun e w' => e = .returned (.int .i64 (1048576 - n)) ∧ le w w' := by
  have HS := hid (hs.le (le_alloc w (.cells #[s, .int .i64 k] 37)))
  have HN := hid hs.small
  have HL := hid (le_alloc w (.cells #[s, .int .i64 k] 37))
  clear hs
  go_enter Try.func62, Try.ntmps62
  go_wp2_with (go_at_call 96; ((with_reducible refine (szS_yes s x n 1048576 _ HS.out (by omega) (by omega) HN.out (by omega)).mono ?_); rintro e w2 ⟨rfl, rfl⟩))
  go_ret
  exact ⟨rfl, HL.out⟩
set_option maxHeartbeats 2000000 in
theorem i_ValidRing (b n : Nat) (k : Int) (w : World) : Calls Try.prog 66 #[.agg #[.slice (some ⟨b, 0, none⟩) n n, .int .i64 k]] w fun e w' => e = .returned (.bool (okRing n k)) ∧ le w w' := by
  have HL := hid (le_alloc w (.cells #[.slice (some ⟨b, 0, none⟩) n n, .int .i64 k] 25))
  obtain ⟨z, hz⟩ : ∃ z, z = okRing n k := ⟨_, rfl⟩
  rw [← hz]
  unfold okRing at hz
  by_cases h1 : 1 ≤ (n : Int) <;> by_cases h2 : (n : Int) ≤ 1024 <;> by_cases h3 : 0 ≤ k <;> by_cases h4 : k < (n : Int)
  all_goals first | (exfalso; omega) | skip
  all_goals
    simp only [h1, h2, h3, h4, decide_true, decide_false, Bool.and_true, Bool.and_false, Bool.true_and, Bool.false_and] at hz
    have HZ := hid hz
    clear hz
    go_enter Try.func66, Try.ntmps66
    go_wp2
    go_ret
    exact ⟨ret_b HZ.out.symm, HL.out⟩
end Go.Proofs.Ytaenbpkcehenkac
