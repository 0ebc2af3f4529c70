/- Texts of the walk, laid in one file. -/
import Derived.Test.YtnkjmgadnejdlaaMe
set_option linter.unusedVariables false
set_option linter.unusedSimpArgs false
/- A walk of 'l04Same'. -/
namespace Go.Proofs.Ytnkjmgadnejdlaa
open Go.RowKit Go.Fk
set_option maxRecDepth 100000 in
set_option maxHeartbeats 4000000 in
theorem l04SameW4 (g g' : Nat) (v0 v1 v2 v0Z v1Z v2Z : Value) (k : Int) (a b c x y : Nat) (op : Bool) (l r s : Nat) (kZ : Int) (aZ bZ cZ xZ yZ : Nat) (opZ : Bool) (lZ rZ sZ : Nat) (w : World) (hRw : Hid (∀ (w' : World), le w w' → Row w' g 36 #[v0, v1, v2, .int .i64 k, .float .f32 a, .float .f32 b, .float .f32 c, .float .f32 x, .float .f32 y, .bool op, .float .f32 l, .float .f32 r, .float .f32 s])) (hRz : Hid (∀ (w' : World), le w w' → Row w' g' 36 #[v0Z, v1Z, v2Z, .int .i64 kZ, .float .f32 aZ, .float .f32 bZ, .float .f32 cZ, .float .f32 xZ, .float .f32 yZ, .bool opZ, .float .f32 lZ, .float .f32 rZ, .float .f32 sZ]))
    (HR : Hid (∀ (w' : World), le w w' → Calls Try.prog 52 #[v0, v0Z] w' fun e w'' => e = .returned (.bool true) ∧ le w' w'')) (HL : Hid (∀ (w' : World), le w w' → Calls Try.prog 52 #[v1, v1Z] w' fun e w'' => e = .returned (.bool true) ∧ le w' w''))
    (HS : Hid (∀ (w' : World), le w w' → Calls Try.prog 53 #[v2, v2Z] w' fun e w'' => e = .returned (.bool true) ∧ ∃ n, w'' = w'.drewN n)) (HF : Hid (∀ (w' : World), le w w' → Calls Try.prog 54 #[.pointer (some ⟨g, 3, none⟩), .pointer (some ⟨g', 3, none⟩)] w' fun e w'' => e = .returned (.bool true) ∧ ∃ n, w'' = w'.drewN n)) (AG : v0 = v1 → v0Z = v1Z → true = true) (t4 : (op == opZ) = false) : Calls Try.prog 22 #[.pointer (some ⟨g, 0, none⟩), .pointer (some ⟨g', 0, none⟩)] w (Out_b false w) := by
  have hop : op = !opZ := by cases op <;> cases opZ <;> simp at t4 ⊢
  clear t4
  subst hop
  cases opZ
  all_goals
    simp only [Bool.not_true, Bool.not_false] at *
    go_enter Try.func22, Try.ntmps22
    go_wp2_with fail
    refine region_freeD (E := leX) (fun f args _ v => if f = 52 then (args = #[v0, v0Z] → v = .bool true) ∧ (args = #[v1, v1Z] → v = .bool true) else if f = 53 then v = .bool true else if f = 54 then v = .bool true else ∀ p q, args = #[.float .f32 p, .float .f32 q] → v = .bool (sameB p q)) (by kernel_rfl) (by kernel_rfl) ?_
    refine wpFreeD_one rfl (.pointer (some ⟨g, 0, none⟩)) (fun w1 _ => by kernel_rfl) ?_
    simp only [Act.put, List.setIfInBounds_toArray, List.set_cons_succ, List.set_cons_zero]
    refine wpFreeD_one rfl (.pointer (some ⟨g, 0, none⟩)) (fun w1 _ => by kernel_rfl) ?_
    simp only [Act.put, List.setIfInBounds_toArray, List.set_cons_succ, List.set_cons_zero]
    refine wpFreeD_one rfl (.pointer (some ⟨g, 0, none⟩)) (fun w1 _ => by kernel_rfl) ?_
    simp only [Act.put, List.setIfInBounds_toArray, List.set_cons_succ, List.set_cons_zero]
    refine wpFreeD_load1 rfl rfl rfl (p := ⟨g, 0, none⟩) (v := v0) (fun w1 h1 => (hRw.out w1 (le_trans (le_drewN _ _) h1)).cell? 0) ukindRingSI ?_
    simp only [Act.put, List.setIfInBounds_toArray, List.set_cons_succ, List.set_cons_zero]
    refine wpFreeD_one rfl (.pointer (some ⟨g', 0, none⟩)) (fun w1 _ => by kernel_rfl) ?_
    simp only [Act.put, List.setIfInBounds_toArray, List.set_cons_succ, List.set_cons_zero]
    refine wpFreeD_one rfl (.pointer (some ⟨g', 0, none⟩)) (fun w1 _ => by kernel_rfl) ?_
    simp only [Act.put, List.setIfInBounds_toArray, List.set_cons_succ, List.set_cons_zero]
    refine wpFreeD_one rfl (.pointer (some ⟨g', 0, none⟩)) (fun w1 _ => by kernel_rfl) ?_
    simp only [Act.put, List.setIfInBounds_toArray, List.set_cons_succ, List.set_cons_zero]
    refine wpFreeD_load1 rfl rfl rfl (p := ⟨g', 0, none⟩) (v := v0Z) (fun w1 h1 => (hRz.out w1 (le_trans (le_drewN _ _) h1)).cell? 0) ukindRingSI ?_
    simp only [Act.put, List.setIfInBounds_toArray, List.set_cons_succ, List.set_cons_zero]
    refine wpFreeD_callW (by kernel_rfl) rfl Try.func52 (by kernel_rfl) (by kernel_rfl) (args := #[v0, v0Z]) (by simp [Act.eval]) (fun v w1 w2 hw hv => hv) (fun w1 hw1 _ => (HR.out w1 (le_trans (le_drewN _ _) hw1)).mono ?_) ?_
    · rintro e w2 ⟨rfl, hl⟩
      exact ⟨_, rfl, hl, by simp only [if_true]; exact ⟨fun _ => by first | rfl | trivial, fun h => by first | rfl | trivial | (simp only [Array.mk.injEq, List.cons.injEq, and_true] at h; have h9 := AG h.1 h.2; rw [h9])⟩⟩
    rintro v ⟨_, _, _, hv⟩
    simp only [if_true] at hv
    obtain rfl := hv.1 (by first | rfl | trivial)
    simp only [Act.put, List.setIfInBounds_toArray, List.set_cons_succ, List.set_cons_zero]
    refine wpFreeD_one rfl (.bool true) (fun w1 _ => by kernel_rfl) ?_
    simp only [Act.put, List.setIfInBounds_toArray, List.set_cons_succ, List.set_cons_zero]
    refine wpFreeD_oneW (by kernel_rfl) (.pointer (some ⟨g, 0, none⟩)) (fun w1 _ => by kernel_rfl) ?_
    simp only [Act.put, List.setIfInBounds_toArray, List.set_cons_succ, List.set_cons_zero]
    refine wpFreeD_oneW (by kernel_rfl) (.pointer (some ⟨g, 0, none⟩)) (fun w1 _ => by kernel_rfl) ?_
    simp only [Act.put, List.setIfInBounds_toArray, List.set_cons_succ, List.set_cons_zero]
    refine wpFreeD_oneW (by kernel_rfl) (.pointer (some ⟨g, 1, none⟩)) (fun w1 _ => by kernel_rfl) ?_
    simp only [Act.put, List.setIfInBounds_toArray, List.set_cons_succ, List.set_cons_zero]
    refine wpFreeD_load1W (by kernel_rfl) rfl rfl (p := ⟨g, 1, none⟩) (v := v1) (fun w1 h1 => (hRw.out w1 (le_trans (le_drewN _ _) h1)).cell? 1) ukindRingSI ?_
    simp only [Act.put, List.setIfInBounds_toArray, List.set_cons_succ, List.set_cons_zero]
    refine wpFreeD_oneW (by kernel_rfl) (.pointer (some ⟨g', 0, none⟩)) (fun w1 _ => by kernel_rfl) ?_
    simp only [Act.put, List.setIfInBounds_toArray, List.set_cons_succ, List.set_cons_zero]
    refine wpFreeD_oneW (by kernel_rfl) (.pointer (some ⟨g', 0, none⟩)) (fun w1 _ => by kernel_rfl) ?_
    simp only [Act.put, List.setIfInBounds_toArray, List.set_cons_succ, List.set_cons_zero]
    refine wpFreeD_oneW (by kernel_rfl) (.pointer (some ⟨g', 1, none⟩)) (fun w1 _ => by kernel_rfl) ?_
    simp only [Act.put, List.setIfInBounds_toArray, List.set_cons_succ, List.set_cons_zero]
    refine wpFreeD_load1W (by kernel_rfl) rfl rfl (p := ⟨g', 1, none⟩) (v := v1Z) (fun w1 h1 => (hRz.out w1 (le_trans (le_drewN _ _) h1)).cell? 1) ukindRingSI ?_
    simp only [Act.put, List.setIfInBounds_toArray, List.set_cons_succ, List.set_cons_zero]
    refine wpFreeD_callW (by kernel_rfl) rfl Try.func52 (by kernel_rfl) (by kernel_rfl) (args := #[v1, v1Z]) (by simp [Act.eval]) (fun v w1 w2 hw hv => hv) (fun w1 hw1 _ => (HL.out w1 (le_trans (le_drewN _ _) hw1)).mono ?_) ?_
    · rintro e w2 ⟨rfl, hl⟩
      exact ⟨_, rfl, hl, by simp only [if_true]; exact ⟨fun h => by first | rfl | trivial | (simp only [Array.mk.injEq, List.cons.injEq, and_true] at h; have h9 := AG h.1.symm h.2.symm; rw [h9]), fun _ => by first | rfl | trivial⟩⟩
    rintro v ⟨_, _, _, hv⟩
    simp only [if_true] at hv
    obtain rfl := hv.2 (by first | rfl | trivial)
    simp only [Act.put, List.setIfInBounds_toArray, List.set_cons_succ, List.set_cons_zero]
    refine wpFreeD_one rfl (.bool true) (fun w1 _ => by kernel_rfl) ?_
    simp only [Act.put, List.setIfInBounds_toArray, List.set_cons_succ, List.set_cons_zero]
    refine wpFreeD_one rfl (.bool true) (fun w1 _ => by kernel_rfl) ?_
    simp only [Act.put, List.setIfInBounds_toArray, List.set_cons_succ, List.set_cons_zero]
    refine wpFreeD_oneW (by kernel_rfl) (.pointer (some ⟨g, 0, none⟩)) (fun w1 _ => by kernel_rfl) ?_
    simp only [Act.put, List.setIfInBounds_toArray, List.set_cons_succ, List.set_cons_zero]
    refine wpFreeD_oneW (by kernel_rfl) (.pointer (some ⟨g, 0, none⟩)) (fun w1 _ => by kernel_rfl) ?_
    simp only [Act.put, List.setIfInBounds_toArray, List.set_cons_succ, List.set_cons_zero]
    refine wpFreeD_oneW (by kernel_rfl) (.pointer (some ⟨g, 2, none⟩)) (fun w1 _ => by kernel_rfl) ?_
    simp only [Act.put, List.setIfInBounds_toArray, List.set_cons_succ, List.set_cons_zero]
    refine wpFreeD_load1W (by kernel_rfl) rfl rfl (p := ⟨g, 2, none⟩) (v := v2) (fun w1 h1 => (hRw.out w1 (le_trans (le_drewN _ _) h1)).cell? 2) ukindFloat32S ?_
    simp only [Act.put, List.setIfInBounds_toArray, List.set_cons_succ, List.set_cons_zero]
    refine wpFreeD_oneW (by kernel_rfl) (.pointer (some ⟨g', 0, none⟩)) (fun w1 _ => by kernel_rfl) ?_
    simp only [Act.put, List.setIfInBounds_toArray, List.set_cons_succ, List.set_cons_zero]
    refine wpFreeD_oneW (by kernel_rfl) (.pointer (some ⟨g', 0, none⟩)) (fun w1 _ => by kernel_rfl) ?_
    simp only [Act.put, List.setIfInBounds_toArray, List.set_cons_succ, List.set_cons_zero]
    refine wpFreeD_oneW (by kernel_rfl) (.pointer (some ⟨g', 2, none⟩)) (fun w1 _ => by kernel_rfl) ?_
    simp only [Act.put, List.setIfInBounds_toArray, List.set_cons_succ, List.set_cons_zero]
    refine wpFreeD_load1W (by kernel_rfl) rfl rfl (p := ⟨g', 2, none⟩) (v := v2Z) (fun w1 h1 => (hRz.out w1 (le_trans (le_drewN _ _) h1)).cell? 2) ukindFloat32S ?_
    simp only [Act.put, List.setIfInBounds_toArray, List.set_cons_succ, List.set_cons_zero]
    refine wpFreeD_callW (by kernel_rfl) rfl Try.func53 (by kernel_rfl) (by kernel_rfl) (args := #[v2, v2Z]) (by simp [Act.eval]) (fun v w1 w2 hw hv => hv) (fun w1 hw1 _ => (HS.out w1 (le_trans (le_drewN _ _) hw1)).mono ?_) ?_
    · rintro e w2 ⟨rfl, q9, rfl⟩
      exact ⟨_, rfl, le_drewN _ _, by simp only [show ¬ (53 = 52) by decide, if_false, if_true]⟩
    rintro v ⟨_, _, _, hv⟩
    simp only [show ¬ (53 = 52) by decide, if_false, if_true] at hv
    subst hv
    simp only [Act.put, List.setIfInBounds_toArray, List.set_cons_succ, List.set_cons_zero]
    refine wpFreeD_one rfl (.bool true) (fun w1 _ => by kernel_rfl) ?_
    simp only [Act.put, List.setIfInBounds_toArray, List.set_cons_succ, List.set_cons_zero]
    refine wpFreeD_one rfl (.bool true) (fun w1 _ => by kernel_rfl) ?_
    simp only [Act.put, List.setIfInBounds_toArray, List.set_cons_succ, List.set_cons_zero]
    refine wpFreeD_oneW (by kernel_rfl) (.pointer (some ⟨g, 0, none⟩)) (fun w1 _ => by kernel_rfl) ?_
    simp only [Act.put, List.setIfInBounds_toArray, List.set_cons_succ, List.set_cons_zero]
    refine wpFreeD_oneW (by kernel_rfl) (.pointer (some ⟨g, 0, none⟩)) (fun w1 _ => by kernel_rfl) ?_
    simp only [Act.put, List.setIfInBounds_toArray, List.set_cons_succ, List.set_cons_zero]
    refine wpFreeD_oneW (by kernel_rfl) (.pointer (some ⟨g, 3, none⟩)) (fun w1 _ => by kernel_rfl) ?_
    simp only [Act.put, List.setIfInBounds_toArray, List.set_cons_succ, List.set_cons_zero]
    refine wpFreeD_oneW (by kernel_rfl) (.pointer (some ⟨g', 0, none⟩)) (fun w1 _ => by kernel_rfl) ?_
    simp only [Act.put, List.setIfInBounds_toArray, List.set_cons_succ, List.set_cons_zero]
    refine wpFreeD_oneW (by kernel_rfl) (.pointer (some ⟨g', 0, none⟩)) (fun w1 _ => by kernel_rfl) ?_
    simp only [Act.put, List.setIfInBounds_toArray, List.set_cons_succ, List.set_cons_zero]
    refine wpFreeD_oneW (by kernel_rfl) (.pointer (some ⟨g', 3, none⟩)) (fun w1 _ => by kernel_rfl) ?_
    simp only [Act.put, List.setIfInBounds_toArray, List.set_cons_succ, List.set_cons_zero]
    refine wpFreeD_callW (by kernel_rfl) rfl Try.func54 (by kernel_rfl) (by kernel_rfl) (args := #[.pointer (some ⟨g, 3, none⟩), .pointer (some ⟨g', 3, none⟩)]) (by simp [Act.eval]) (fun v w1 w2 hw hv => hv) (fun w1 hw1 _ => (HF.out w1 (le_trans (le_drewN _ _) hw1)).mono ?_) ?_
    · rintro e w2 ⟨rfl, q9, rfl⟩
      exact ⟨_, rfl, le_drewN _ _, by simp only [show ¬ (54 = 52) by decide, show ¬ (54 = 53) by decide, if_false, if_true]⟩
    rintro v ⟨_, _, _, hv⟩
    simp only [show ¬ (54 = 52) by decide, show ¬ (54 = 53) by decide, if_false, if_true] at hv
    subst hv
    simp only [Act.put, List.setIfInBounds_toArray, List.set_cons_succ, List.set_cons_zero]
    refine wpFreeD_one rfl (.bool true) (fun w1 _ => by kernel_rfl) ?_
    simp only [Act.put, List.setIfInBounds_toArray, List.set_cons_succ, List.set_cons_zero]
    refine wpFreeD_one rfl (.bool true) (fun w1 _ => by kernel_rfl) ?_
    simp only [Act.put, List.setIfInBounds_toArray, List.set_cons_succ, List.set_cons_zero]
    refine wpFreeD_oneW (by kernel_rfl) (.pointer (some ⟨g, 0, none⟩)) (fun w1 _ => by kernel_rfl) ?_
    simp only [Act.put, List.setIfInBounds_toArray, List.set_cons_succ, List.set_cons_zero]
    refine wpFreeD_oneW (by kernel_rfl) (.pointer (some ⟨g, 0, none⟩)) (fun w1 _ => by kernel_rfl) ?_
    simp only [Act.put, List.setIfInBounds_toArray, List.set_cons_succ, List.set_cons_zero]
    refine wpFreeD_oneW (by kernel_rfl) (.pointer (some ⟨g, 9, none⟩)) (fun w1 _ => by kernel_rfl) ?_
    simp only [Act.put, List.setIfInBounds_toArray, List.set_cons_succ, List.set_cons_zero]
    refine wpFreeD_load1W (by kernel_rfl) rfl rfl (p := ⟨g, 9, none⟩) (v := .bool _) (fun w1 h1 => (hRw.out w1 (le_trans (le_drewN _ _) h1)).cell? 9) ukindBool ?_
    simp only [Act.put, List.setIfInBounds_toArray, List.set_cons_succ, List.set_cons_zero]
    refine wpFreeD_oneW (by kernel_rfl) (.pointer (some ⟨g', 0, none⟩)) (fun w1 _ => by kernel_rfl) ?_
    simp only [Act.put, List.setIfInBounds_toArray, List.set_cons_succ, List.set_cons_zero]
    refine wpFreeD_oneW (by kernel_rfl) (.pointer (some ⟨g', 0, none⟩)) (fun w1 _ => by kernel_rfl) ?_
    simp only [Act.put, List.setIfInBounds_toArray, List.set_cons_succ, List.set_cons_zero]
    refine wpFreeD_oneW (by kernel_rfl) (.pointer (some ⟨g', 9, none⟩)) (fun w1 _ => by kernel_rfl) ?_
    simp only [Act.put, List.setIfInBounds_toArray, List.set_cons_succ, List.set_cons_zero]
    refine wpFreeD_load1W (by kernel_rfl) rfl rfl (p := ⟨g', 9, none⟩) (v := .bool _) (fun w1 h1 => (hRz.out w1 (le_trans (le_drewN _ _) h1)).cell? 9) ukindBool ?_
    simp only [Act.put, List.setIfInBounds_toArray, List.set_cons_succ, List.set_cons_zero]
    refine wpFreeD_oneW (by kernel_rfl) (.bool false) (fun w1 _ => by kernel_rfl) ?_
    simp only [Act.put, List.setIfInBounds_toArray, List.set_cons_succ, List.set_cons_zero]
    refine wpFreeD_one rfl (.bool false) (fun w1 _ => by kernel_rfl) ?_
    simp only [Act.put, List.setIfInBounds_toArray, List.set_cons_succ, List.set_cons_zero]
    refine wpFreeD_one rfl (.bool false) (fun w1 _ => by kernel_rfl) ?_
    simp only [Act.put, List.setIfInBounds_toArray, List.set_cons_succ, List.set_cons_zero]
    refine wpFreeD_skip (by kernel_rfl) ?_
    simp only [Act.put, List.setIfInBounds_toArray, List.set_cons_succ, List.set_cons_zero]
    refine wpFreeD_skip (by kernel_rfl) ?_
    simp only [Act.put, List.setIfInBounds_toArray, List.set_cons_succ, List.set_cons_zero]
    refine wpFreeD_skip (by kernel_rfl) ?_
    simp only [Act.put, List.setIfInBounds_toArray, List.set_cons_succ, List.set_cons_zero]
    refine wpFreeD_skip (by kernel_rfl) ?_
    simp only [Act.put, List.setIfInBounds_toArray, List.set_cons_succ, List.set_cons_zero]
    refine wpFreeD_skip (by kernel_rfl) ?_
    simp only [Act.put, List.setIfInBounds_toArray, List.set_cons_succ, List.set_cons_zero]
    refine wpFreeD_skip (by kernel_rfl) ?_
    simp only [Act.put, List.setIfInBounds_toArray, List.set_cons_succ, List.set_cons_zero]
    refine wpFreeD_skip (by kernel_rfl) ?_
    simp only [Act.put, List.setIfInBounds_toArray, List.set_cons_succ, List.set_cons_zero]
    refine wpFreeD_skip (by kernel_rfl) ?_
    simp only [Act.put, List.setIfInBounds_toArray, List.set_cons_succ, List.set_cons_zero]
    refine wpFreeD_skip (by kernel_rfl) ?_
    simp only [Act.put, List.setIfInBounds_toArray, List.set_cons_succ, List.set_cons_zero]
    refine wpFreeD_one rfl (.bool false) (fun w1 _ => by kernel_rfl) ?_
    simp only [Act.put, List.setIfInBounds_toArray, List.set_cons_succ, List.set_cons_zero]
    refine wpFreeD_one rfl (.bool false) (fun w1 _ => by kernel_rfl) ?_
    simp only [Act.put, List.setIfInBounds_toArray, List.set_cons_succ, List.set_cons_zero]
    refine wpFreeD_skip (by kernel_rfl) ?_
    simp only [Act.put, List.setIfInBounds_toArray, List.set_cons_succ, List.set_cons_zero]
    refine wpFreeD_skip (by kernel_rfl) ?_
    simp only [Act.put, List.setIfInBounds_toArray, List.set_cons_succ, List.set_cons_zero]
    refine wpFreeD_skip (by kernel_rfl) ?_
    simp only [Act.put, List.setIfInBounds_toArray, List.set_cons_succ, List.set_cons_zero]
    refine wpFreeD_skip (by kernel_rfl) ?_
    simp only [Act.put, List.setIfInBounds_toArray, List.set_cons_succ, List.set_cons_zero]
    refine wpFreeD_skip (by kernel_rfl) ?_
    simp only [Act.put, List.setIfInBounds_toArray, List.set_cons_succ, List.set_cons_zero]
    refine wpFreeD_skip (by kernel_rfl) ?_
    simp only [Act.put, List.setIfInBounds_toArray, List.set_cons_succ, List.set_cons_zero]
    refine wpFreeD_skip (by kernel_rfl) ?_
    simp only [Act.put, List.setIfInBounds_toArray, List.set_cons_succ, List.set_cons_zero]
    refine wpFreeD_skip (by kernel_rfl) ?_
    simp only [Act.put, List.setIfInBounds_toArray, List.set_cons_succ, List.set_cons_zero]
    refine wpFreeD_skip (by kernel_rfl) ?_
    simp only [Act.put, List.setIfInBounds_toArray, List.set_cons_succ, List.set_cons_zero]
    refine wpFreeD_one rfl (.bool false) (fun w1 _ => by kernel_rfl) ?_
    simp only [Act.put, List.setIfInBounds_toArray, List.set_cons_succ, List.set_cons_zero]
    refine wpFreeD_one rfl (.bool false) (fun w1 _ => by kernel_rfl) ?_
    simp only [Act.put, List.setIfInBounds_toArray, List.set_cons_succ, List.set_cons_zero]
    refine wpFreeD_skip (by kernel_rfl) ?_
    simp only [Act.put, List.setIfInBounds_toArray, List.set_cons_succ, List.set_cons_zero]
    refine wpFreeD_skip (by kernel_rfl) ?_
    simp only [Act.put, List.setIfInBounds_toArray, List.set_cons_succ, List.set_cons_zero]
    refine wpFreeD_skip (by kernel_rfl) ?_
    simp only [Act.put, List.setIfInBounds_toArray, List.set_cons_succ, List.set_cons_zero]
    refine wpFreeD_skip (by kernel_rfl) ?_
    simp only [Act.put, List.setIfInBounds_toArray, List.set_cons_succ, List.set_cons_zero]
    refine wpFreeD_skip (by kernel_rfl) ?_
    simp only [Act.put, List.setIfInBounds_toArray, List.set_cons_succ, List.set_cons_zero]
    refine wpFreeD_skip (by kernel_rfl) ?_
    simp only [Act.put, List.setIfInBounds_toArray, List.set_cons_succ, List.set_cons_zero]
    refine wpFreeD_skip (by kernel_rfl) ?_
    simp only [Act.put, List.setIfInBounds_toArray, List.set_cons_succ, List.set_cons_zero]
    refine wpFreeD_skip (by kernel_rfl) ?_
    simp only [Act.put, List.setIfInBounds_toArray, List.set_cons_succ, List.set_cons_zero]
    refine wpFreeD_skip (by kernel_rfl) ?_
    simp only [Act.put, List.setIfInBounds_toArray, List.set_cons_succ, List.set_cons_zero]
    refine wpFreeD_one rfl (.bool false) (fun w1 _ => by kernel_rfl) ?_
    simp only [Act.put, List.setIfInBounds_toArray, List.set_cons_succ, List.set_cons_zero]
    refine wpFreeD_one rfl (.bool false) (fun w1 _ => by kernel_rfl) ?_
    simp only [Act.put, List.setIfInBounds_toArray, List.set_cons_succ, List.set_cons_zero]
    refine wpFreeD_nil (fun wR hwR _ => ?_)
    have HLq := hid (le_trans (le_drewN _ _) hwR)
    clear hwR
    go_wp2
    go_ret
    exact ⟨rfl, HLq.out⟩
end Go.Proofs.Ytnkjmgadnejdlaa

/- A walk of 'l04Same'. -/
namespace Go.Proofs.Ytnkjmgadnejdlaa
open Go.RowKit Go.Fk
set_option maxRecDepth 100000 in
set_option maxHeartbeats 4000000 in
theorem l04SameW5 (g g' : Nat) (v0 v1 v2 v0Z v1Z v2Z : Value) (k : Int) (a b c x y : Nat) (op : Bool) (l r s : Nat) (kZ : Int) (aZ bZ cZ xZ yZ : Nat) (opZ : Bool) (lZ rZ sZ : Nat) (w : World) (hRw : Hid (∀ (w' : World), le w w' → Row w' g 36 #[v0, v1, v2, .int .i64 k, .float .f32 a, .float .f32 b, .float .f32 c, .float .f32 x, .float .f32 y, .bool op, .float .f32 l, .float .f32 r, .float .f32 s])) (hRz : Hid (∀ (w' : World), le w w' → Row w' g' 36 #[v0Z, v1Z, v2Z, .int .i64 kZ, .float .f32 aZ, .float .f32 bZ, .float .f32 cZ, .float .f32 xZ, .float .f32 yZ, .bool opZ, .float .f32 lZ, .float .f32 rZ, .float .f32 sZ]))
    (HR : Hid (∀ (w' : World), le w w' → Calls Try.prog 52 #[v0, v0Z] w' fun e w'' => e = .returned (.bool true) ∧ le w' w'')) (HL : Hid (∀ (w' : World), le w w' → Calls Try.prog 52 #[v1, v1Z] w' fun e w'' => e = .returned (.bool true) ∧ le w' w''))
    (HS : Hid (∀ (w' : World), le w w' → Calls Try.prog 53 #[v2, v2Z] w' fun e w'' => e = .returned (.bool true) ∧ ∃ n, w'' = w'.drewN n)) (HF : Hid (∀ (w' : World), le w w' → Calls Try.prog 54 #[.pointer (some ⟨g, 3, none⟩), .pointer (some ⟨g', 3, none⟩)] w' fun e w'' => e = .returned (.bool true) ∧ ∃ n, w'' = w'.drewN n)) (AG : v0 = v1 → v0Z = v1Z → true = true) (t4 : (op == opZ) = true) (t5 : Hid (sameB l lZ = false)) : Calls Try.prog 22 #[.pointer (some ⟨g, 0, none⟩), .pointer (some ⟨g', 0, none⟩)] w (Out_b false w) := by
  obtain rfl : op = opZ := by simpa using t4
  clear t4
  cases op
  all_goals
    go_enter Try.func22, Try.ntmps22
    go_wp2_with fail
    refine region_freeD (E := leX) (fun f args _ v => if f = 52 then (args = #[v0, v0Z] → v = .bool true) ∧ (args = #[v1, v1Z] → v = .bool true) else if f = 53 then v = .bool true else if f = 54 then v = .bool true else ∀ p q, args = #[.float .f32 p, .float .f32 q] → v = .bool (sameB p q)) (by kernel_rfl) (by kernel_rfl) ?_
    refine wpFreeD_one rfl (.pointer (some ⟨g, 0, none⟩)) (fun w1 _ => by kernel_rfl) ?_
    simp only [Act.put, List.setIfInBounds_toArray, List.set_cons_succ, List.set_cons_zero]
    refine wpFreeD_one rfl (.pointer (some ⟨g, 0, none⟩)) (fun w1 _ => by kernel_rfl) ?_
    simp only [Act.put, List.setIfInBounds_toArray, List.set_cons_succ, List.set_cons_zero]
    refine wpFreeD_one rfl (.pointer (some ⟨g, 0, none⟩)) (fun w1 _ => by kernel_rfl) ?_
    simp only [Act.put, List.setIfInBounds_toArray, List.set_cons_succ, List.set_cons_zero]
    refine wpFreeD_load1 rfl rfl rfl (p := ⟨g, 0, none⟩) (v := v0) (fun w1 h1 => (hRw.out w1 (le_trans (le_drewN _ _) h1)).cell? 0) ukindRingSI ?_
    simp only [Act.put, List.setIfInBounds_toArray, List.set_cons_succ, List.set_cons_zero]
    refine wpFreeD_one rfl (.pointer (some ⟨g', 0, none⟩)) (fun w1 _ => by kernel_rfl) ?_
    simp only [Act.put, List.setIfInBounds_toArray, List.set_cons_succ, List.set_cons_zero]
    refine wpFreeD_one rfl (.pointer (some ⟨g', 0, none⟩)) (fun w1 _ => by kernel_rfl) ?_
    simp only [Act.put, List.setIfInBounds_toArray, List.set_cons_succ, List.set_cons_zero]
    refine wpFreeD_one rfl (.pointer (some ⟨g', 0, none⟩)) (fun w1 _ => by kernel_rfl) ?_
    simp only [Act.put, List.setIfInBounds_toArray, List.set_cons_succ, List.set_cons_zero]
    refine wpFreeD_load1 rfl rfl rfl (p := ⟨g', 0, none⟩) (v := v0Z) (fun w1 h1 => (hRz.out w1 (le_trans (le_drewN _ _) h1)).cell? 0) ukindRingSI ?_
    simp only [Act.put, List.setIfInBounds_toArray, List.set_cons_succ, List.set_cons_zero]
    refine wpFreeD_callW (by kernel_rfl) rfl Try.func52 (by kernel_rfl) (by kernel_rfl) (args := #[v0, v0Z]) (by simp [Act.eval]) (fun v w1 w2 hw hv => hv) (fun w1 hw1 _ => (HR.out w1 (le_trans (le_drewN _ _) hw1)).mono ?_) ?_
    · rintro e w2 ⟨rfl, hl⟩
      exact ⟨_, rfl, hl, by simp only [if_true]; exact ⟨fun _ => by first | rfl | trivial, fun h => by first | rfl | trivial | (simp only [Array.mk.injEq, List.cons.injEq, and_true] at h; have h9 := AG h.1 h.2; rw [h9])⟩⟩
    rintro v ⟨_, _, _, hv⟩
    simp only [if_true] at hv
    obtain rfl := hv.1 (by first | rfl | trivial)
    simp only [Act.put, List.setIfInBounds_toArray, List.set_cons_succ, List.set_cons_zero]
    refine wpFreeD_one rfl (.bool true) (fun w1 _ => by kernel_rfl) ?_
    simp only [Act.put, List.setIfInBounds_toArray, List.set_cons_succ, List.set_cons_zero]
    refine wpFreeD_oneW (by kernel_rfl) (.pointer (some ⟨g, 0, none⟩)) (fun w1 _ => by kernel_rfl) ?_
    simp only [Act.put, List.setIfInBounds_toArray, List.set_cons_succ, List.set_cons_zero]
    refine wpFreeD_oneW (by kernel_rfl) (.pointer (some ⟨g, 0, none⟩)) (fun w1 _ => by kernel_rfl) ?_
    simp only [Act.put, List.setIfInBounds_toArray, List.set_cons_succ, List.set_cons_zero]
    refine wpFreeD_oneW (by kernel_rfl) (.pointer (some ⟨g, 1, none⟩)) (fun w1 _ => by kernel_rfl) ?_
    simp only [Act.put, List.setIfInBounds_toArray, List.set_cons_succ, List.set_cons_zero]
    refine wpFreeD_load1W (by kernel_rfl) rfl rfl (p := ⟨g, 1, none⟩) (v := v1) (fun w1 h1 => (hRw.out w1 (le_trans (le_drewN _ _) h1)).cell? 1) ukindRingSI ?_
    simp only [Act.put, List.setIfInBounds_toArray, List.set_cons_succ, List.set_cons_zero]
    refine wpFreeD_oneW (by kernel_rfl) (.pointer (some ⟨g', 0, none⟩)) (fun w1 _ => by kernel_rfl) ?_
    simp only [Act.put, List.setIfInBounds_toArray, List.set_cons_succ, List.set_cons_zero]
    refine wpFreeD_oneW (by kernel_rfl) (.pointer (some ⟨g', 0, none⟩)) (fun w1 _ => by kernel_rfl) ?_
    simp only [Act.put, List.setIfInBounds_toArray, List.set_cons_succ, List.set_cons_zero]
    refine wpFreeD_oneW (by kernel_rfl) (.pointer (some ⟨g', 1, none⟩)) (fun w1 _ => by kernel_rfl) ?_
    simp only [Act.put, List.setIfInBounds_toArray, List.set_cons_succ, List.set_cons_zero]
    refine wpFreeD_load1W (by kernel_rfl) rfl rfl (p := ⟨g', 1, none⟩) (v := v1Z) (fun w1 h1 => (hRz.out w1 (le_trans (le_drewN _ _) h1)).cell? 1) ukindRingSI ?_
    simp only [Act.put, List.setIfInBounds_toArray, List.set_cons_succ, List.set_cons_zero]
    refine wpFreeD_callW (by kernel_rfl) rfl Try.func52 (by kernel_rfl) (by kernel_rfl) (args := #[v1, v1Z]) (by simp [Act.eval]) (fun v w1 w2 hw hv => hv) (fun w1 hw1 _ => (HL.out w1 (le_trans (le_drewN _ _) hw1)).mono ?_) ?_
    · rintro e w2 ⟨rfl, hl⟩
      exact ⟨_, rfl, hl, by simp only [if_true]; exact ⟨fun h => by first | rfl | trivial | (simp only [Array.mk.injEq, List.cons.injEq, and_true] at h; have h9 := AG h.1.symm h.2.symm; rw [h9]), fun _ => by first | rfl | trivial⟩⟩
    rintro v ⟨_, _, _, hv⟩
    simp only [if_true] at hv
    obtain rfl := hv.2 (by first | rfl | trivial)
    simp only [Act.put, List.setIfInBounds_toArray, List.set_cons_succ, List.set_cons_zero]
    refine wpFreeD_one rfl (.bool true) (fun w1 _ => by kernel_rfl) ?_
    simp only [Act.put, List.setIfInBounds_toArray, List.set_cons_succ, List.set_cons_zero]
    refine wpFreeD_one rfl (.bool true) (fun w1 _ => by kernel_rfl) ?_
    simp only [Act.put, List.setIfInBounds_toArray, List.set_cons_succ, List.set_cons_zero]
    refine wpFreeD_oneW (by kernel_rfl) (.pointer (some ⟨g, 0, none⟩)) (fun w1 _ => by kernel_rfl) ?_
    simp only [Act.put, List.setIfInBounds_toArray, List.set_cons_succ, List.set_cons_zero]
    refine wpFreeD_oneW (by kernel_rfl) (.pointer (some ⟨g, 0, none⟩)) (fun w1 _ => by kernel_rfl) ?_
    simp only [Act.put, List.setIfInBounds_toArray, List.set_cons_succ, List.set_cons_zero]
    refine wpFreeD_oneW (by kernel_rfl) (.pointer (some ⟨g, 2, none⟩)) (fun w1 _ => by kernel_rfl) ?_
    simp only [Act.put, List.setIfInBounds_toArray, List.set_cons_succ, List.set_cons_zero]
    refine wpFreeD_load1W (by kernel_rfl) rfl rfl (p := ⟨g, 2, none⟩) (v := v2) (fun w1 h1 => (hRw.out w1 (le_trans (le_drewN _ _) h1)).cell? 2) ukindFloat32S ?_
    simp only [Act.put, List.setIfInBounds_toArray, List.set_cons_succ, List.set_cons_zero]
    refine wpFreeD_oneW (by kernel_rfl) (.pointer (some ⟨g', 0, none⟩)) (fun w1 _ => by kernel_rfl) ?_
    simp only [Act.put, List.setIfInBounds_toArray, List.set_cons_succ, List.set_cons_zero]
    refine wpFreeD_oneW (by kernel_rfl) (.pointer (some ⟨g', 0, none⟩)) (fun w1 _ => by kernel_rfl) ?_
    simp only [Act.put, List.setIfInBounds_toArray, List.set_cons_succ, List.set_cons_zero]
    refine wpFreeD_oneW (by kernel_rfl) (.pointer (some ⟨g', 2, none⟩)) (fun w1 _ => by kernel_rfl) ?_
    simp only [Act.put, List.setIfInBounds_toArray, List.set_cons_succ, List.set_cons_zero]
    refine wpFreeD_load1W (by kernel_rfl) rfl rfl (p := ⟨g', 2, none⟩) (v := v2Z) (fun w1 h1 => (hRz.out w1 (le_trans (le_drewN _ _) h1)).cell? 2) ukindFloat32S ?_
    simp only [Act.put, List.setIfInBounds_toArray, List.set_cons_succ, List.set_cons_zero]
    refine wpFreeD_callW (by kernel_rfl) rfl Try.func53 (by kernel_rfl) (by kernel_rfl) (args := #[v2, v2Z]) (by simp [Act.eval]) (fun v w1 w2 hw hv => hv) (fun w1 hw1 _ => (HS.out w1 (le_trans (le_drewN _ _) hw1)).mono ?_) ?_
    · rintro e w2 ⟨rfl, q9, rfl⟩
      exact ⟨_, rfl, le_drewN _ _, by simp only [show ¬ (53 = 52) by decide, if_false, if_true]⟩
    rintro v ⟨_, _, _, hv⟩
    simp only [show ¬ (53 = 52) by decide, if_false, if_true] at hv
    subst hv
    simp only [Act.put, List.setIfInBounds_toArray, List.set_cons_succ, List.set_cons_zero]
    refine wpFreeD_one rfl (.bool true) (fun w1 _ => by kernel_rfl) ?_
    simp only [Act.put, List.setIfInBounds_toArray, List.set_cons_succ, List.set_cons_zero]
    refine wpFreeD_one rfl (.bool true) (fun w1 _ => by kernel_rfl) ?_
    simp only [Act.put, List.setIfInBounds_toArray, List.set_cons_succ, List.set_cons_zero]
    refine wpFreeD_oneW (by kernel_rfl) (.pointer (some ⟨g, 0, none⟩)) (fun w1 _ => by kernel_rfl) ?_
    simp only [Act.put, List.setIfInBounds_toArray, List.set_cons_succ, List.set_cons_zero]
    refine wpFreeD_oneW (by kernel_rfl) (.pointer (some ⟨g, 0, none⟩)) (fun w1 _ => by kernel_rfl) ?_
    simp only [Act.put, List.setIfInBounds_toArray, List.set_cons_succ, List.set_cons_zero]
    refine wpFreeD_oneW (by kernel_rfl) (.pointer (some ⟨g, 3, none⟩)) (fun w1 _ => by kernel_rfl) ?_
    simp only [Act.put, List.setIfInBounds_toArray, List.set_cons_succ, List.set_cons_zero]
    refine wpFreeD_oneW (by kernel_rfl) (.pointer (some ⟨g', 0, none⟩)) (fun w1 _ => by kernel_rfl) ?_
    simp only [Act.put, List.setIfInBounds_toArray, List.set_cons_succ, List.set_cons_zero]
    refine wpFreeD_oneW (by kernel_rfl) (.pointer (some ⟨g', 0, none⟩)) (fun w1 _ => by kernel_rfl) ?_
    simp only [Act.put, List.setIfInBounds_toArray, List.set_cons_succ, List.set_cons_zero]
    refine wpFreeD_oneW (by kernel_rfl) (.pointer (some ⟨g', 3, none⟩)) (fun w1 _ => by kernel_rfl) ?_
    simp only [Act.put, List.setIfInBounds_toArray, List.set_cons_succ, List.set_cons_zero]
    refine wpFreeD_callW (by kernel_rfl) rfl Try.func54 (by kernel_rfl) (by kernel_rfl) (args := #[.pointer (some ⟨g, 3, none⟩), .pointer (some ⟨g', 3, none⟩)]) (by simp [Act.eval]) (fun v w1 w2 hw hv => hv) (fun w1 hw1 _ => (HF.out w1 (le_trans (le_drewN _ _) hw1)).mono ?_) ?_
    · rintro e w2 ⟨rfl, q9, rfl⟩
      exact ⟨_, rfl, le_drewN _ _, by simp only [show ¬ (54 = 52) by decide, show ¬ (54 = 53) by decide, if_false, if_true]⟩
    rintro v ⟨_, _, _, hv⟩
    simp only [show ¬ (54 = 52) by decide, show ¬ (54 = 53) by decide, if_false, if_true] at hv
    subst hv
    simp only [Act.put, List.setIfInBounds_toArray, List.set_cons_succ, List.set_cons_zero]
    refine wpFreeD_one rfl (.bool true) (fun w1 _ => by kernel_rfl) ?_
    simp only [Act.put, List.setIfInBounds_toArray, List.set_cons_succ, List.set_cons_zero]
    refine wpFreeD_one rfl (.bool true) (fun w1 _ => by kernel_rfl) ?_
    simp only [Act.put, List.setIfInBounds_toArray, List.set_cons_succ, List.set_cons_zero]
    refine wpFreeD_oneW (by kernel_rfl) (.pointer (some ⟨g, 0, none⟩)) (fun w1 _ => by kernel_rfl) ?_
    simp only [Act.put, List.setIfInBounds_toArray, List.set_cons_succ, List.set_cons_zero]
    refine wpFreeD_oneW (by kernel_rfl) (.pointer (some ⟨g, 0, none⟩)) (fun w1 _ => by kernel_rfl) ?_
    simp only [Act.put, List.setIfInBounds_toArray, List.set_cons_succ, List.set_cons_zero]
    refine wpFreeD_oneW (by kernel_rfl) (.pointer (some ⟨g, 9, none⟩)) (fun w1 _ => by kernel_rfl) ?_
    simp only [Act.put, List.setIfInBounds_toArray, List.set_cons_succ, List.set_cons_zero]
    refine wpFreeD_load1W (by kernel_rfl) rfl rfl (p := ⟨g, 9, none⟩) (v := .bool _) (fun w1 h1 => (hRw.out w1 (le_trans (le_drewN _ _) h1)).cell? 9) ukindBool ?_
    simp only [Act.put, List.setIfInBounds_toArray, List.set_cons_succ, List.set_cons_zero]
    refine wpFreeD_oneW (by kernel_rfl) (.pointer (some ⟨g', 0, none⟩)) (fun w1 _ => by kernel_rfl) ?_
    simp only [Act.put, List.setIfInBounds_toArray, List.set_cons_succ, List.set_cons_zero]
    refine wpFreeD_oneW (by kernel_rfl) (.pointer (some ⟨g', 0, none⟩)) (fun w1 _ => by kernel_rfl) ?_
    simp only [Act.put, List.setIfInBounds_toArray, List.set_cons_succ, List.set_cons_zero]
    refine wpFreeD_oneW (by kernel_rfl) (.pointer (some ⟨g', 9, none⟩)) (fun w1 _ => by kernel_rfl) ?_
    simp only [Act.put, List.setIfInBounds_toArray, List.set_cons_succ, List.set_cons_zero]
    refine wpFreeD_load1W (by kernel_rfl) rfl rfl (p := ⟨g', 9, none⟩) (v := .bool _) (fun w1 h1 => (hRz.out w1 (le_trans (le_drewN _ _) h1)).cell? 9) ukindBool ?_
    simp only [Act.put, List.setIfInBounds_toArray, List.set_cons_succ, List.set_cons_zero]
    refine wpFreeD_oneW (by kernel_rfl) (.bool true) (fun w1 _ => by kernel_rfl) ?_
    simp only [Act.put, List.setIfInBounds_toArray, List.set_cons_succ, List.set_cons_zero]
    refine wpFreeD_one rfl (.bool true) (fun w1 _ => by kernel_rfl) ?_
    simp only [Act.put, List.setIfInBounds_toArray, List.set_cons_succ, List.set_cons_zero]
    refine wpFreeD_one rfl (.bool true) (fun w1 _ => by kernel_rfl) ?_
    simp only [Act.put, List.setIfInBounds_toArray, List.set_cons_succ, List.set_cons_zero]
    refine wpFreeD_oneW (by kernel_rfl) (.pointer (some ⟨g, 0, none⟩)) (fun w1 _ => by kernel_rfl) ?_
    simp only [Act.put, List.setIfInBounds_toArray, List.set_cons_succ, List.set_cons_zero]
    refine wpFreeD_oneW (by kernel_rfl) (.pointer (some ⟨g, 0, none⟩)) (fun w1 _ => by kernel_rfl) ?_
    simp only [Act.put, List.setIfInBounds_toArray, List.set_cons_succ, List.set_cons_zero]
    refine wpFreeD_oneW (by kernel_rfl) (.pointer (some ⟨g, 10, none⟩)) (fun w1 _ => by kernel_rfl) ?_
    simp only [Act.put, List.setIfInBounds_toArray, List.set_cons_succ, List.set_cons_zero]
    refine wpFreeD_load1W (by kernel_rfl) rfl rfl (p := ⟨g, 10, none⟩) (v := .float .f32 l) (fun w1 h1 => (hRw.out w1 (le_trans (le_drewN _ _) h1)).cell? 10) ukindFloat32 ?_
    simp only [Act.put, List.setIfInBounds_toArray, List.set_cons_succ, List.set_cons_zero]
    refine wpFreeD_oneW (by kernel_rfl) (.pointer (some ⟨g', 0, none⟩)) (fun w1 _ => by kernel_rfl) ?_
    simp only [Act.put, List.setIfInBounds_toArray, List.set_cons_succ, List.set_cons_zero]
    refine wpFreeD_oneW (by kernel_rfl) (.pointer (some ⟨g', 0, none⟩)) (fun w1 _ => by kernel_rfl) ?_
    simp only [Act.put, List.setIfInBounds_toArray, List.set_cons_succ, List.set_cons_zero]
    refine wpFreeD_oneW (by kernel_rfl) (.pointer (some ⟨g', 10, none⟩)) (fun w1 _ => by kernel_rfl) ?_
    simp only [Act.put, List.setIfInBounds_toArray, List.set_cons_succ, List.set_cons_zero]
    refine wpFreeD_load1W (by kernel_rfl) rfl rfl (p := ⟨g', 10, none⟩) (v := .float .f32 lZ) (fun w1 h1 => (hRz.out w1 (le_trans (le_drewN _ _) h1)).cell? 10) ukindFloat32 ?_
    simp only [Act.put, List.setIfInBounds_toArray, List.set_cons_succ, List.set_cons_zero]
    refine wpFreeD_callW (by kernel_rfl) rfl Try.func55 (by kernel_rfl) (by kernel_rfl) (args := #[.float .f32 l, .float .f32 lZ]) (by simp [Act.eval]) (fun v w1 w2 hw hv => hv) (fun w1 hw1 _ => (s_l01Same l lZ w1).mono ?_) ?_
    · rintro e w2 ⟨rfl, rfl⟩
      exact ⟨_, rfl, le_refl _, by simp only [show ¬ (55 = 52) by decide, show ¬ (55 = 53) by decide, show ¬ (55 = 54) by decide, if_false]; intro p q hpq; simp only [Array.mk.injEq, List.cons.injEq, Value.float.injEq, true_and, and_true] at hpq; rw [hpq.1, hpq.2]⟩
    rintro v ⟨_, _, _, hv⟩
    simp only [show ¬ (55 = 52) by decide, show ¬ (55 = 53) by decide, show ¬ (55 = 54) by decide, if_false] at hv
    obtain rfl := hv _ _ (by first | rfl | trivial)
    simp only [Act.put, List.setIfInBounds_toArray, List.set_cons_succ, List.set_cons_zero]
    rw [t5.out]
    refine wpFreeD_one rfl (.bool false) (fun w1 _ => by kernel_rfl) ?_
    simp only [Act.put, List.setIfInBounds_toArray, List.set_cons_succ, List.set_cons_zero]
    refine wpFreeD_one rfl (.bool false) (fun w1 _ => by kernel_rfl) ?_
    simp only [Act.put, List.setIfInBounds_toArray, List.set_cons_succ, List.set_cons_zero]
    refine wpFreeD_skip (by kernel_rfl) ?_
    simp only [Act.put, List.setIfInBounds_toArray, List.set_cons_succ, List.set_cons_zero]
    refine wpFreeD_skip (by kernel_rfl) ?_
    simp only [Act.put, List.setIfInBounds_toArray, List.set_cons_succ, List.set_cons_zero]
    refine wpFreeD_skip (by kernel_rfl) ?_
    simp only [Act.put, List.setIfInBounds_toArray, List.set_cons_succ, List.set_cons_zero]
    refine wpFreeD_skip (by kernel_rfl) ?_
    simp only [Act.put, List.setIfInBounds_toArray, List.set_cons_succ, List.set_cons_zero]
    refine wpFreeD_skip (by kernel_rfl) ?_
    simp only [Act.put, List.setIfInBounds_toArray, List.set_cons_succ, List.set_cons_zero]
    refine wpFreeD_skip (by kernel_rfl) ?_
    simp only [Act.put, List.setIfInBounds_toArray, List.set_cons_succ, List.set_cons_zero]
    refine wpFreeD_skip (by kernel_rfl) ?_
    simp only [Act.put, List.setIfInBounds_toArray, List.set_cons_succ, List.set_cons_zero]
    refine wpFreeD_skip (by kernel_rfl) ?_
    simp only [Act.put, List.setIfInBounds_toArray, List.set_cons_succ, List.set_cons_zero]
    refine wpFreeD_skip (by kernel_rfl) ?_
    simp only [Act.put, List.setIfInBounds_toArray, List.set_cons_succ, List.set_cons_zero]
    refine wpFreeD_one rfl (.bool false) (fun w1 _ => by kernel_rfl) ?_
    simp only [Act.put, List.setIfInBounds_toArray, List.set_cons_succ, List.set_cons_zero]
    refine wpFreeD_one rfl (.bool false) (fun w1 _ => by kernel_rfl) ?_
    simp only [Act.put, List.setIfInBounds_toArray, List.set_cons_succ, List.set_cons_zero]
    refine wpFreeD_skip (by kernel_rfl) ?_
    simp only [Act.put, List.setIfInBounds_toArray, List.set_cons_succ, List.set_cons_zero]
    refine wpFreeD_skip (by kernel_rfl) ?_
    simp only [Act.put, List.setIfInBounds_toArray, List.set_cons_succ, List.set_cons_zero]
    refine wpFreeD_skip (by kernel_rfl) ?_
    simp only [Act.put, List.setIfInBounds_toArray, List.set_cons_succ, List.set_cons_zero]
    refine wpFreeD_skip (by kernel_rfl) ?_
    simp only [Act.put, List.setIfInBounds_toArray, List.set_cons_succ, List.set_cons_zero]
    refine wpFreeD_skip (by kernel_rfl) ?_
    simp only [Act.put, List.setIfInBounds_toArray, List.set_cons_succ, List.set_cons_zero]
    refine wpFreeD_skip (by kernel_rfl) ?_
    simp only [Act.put, List.setIfInBounds_toArray, List.set_cons_succ, List.set_cons_zero]
    refine wpFreeD_skip (by kernel_rfl) ?_
    simp only [Act.put, List.setIfInBounds_toArray, List.set_cons_succ, List.set_cons_zero]
    refine wpFreeD_skip (by kernel_rfl) ?_
    simp only [Act.put, List.setIfInBounds_toArray, List.set_cons_succ, List.set_cons_zero]
    refine wpFreeD_skip (by kernel_rfl) ?_
    simp only [Act.put, List.setIfInBounds_toArray, List.set_cons_succ, List.set_cons_zero]
    refine wpFreeD_one rfl (.bool false) (fun w1 _ => by kernel_rfl) ?_
    simp only [Act.put, List.setIfInBounds_toArray, List.set_cons_succ, List.set_cons_zero]
    refine wpFreeD_one rfl (.bool false) (fun w1 _ => by kernel_rfl) ?_
    simp only [Act.put, List.setIfInBounds_toArray, List.set_cons_succ, List.set_cons_zero]
    refine wpFreeD_nil (fun wR hwR _ => ?_)
    have HLq := hid (le_trans (le_drewN _ _) hwR)
    clear hwR
    go_wp2
    go_ret
    exact ⟨rfl, HLq.out⟩
end Go.Proofs.Ytnkjmgadnejdlaa

/- A walk of 'l04Same'. -/
namespace Go.Proofs.Ytnkjmgadnejdlaa
open Go.RowKit Go.Fk
set_option maxRecDepth 100000 in
set_option maxHeartbeats 4000000 in
theorem l04SameW6 (g g' : Nat) (v0 v1 v2 v0Z v1Z v2Z : Value) (k : Int) (a b c x y : Nat) (op : Bool) (l r s : Nat) (kZ : Int) (aZ bZ cZ xZ yZ : Nat) (opZ : Bool) (lZ rZ sZ : Nat) (w : World) (hRw : Hid (∀ (w' : World), le w w' → Row w' g 36 #[v0, v1, v2, .int .i64 k, .float .f32 a, .float .f32 b, .float .f32 c, .float .f32 x, .float .f32 y, .bool op, .float .f32 l, .float .f32 r, .float .f32 s])) (hRz : Hid (∀ (w' : World), le w w' → Row w' g' 36 #[v0Z, v1Z, v2Z, .int .i64 kZ, .float .f32 aZ, .float .f32 bZ, .float .f32 cZ, .float .f32 xZ, .float .f32 yZ, .bool opZ, .float .f32 lZ, .float .f32 rZ, .float .f32 sZ]))
    (HR : Hid (∀ (w' : World), le w w' → Calls Try.prog 52 #[v0, v0Z] w' fun e w'' => e = .returned (.bool true) ∧ le w' w'')) (HL : Hid (∀ (w' : World), le w w' → Calls Try.prog 52 #[v1, v1Z] w' fun e w'' => e = .returned (.bool true) ∧ le w' w''))
    (HS : Hid (∀ (w' : World), le w w' → Calls Try.prog 53 #[v2, v2Z] w' fun e w'' => e = .returned (.bool true) ∧ ∃ n, w'' = w'.drewN n)) (HF : Hid (∀ (w' : World), le w w' → Calls Try.prog 54 #[.pointer (some ⟨g, 3, none⟩), .pointer (some ⟨g', 3, none⟩)] w' fun e w'' => e = .returned (.bool true) ∧ ∃ n, w'' = w'.drewN n)) (AG : v0 = v1 → v0Z = v1Z → true = true) (t4 : (op == opZ) = true) (t5 : Hid (sameB l lZ = true)) (t6 : Hid (sameB r rZ = false)) : Calls Try.prog 22 #[.pointer (some ⟨g, 0, none⟩), .pointer (some ⟨g', 0, none⟩)] w (Out_b false w) := by
  obtain rfl : op = opZ := by simpa using t4
  clear t4
  cases op
  all_goals
    go_enter Try.func22, Try.ntmps22
    go_wp2_with fail
    refine region_freeD (E := leX) (fun f args _ v => if f = 52 then (args = #[v0, v0Z] → v = .bool true) ∧ (args = #[v1, v1Z] → v = .bool true) else if f = 53 then v = .bool true else if f = 54 then v = .bool true else ∀ p q, args = #[.float .f32 p, .float .f32 q] → v = .bool (sameB p q)) (by kernel_rfl) (by kernel_rfl) ?_
    refine wpFreeD_one rfl (.pointer (some ⟨g, 0, none⟩)) (fun w1 _ => by kernel_rfl) ?_
    simp only [Act.put, List.setIfInBounds_toArray, List.set_cons_succ, List.set_cons_zero]
    refine wpFreeD_one rfl (.pointer (some ⟨g, 0, none⟩)) (fun w1 _ => by kernel_rfl) ?_
    simp only [Act.put, List.setIfInBounds_toArray, List.set_cons_succ, List.set_cons_zero]
    refine wpFreeD_one rfl (.pointer (some ⟨g, 0, none⟩)) (fun w1 _ => by kernel_rfl) ?_
    simp only [Act.put, List.setIfInBounds_toArray, List.set_cons_succ, List.set_cons_zero]
    refine wpFreeD_load1 rfl rfl rfl (p := ⟨g, 0, none⟩) (v := v0) (fun w1 h1 => (hRw.out w1 (le_trans (le_drewN _ _) h1)).cell? 0) ukindRingSI ?_
    simp only [Act.put, List.setIfInBounds_toArray, List.set_cons_succ, List.set_cons_zero]
    refine wpFreeD_one rfl (.pointer (some ⟨g', 0, none⟩)) (fun w1 _ => by kernel_rfl) ?_
    simp only [Act.put, List.setIfInBounds_toArray, List.set_cons_succ, List.set_cons_zero]
    refine wpFreeD_one rfl (.pointer (some ⟨g', 0, none⟩)) (fun w1 _ => by kernel_rfl) ?_
    simp only [Act.put, List.setIfInBounds_toArray, List.set_cons_succ, List.set_cons_zero]
    refine wpFreeD_one rfl (.pointer (some ⟨g', 0, none⟩)) (fun w1 _ => by kernel_rfl) ?_
    simp only [Act.put, List.setIfInBounds_toArray, List.set_cons_succ, List.set_cons_zero]
    refine wpFreeD_load1 rfl rfl rfl (p := ⟨g', 0, none⟩) (v := v0Z) (fun w1 h1 => (hRz.out w1 (le_trans (le_drewN _ _) h1)).cell? 0) ukindRingSI ?_
    simp only [Act.put, List.setIfInBounds_toArray, List.set_cons_succ, List.set_cons_zero]
    refine wpFreeD_callW (by kernel_rfl) rfl Try.func52 (by kernel_rfl) (by kernel_rfl) (args := #[v0, v0Z]) (by simp [Act.eval]) (fun v w1 w2 hw hv => hv) (fun w1 hw1 _ => (HR.out w1 (le_trans (le_drewN _ _) hw1)).mono ?_) ?_
    · rintro e w2 ⟨rfl, hl⟩
      exact ⟨_, rfl, hl, by simp only [if_true]; exact ⟨fun _ => by first | rfl | trivial, fun h => by first | rfl | trivial | (simp only [Array.mk.injEq, List.cons.injEq, and_true] at h; have h9 := AG h.1 h.2; rw [h9])⟩⟩
    rintro v ⟨_, _, _, hv⟩
    simp only [if_true] at hv
    obtain rfl := hv.1 (by first | rfl | trivial)
    simp only [Act.put, List.setIfInBounds_toArray, List.set_cons_succ, List.set_cons_zero]
    refine wpFreeD_one rfl (.bool true) (fun w1 _ => by kernel_rfl) ?_
    simp only [Act.put, List.setIfInBounds_toArray, List.set_cons_succ, List.set_cons_zero]
    refine wpFreeD_oneW (by kernel_rfl) (.pointer (some ⟨g, 0, none⟩)) (fun w1 _ => by kernel_rfl) ?_
    simp only [Act.put, List.setIfInBounds_toArray, List.set_cons_succ, List.set_cons_zero]
    refine wpFreeD_oneW (by kernel_rfl) (.pointer (some ⟨g, 0, none⟩)) (fun w1 _ => by kernel_rfl) ?_
    simp only [Act.put, List.setIfInBounds_toArray, List.set_cons_succ, List.set_cons_zero]
    refine wpFreeD_oneW (by kernel_rfl) (.pointer (some ⟨g, 1, none⟩)) (fun w1 _ => by kernel_rfl) ?_
    simp only [Act.put, List.setIfInBounds_toArray, List.set_cons_succ, List.set_cons_zero]
    refine wpFreeD_load1W (by kernel_rfl) rfl rfl (p := ⟨g, 1, none⟩) (v := v1) (fun w1 h1 => (hRw.out w1 (le_trans (le_drewN _ _) h1)).cell? 1) ukindRingSI ?_
    simp only [Act.put, List.setIfInBounds_toArray, List.set_cons_succ, List.set_cons_zero]
    refine wpFreeD_oneW (by kernel_rfl) (.pointer (some ⟨g', 0, none⟩)) (fun w1 _ => by kernel_rfl) ?_
    simp only [Act.put, List.setIfInBounds_toArray, List.set_cons_succ, List.set_cons_zero]
    refine wpFreeD_oneW (by kernel_rfl) (.pointer (some ⟨g', 0, none⟩)) (fun w1 _ => by kernel_rfl) ?_
    simp only [Act.put, List.setIfInBounds_toArray, List.set_cons_succ, List.set_cons_zero]
    refine wpFreeD_oneW (by kernel_rfl) (.pointer (some ⟨g', 1, none⟩)) (fun w1 _ => by kernel_rfl) ?_
    simp only [Act.put, List.setIfInBounds_toArray, List.set_cons_succ, List.set_cons_zero]
    refine wpFreeD_load1W (by kernel_rfl) rfl rfl (p := ⟨g', 1, none⟩) (v := v1Z) (fun w1 h1 => (hRz.out w1 (le_trans (le_drewN _ _) h1)).cell? 1) ukindRingSI ?_
    simp only [Act.put, List.setIfInBounds_toArray, List.set_cons_succ, List.set_cons_zero]
    refine wpFreeD_callW (by kernel_rfl) rfl Try.func52 (by kernel_rfl) (by kernel_rfl) (args := #[v1, v1Z]) (by simp [Act.eval]) (fun v w1 w2 hw hv => hv) (fun w1 hw1 _ => (HL.out w1 (le_trans (le_drewN _ _) hw1)).mono ?_) ?_
    · rintro e w2 ⟨rfl, hl⟩
      exact ⟨_, rfl, hl, by simp only [if_true]; exact ⟨fun h => by first | rfl | trivial | (simp only [Array.mk.injEq, List.cons.injEq, and_true] at h; have h9 := AG h.1.symm h.2.symm; rw [h9]), fun _ => by first | rfl | trivial⟩⟩
    rintro v ⟨_, _, _, hv⟩
    simp only [if_true] at hv
    obtain rfl := hv.2 (by first | rfl | trivial)
    simp only [Act.put, List.setIfInBounds_toArray, List.set_cons_succ, List.set_cons_zero]
    refine wpFreeD_one rfl (.bool true) (fun w1 _ => by kernel_rfl) ?_
    simp only [Act.put, List.setIfInBounds_toArray, List.set_cons_succ, List.set_cons_zero]
    refine wpFreeD_one rfl (.bool true) (fun w1 _ => by kernel_rfl) ?_
    simp only [Act.put, List.setIfInBounds_toArray, List.set_cons_succ, List.set_cons_zero]
    refine wpFreeD_oneW (by kernel_rfl) (.pointer (some ⟨g, 0, none⟩)) (fun w1 _ => by kernel_rfl) ?_
    simp only [Act.put, List.setIfInBounds_toArray, List.set_cons_succ, List.set_cons_zero]
    refine wpFreeD_oneW (by kernel_rfl) (.pointer (some ⟨g, 0, none⟩)) (fun w1 _ => by kernel_rfl) ?_
    simp only [Act.put, List.setIfInBounds_toArray, List.set_cons_succ, List.set_cons_zero]
    refine wpFreeD_oneW (by kernel_rfl) (.pointer (some ⟨g, 2, none⟩)) (fun w1 _ => by kernel_rfl) ?_
    simp only [Act.put, List.setIfInBounds_toArray, List.set_cons_succ, List.set_cons_zero]
    refine wpFreeD_load1W (by kernel_rfl) rfl rfl (p := ⟨g, 2, none⟩) (v := v2) (fun w1 h1 => (hRw.out w1 (le_trans (le_drewN _ _) h1)).cell? 2) ukindFloat32S ?_
    simp only [Act.put, List.setIfInBounds_toArray, List.set_cons_succ, List.set_cons_zero]
    refine wpFreeD_oneW (by kernel_rfl) (.pointer (some ⟨g', 0, none⟩)) (fun w1 _ => by kernel_rfl) ?_
    simp only [Act.put, List.setIfInBounds_toArray, List.set_cons_succ, List.set_cons_zero]
    refine wpFreeD_oneW (by kernel_rfl) (.pointer (some ⟨g', 0, none⟩)) (fun w1 _ => by kernel_rfl) ?_
    simp only [Act.put, List.setIfInBounds_toArray, List.set_cons_succ, List.set_cons_zero]
    refine wpFreeD_oneW (by kernel_rfl) (.pointer (some ⟨g', 2, none⟩)) (fun w1 _ => by kernel_rfl) ?_
    simp only [Act.put, List.setIfInBounds_toArray, List.set_cons_succ, List.set_cons_zero]
    refine wpFreeD_load1W (by kernel_rfl) rfl rfl (p := ⟨g', 2, none⟩) (v := v2Z) (fun w1 h1 => (hRz.out w1 (le_trans (le_drewN _ _) h1)).cell? 2) ukindFloat32S ?_
    simp only [Act.put, List.setIfInBounds_toArray, List.set_cons_succ, List.set_cons_zero]
    refine wpFreeD_callW (by kernel_rfl) rfl Try.func53 (by kernel_rfl) (by kernel_rfl) (args := #[v2, v2Z]) (by simp [Act.eval]) (fun v w1 w2 hw hv => hv) (fun w1 hw1 _ => (HS.out w1 (le_trans (le_drewN _ _) hw1)).mono ?_) ?_
    · rintro e w2 ⟨rfl, q9, rfl⟩
      exact ⟨_, rfl, le_drewN _ _, by simp only [show ¬ (53 = 52) by decide, if_false, if_true]⟩
    rintro v ⟨_, _, _, hv⟩
    simp only [show ¬ (53 = 52) by decide, if_false, if_true] at hv
    subst hv
    simp only [Act.put, List.setIfInBounds_toArray, List.set_cons_succ, List.set_cons_zero]
    refine wpFreeD_one rfl (.bool true) (fun w1 _ => by kernel_rfl) ?_
    simp only [Act.put, List.setIfInBounds_toArray, List.set_cons_succ, List.set_cons_zero]
    refine wpFreeD_one rfl (.bool true) (fun w1 _ => by kernel_rfl) ?_
    simp only [Act.put, List.setIfInBounds_toArray, List.set_cons_succ, List.set_cons_zero]
    refine wpFreeD_oneW (by kernel_rfl) (.pointer (some ⟨g, 0, none⟩)) (fun w1 _ => by kernel_rfl) ?_
    simp only [Act.put, List.setIfInBounds_toArray, List.set_cons_succ, List.set_cons_zero]
    refine wpFreeD_oneW (by kernel_rfl) (.pointer (some ⟨g, 0, none⟩)) (fun w1 _ => by kernel_rfl) ?_
    simp only [Act.put, List.setIfInBounds_toArray, List.set_cons_succ, List.set_cons_zero]
    refine wpFreeD_oneW (by kernel_rfl) (.pointer (some ⟨g, 3, none⟩)) (fun w1 _ => by kernel_rfl) ?_
    simp only [Act.put, List.setIfInBounds_toArray, List.set_cons_succ, List.set_cons_zero]
    refine wpFreeD_oneW (by kernel_rfl) (.pointer (some ⟨g', 0, none⟩)) (fun w1 _ => by kernel_rfl) ?_
    simp only [Act.put, List.setIfInBounds_toArray, List.set_cons_succ, List.set_cons_zero]
    refine wpFreeD_oneW (by kernel_rfl) (.pointer (some ⟨g', 0, none⟩)) (fun w1 _ => by kernel_rfl) ?_
    simp only [Act.put, List.setIfInBounds_toArray, List.set_cons_succ, List.set_cons_zero]
    refine wpFreeD_oneW (by kernel_rfl) (.pointer (some ⟨g', 3, none⟩)) (fun w1 _ => by kernel_rfl) ?_
    simp only [Act.put, List.setIfInBounds_toArray, List.set_cons_succ, List.set_cons_zero]
    refine wpFreeD_callW (by kernel_rfl) rfl Try.func54 (by kernel_rfl) (by kernel_rfl) (args := #[.pointer (some ⟨g, 3, none⟩), .pointer (some ⟨g', 3, none⟩)]) (by simp [Act.eval]) (fun v w1 w2 hw hv => hv) (fun w1 hw1 _ => (HF.out w1 (le_trans (le_drewN _ _) hw1)).mono ?_) ?_
    · rintro e w2 ⟨rfl, q9, rfl⟩
      exact ⟨_, rfl, le_drewN _ _, by simp only [show ¬ (54 = 52) by decide, show ¬ (54 = 53) by decide, if_false, if_true]⟩
    rintro v ⟨_, _, _, hv⟩
    simp only [show ¬ (54 = 52) by decide, show ¬ (54 = 53) by decide, if_false, if_true] at hv
    subst hv
    simp only [Act.put, List.setIfInBounds_toArray, List.set_cons_succ, List.set_cons_zero]
    refine wpFreeD_one rfl (.bool true) (fun w1 _ => by kernel_rfl) ?_
    simp only [Act.put, List.setIfInBounds_toArray, List.set_cons_succ, List.set_cons_zero]
    refine wpFreeD_one rfl (.bool true) (fun w1 _ => by kernel_rfl) ?_
    simp only [Act.put, List.setIfInBounds_toArray, List.set_cons_succ, List.set_cons_zero]
    refine wpFreeD_oneW (by kernel_rfl) (.pointer (some ⟨g, 0, none⟩)) (fun w1 _ => by kernel_rfl) ?_
    simp only [Act.put, List.setIfInBounds_toArray, List.set_cons_succ, List.set_cons_zero]
    refine wpFreeD_oneW (by kernel_rfl) (.pointer (some ⟨g, 0, none⟩)) (fun w1 _ => by kernel_rfl) ?_
    simp only [Act.put, List.setIfInBounds_toArray, List.set_cons_succ, List.set_cons_zero]
    refine wpFreeD_oneW (by kernel_rfl) (.pointer (some ⟨g, 9, none⟩)) (fun w1 _ => by kernel_rfl) ?_
    simp only [Act.put, List.setIfInBounds_toArray, List.set_cons_succ, List.set_cons_zero]
    refine wpFreeD_load1W (by kernel_rfl) rfl rfl (p := ⟨g, 9, none⟩) (v := .bool _) (fun w1 h1 => (hRw.out w1 (le_trans (le_drewN _ _) h1)).cell? 9) ukindBool ?_
    simp only [Act.put, List.setIfInBounds_toArray, List.set_cons_succ, List.set_cons_zero]
    refine wpFreeD_oneW (by kernel_rfl) (.pointer (some ⟨g', 0, none⟩)) (fun w1 _ => by kernel_rfl) ?_
    simp only [Act.put, List.setIfInBounds_toArray, List.set_cons_succ, List.set_cons_zero]
    refine wpFreeD_oneW (by kernel_rfl) (.pointer (some ⟨g', 0, none⟩)) (fun w1 _ => by kernel_rfl) ?_
    simp only [Act.put, List.setIfInBounds_toArray, List.set_cons_succ, List.set_cons_zero]
    refine wpFreeD_oneW (by kernel_rfl) (.pointer (some ⟨g', 9, none⟩)) (fun w1 _ => by kernel_rfl) ?_
    simp only [Act.put, List.setIfInBounds_toArray, List.set_cons_succ, List.set_cons_zero]
    refine wpFreeD_load1W (by kernel_rfl) rfl rfl (p := ⟨g', 9, none⟩) (v := .bool _) (fun w1 h1 => (hRz.out w1 (le_trans (le_drewN _ _) h1)).cell? 9) ukindBool ?_
    simp only [Act.put, List.setIfInBounds_toArray, List.set_cons_succ, List.set_cons_zero]
    refine wpFreeD_oneW (by kernel_rfl) (.bool true) (fun w1 _ => by kernel_rfl) ?_
    simp only [Act.put, List.setIfInBounds_toArray, List.set_cons_succ, List.set_cons_zero]
    refine wpFreeD_one rfl (.bool true) (fun w1 _ => by kernel_rfl) ?_
    simp only [Act.put, List.setIfInBounds_toArray, List.set_cons_succ, List.set_cons_zero]
    refine wpFreeD_one rfl (.bool true) (fun w1 _ => by kernel_rfl) ?_
    simp only [Act.put, List.setIfInBounds_toArray, List.set_cons_succ, List.set_cons_zero]
    refine wpFreeD_oneW (by kernel_rfl) (.pointer (some ⟨g, 0, none⟩)) (fun w1 _ => by kernel_rfl) ?_
    simp only [Act.put, List.setIfInBounds_toArray, List.set_cons_succ, List.set_cons_zero]
    refine wpFreeD_oneW (by kernel_rfl) (.pointer (some ⟨g, 0, none⟩)) (fun w1 _ => by kernel_rfl) ?_
    simp only [Act.put, List.setIfInBounds_toArray, List.set_cons_succ, List.set_cons_zero]
    refine wpFreeD_oneW (by kernel_rfl) (.pointer (some ⟨g, 10, none⟩)) (fun w1 _ => by kernel_rfl) ?_
    simp only [Act.put, List.setIfInBounds_toArray, List.set_cons_succ, List.set_cons_zero]
    refine wpFreeD_load1W (by kernel_rfl) rfl rfl (p := ⟨g, 10, none⟩) (v := .float .f32 l) (fun w1 h1 => (hRw.out w1 (le_trans (le_drewN _ _) h1)).cell? 10) ukindFloat32 ?_
    simp only [Act.put, List.setIfInBounds_toArray, List.set_cons_succ, List.set_cons_zero]
    refine wpFreeD_oneW (by kernel_rfl) (.pointer (some ⟨g', 0, none⟩)) (fun w1 _ => by kernel_rfl) ?_
    simp only [Act.put, List.setIfInBounds_toArray, List.set_cons_succ, List.set_cons_zero]
    refine wpFreeD_oneW (by kernel_rfl) (.pointer (some ⟨g', 0, none⟩)) (fun w1 _ => by kernel_rfl) ?_
    simp only [Act.put, List.setIfInBounds_toArray, List.set_cons_succ, List.set_cons_zero]
    refine wpFreeD_oneW (by kernel_rfl) (.pointer (some ⟨g', 10, none⟩)) (fun w1 _ => by kernel_rfl) ?_
    simp only [Act.put, List.setIfInBounds_toArray, List.set_cons_succ, List.set_cons_zero]
    refine wpFreeD_load1W (by kernel_rfl) rfl rfl (p := ⟨g', 10, none⟩) (v := .float .f32 lZ) (fun w1 h1 => (hRz.out w1 (le_trans (le_drewN _ _) h1)).cell? 10) ukindFloat32 ?_
    simp only [Act.put, List.setIfInBounds_toArray, List.set_cons_succ, List.set_cons_zero]
    refine wpFreeD_callW (by kernel_rfl) rfl Try.func55 (by kernel_rfl) (by kernel_rfl) (args := #[.float .f32 l, .float .f32 lZ]) (by simp [Act.eval]) (fun v w1 w2 hw hv => hv) (fun w1 hw1 _ => (s_l01Same l lZ w1).mono ?_) ?_
    · rintro e w2 ⟨rfl, rfl⟩
      exact ⟨_, rfl, le_refl _, by simp only [show ¬ (55 = 52) by decide, show ¬ (55 = 53) by decide, show ¬ (55 = 54) by decide, if_false]; intro p q hpq; simp only [Array.mk.injEq, List.cons.injEq, Value.float.injEq, true_and, and_true] at hpq; rw [hpq.1, hpq.2]⟩
    rintro v ⟨_, _, _, hv⟩
    simp only [show ¬ (55 = 52) by decide, show ¬ (55 = 53) by decide, show ¬ (55 = 54) by decide, if_false] at hv
    obtain rfl := hv _ _ (by first | rfl | trivial)
    simp only [Act.put, List.setIfInBounds_toArray, List.set_cons_succ, List.set_cons_zero]
    rw [t5.out]
    refine wpFreeD_one rfl (.bool true) (fun w1 _ => by kernel_rfl) ?_
    simp only [Act.put, List.setIfInBounds_toArray, List.set_cons_succ, List.set_cons_zero]
    refine wpFreeD_one rfl (.bool true) (fun w1 _ => by kernel_rfl) ?_
    simp only [Act.put, List.setIfInBounds_toArray, List.set_cons_succ, List.set_cons_zero]
    refine wpFreeD_oneW (by kernel_rfl) (.pointer (some ⟨g, 0, none⟩)) (fun w1 _ => by kernel_rfl) ?_
    simp only [Act.put, List.setIfInBounds_toArray, List.set_cons_succ, List.set_cons_zero]
    refine wpFreeD_oneW (by kernel_rfl) (.pointer (some ⟨g, 0, none⟩)) (fun w1 _ => by kernel_rfl) ?_
    simp only [Act.put, List.setIfInBounds_toArray, List.set_cons_succ, List.set_cons_zero]
    refine wpFreeD_oneW (by kernel_rfl) (.pointer (some ⟨g, 11, none⟩)) (fun w1 _ => by kernel_rfl) ?_
    simp only [Act.put, List.setIfInBounds_toArray, List.set_cons_succ, List.set_cons_zero]
    refine wpFreeD_load1W (by kernel_rfl) rfl rfl (p := ⟨g, 11, none⟩) (v := .float .f32 r) (fun w1 h1 => (hRw.out w1 (le_trans (le_drewN _ _) h1)).cell? 11) ukindFloat32 ?_
    simp only [Act.put, List.setIfInBounds_toArray, List.set_cons_succ, List.set_cons_zero]
    refine wpFreeD_oneW (by kernel_rfl) (.pointer (some ⟨g', 0, none⟩)) (fun w1 _ => by kernel_rfl) ?_
    simp only [Act.put, List.setIfInBounds_toArray, List.set_cons_succ, List.set_cons_zero]
    refine wpFreeD_oneW (by kernel_rfl) (.pointer (some ⟨g', 0, none⟩)) (fun w1 _ => by kernel_rfl) ?_
    simp only [Act.put, List.setIfInBounds_toArray, List.set_cons_succ, List.set_cons_zero]
    refine wpFreeD_oneW (by kernel_rfl) (.pointer (some ⟨g', 11, none⟩)) (fun w1 _ => by kernel_rfl) ?_
    simp only [Act.put, List.setIfInBounds_toArray, List.set_cons_succ, List.set_cons_zero]
    refine wpFreeD_load1W (by kernel_rfl) rfl rfl (p := ⟨g', 11, none⟩) (v := .float .f32 rZ) (fun w1 h1 => (hRz.out w1 (le_trans (le_drewN _ _) h1)).cell? 11) ukindFloat32 ?_
    simp only [Act.put, List.setIfInBounds_toArray, List.set_cons_succ, List.set_cons_zero]
    refine wpFreeD_callW (by kernel_rfl) rfl Try.func55 (by kernel_rfl) (by kernel_rfl) (args := #[.float .f32 r, .float .f32 rZ]) (by simp [Act.eval]) (fun v w1 w2 hw hv => hv) (fun w1 hw1 _ => (s_l01Same r rZ w1).mono ?_) ?_
    · rintro e w2 ⟨rfl, rfl⟩
      exact ⟨_, rfl, le_refl _, by simp only [show ¬ (55 = 52) by decide, show ¬ (55 = 53) by decide, show ¬ (55 = 54) by decide, if_false]; intro p q hpq; simp only [Array.mk.injEq, List.cons.injEq, Value.float.injEq, true_and, and_true] at hpq; rw [hpq.1, hpq.2]⟩
    rintro v ⟨_, _, _, hv⟩
    simp only [show ¬ (55 = 52) by decide, show ¬ (55 = 53) by decide, show ¬ (55 = 54) by decide, if_false] at hv
    obtain rfl := hv _ _ (by first | rfl | trivial)
    simp only [Act.put, List.setIfInBounds_toArray, List.set_cons_succ, List.set_cons_zero]
    rw [t6.out]
    refine wpFreeD_one rfl (.bool false) (fun w1 _ => by kernel_rfl) ?_
    simp only [Act.put, List.setIfInBounds_toArray, List.set_cons_succ, List.set_cons_zero]
    refine wpFreeD_one rfl (.bool false) (fun w1 _ => by kernel_rfl) ?_
    simp only [Act.put, List.setIfInBounds_toArray, List.set_cons_succ, List.set_cons_zero]
    refine wpFreeD_skip (by kernel_rfl) ?_
    simp only [Act.put, List.setIfInBounds_toArray, List.set_cons_succ, List.set_cons_zero]
    refine wpFreeD_skip (by kernel_rfl) ?_
    simp only [Act.put, List.setIfInBounds_toArray, List.set_cons_succ, List.set_cons_zero]
    refine wpFreeD_skip (by kernel_rfl) ?_
    simp only [Act.put, List.setIfInBounds_toArray, List.set_cons_succ, List.set_cons_zero]
    refine wpFreeD_skip (by kernel_rfl) ?_
    simp only [Act.put, List.setIfInBounds_toArray, List.set_cons_succ, List.set_cons_zero]
    refine wpFreeD_skip (by kernel_rfl) ?_
    simp only [Act.put, List.setIfInBounds_toArray, List.set_cons_succ, List.set_cons_zero]
    refine wpFreeD_skip (by kernel_rfl) ?_
    simp only [Act.put, List.setIfInBounds_toArray, List.set_cons_succ, List.set_cons_zero]
    refine wpFreeD_skip (by kernel_rfl) ?_
    simp only [Act.put, List.setIfInBounds_toArray, List.set_cons_succ, List.set_cons_zero]
    refine wpFreeD_skip (by kernel_rfl) ?_
    simp only [Act.put, List.setIfInBounds_toArray, List.set_cons_succ, List.set_cons_zero]
    refine wpFreeD_skip (by kernel_rfl) ?_
    simp only [Act.put, List.setIfInBounds_toArray, List.set_cons_succ, List.set_cons_zero]
    refine wpFreeD_one rfl (.bool false) (fun w1 _ => by kernel_rfl) ?_
    simp only [Act.put, List.setIfInBounds_toArray, List.set_cons_succ, List.set_cons_zero]
    refine wpFreeD_one rfl (.bool false) (fun w1 _ => by kernel_rfl) ?_
    simp only [Act.put, List.setIfInBounds_toArray, List.set_cons_succ, List.set_cons_zero]
    refine wpFreeD_nil (fun wR hwR _ => ?_)
    have HLq := hid (le_trans (le_drewN _ _) hwR)
    clear hwR
    go_wp2
    go_ret
    exact ⟨rfl, HLq.out⟩
end Go.Proofs.Ytnkjmgadnejdlaa

/- A walk of 'l04Same'. -/
namespace Go.Proofs.Ytnkjmgadnejdlaa
open Go.RowKit Go.Fk
set_option maxRecDepth 100000 in
set_option maxHeartbeats 4000000 in
theorem l04SameW7 (g g' : Nat) (v0 v1 v2 v0Z v1Z v2Z : Value) (k : Int) (a b c x y : Nat) (op : Bool) (l r s : Nat) (kZ : Int) (aZ bZ cZ xZ yZ : Nat) (opZ : Bool) (lZ rZ sZ : Nat) (w : World) (hRw : Hid (∀ (w' : World), le w w' → Row w' g 36 #[v0, v1, v2, .int .i64 k, .float .f32 a, .float .f32 b, .float .f32 c, .float .f32 x, .float .f32 y, .bool op, .float .f32 l, .float .f32 r, .float .f32 s])) (hRz : Hid (∀ (w' : World), le w w' → Row w' g' 36 #[v0Z, v1Z, v2Z, .int .i64 kZ, .float .f32 aZ, .float .f32 bZ, .float .f32 cZ, .float .f32 xZ, .float .f32 yZ, .bool opZ, .float .f32 lZ, .float .f32 rZ, .float .f32 sZ]))
    (HR : Hid (∀ (w' : World), le w w' → Calls Try.prog 52 #[v0, v0Z] w' fun e w'' => e = .returned (.bool true) ∧ le w' w'')) (HL : Hid (∀ (w' : World), le w w' → Calls Try.prog 52 #[v1, v1Z] w' fun e w'' => e = .returned (.bool true) ∧ le w' w''))
    (HS : Hid (∀ (w' : World), le w w' → Calls Try.prog 53 #[v2, v2Z] w' fun e w'' => e = .returned (.bool true) ∧ ∃ n, w'' = w'.drewN n)) (HF : Hid (∀ (w' : World), le w w' → Calls Try.prog 54 #[.pointer (some ⟨g, 3, none⟩), .pointer (some ⟨g', 3, none⟩)] w' fun e w'' => e = .returned (.bool true) ∧ ∃ n, w'' = w'.drewN n)) (AG : v0 = v1 → v0Z = v1Z → true = true) (t4 : (op == opZ) = true) (t5 : Hid (sameB l lZ = true)) (t6 : Hid (sameB r rZ = true)) : Calls Try.prog 22 #[.pointer (some ⟨g, 0, none⟩), .pointer (some ⟨g', 0, none⟩)] w (Out_b (sameB s sZ) w) := by
  obtain rfl : op = opZ := by simpa using t4
  clear t4
  cases op
  all_goals
    go_enter Try.func22, Try.ntmps22
    go_wp2_with fail
    refine region_freeD (E := leX) (fun f args _ v => if f = 52 then (args = #[v0, v0Z] → v = .bool true) ∧ (args = #[v1, v1Z] → v = .bool true) else if f = 53 then v = .bool true else if f = 54 then v = .bool true else ∀ p q, args = #[.float .f32 p, .float .f32 q] → v = .bool (sameB p q)) (by kernel_rfl) (by kernel_rfl) ?_
    refine wpFreeD_one rfl (.pointer (some ⟨g, 0, none⟩)) (fun w1 _ => by kernel_rfl) ?_
    simp only [Act.put, List.setIfInBounds_toArray, List.set_cons_succ, List.set_cons_zero]
    refine wpFreeD_one rfl (.pointer (some ⟨g, 0, none⟩)) (fun w1 _ => by kernel_rfl) ?_
    simp only [Act.put, List.setIfInBounds_toArray, List.set_cons_succ, List.set_cons_zero]
    refine wpFreeD_one rfl (.pointer (some ⟨g, 0, none⟩)) (fun w1 _ => by kernel_rfl) ?_
    simp only [Act.put, List.setIfInBounds_toArray, List.set_cons_succ, List.set_cons_zero]
    refine wpFreeD_load1 rfl rfl rfl (p := ⟨g, 0, none⟩) (v := v0) (fun w1 h1 => (hRw.out w1 (le_trans (le_drewN _ _) h1)).cell? 0) ukindRingSI ?_
    simp only [Act.put, List.setIfInBounds_toArray, List.set_cons_succ, List.set_cons_zero]
    refine wpFreeD_one rfl (.pointer (some ⟨g', 0, none⟩)) (fun w1 _ => by kernel_rfl) ?_
    simp only [Act.put, List.setIfInBounds_toArray, List.set_cons_succ, List.set_cons_zero]
    refine wpFreeD_one rfl (.pointer (some ⟨g', 0, none⟩)) (fun w1 _ => by kernel_rfl) ?_
    simp only [Act.put, List.setIfInBounds_toArray, List.set_cons_succ, List.set_cons_zero]
    refine wpFreeD_one rfl (.pointer (some ⟨g', 0, none⟩)) (fun w1 _ => by kernel_rfl) ?_
    simp only [Act.put, List.setIfInBounds_toArray, List.set_cons_succ, List.set_cons_zero]
    refine wpFreeD_load1 rfl rfl rfl (p := ⟨g', 0, none⟩) (v := v0Z) (fun w1 h1 => (hRz.out w1 (le_trans (le_drewN _ _) h1)).cell? 0) ukindRingSI ?_
    simp only [Act.put, List.setIfInBounds_toArray, List.set_cons_succ, List.set_cons_zero]
    refine wpFreeD_callW (by kernel_rfl) rfl Try.func52 (by kernel_rfl) (by kernel_rfl) (args := #[v0, v0Z]) (by simp [Act.eval]) (fun v w1 w2 hw hv => hv) (fun w1 hw1 _ => (HR.out w1 (le_trans (le_drewN _ _) hw1)).mono ?_) ?_
    · rintro e w2 ⟨rfl, hl⟩
      exact ⟨_, rfl, hl, by simp only [if_true]; exact ⟨fun _ => by first | rfl | trivial, fun h => by first | rfl | trivial | (simp only [Array.mk.injEq, List.cons.injEq, and_true] at h; have h9 := AG h.1 h.2; rw [h9])⟩⟩
    rintro v ⟨_, _, _, hv⟩
    simp only [if_true] at hv
    obtain rfl := hv.1 (by first | rfl | trivial)
    simp only [Act.put, List.setIfInBounds_toArray, List.set_cons_succ, List.set_cons_zero]
    refine wpFreeD_one rfl (.bool true) (fun w1 _ => by kernel_rfl) ?_
    simp only [Act.put, List.setIfInBounds_toArray, List.set_cons_succ, List.set_cons_zero]
    refine wpFreeD_oneW (by kernel_rfl) (.pointer (some ⟨g, 0, none⟩)) (fun w1 _ => by kernel_rfl) ?_
    simp only [Act.put, List.setIfInBounds_toArray, List.set_cons_succ, List.set_cons_zero]
    refine wpFreeD_oneW (by kernel_rfl) (.pointer (some ⟨g, 0, none⟩)) (fun w1 _ => by kernel_rfl) ?_
    simp only [Act.put, List.setIfInBounds_toArray, List.set_cons_succ, List.set_cons_zero]
    refine wpFreeD_oneW (by kernel_rfl) (.pointer (some ⟨g, 1, none⟩)) (fun w1 _ => by kernel_rfl) ?_
    simp only [Act.put, List.setIfInBounds_toArray, List.set_cons_succ, List.set_cons_zero]
    refine wpFreeD_load1W (by kernel_rfl) rfl rfl (p := ⟨g, 1, none⟩) (v := v1) (fun w1 h1 => (hRw.out w1 (le_trans (le_drewN _ _) h1)).cell? 1) ukindRingSI ?_
    simp only [Act.put, List.setIfInBounds_toArray, List.set_cons_succ, List.set_cons_zero]
    refine wpFreeD_oneW (by kernel_rfl) (.pointer (some ⟨g', 0, none⟩)) (fun w1 _ => by kernel_rfl) ?_
    simp only [Act.put, List.setIfInBounds_toArray, List.set_cons_succ, List.set_cons_zero]
    refine wpFreeD_oneW (by kernel_rfl) (.pointer (some ⟨g', 0, none⟩)) (fun w1 _ => by kernel_rfl) ?_
    simp only [Act.put, List.setIfInBounds_toArray, List.set_cons_succ, List.set_cons_zero]
    refine wpFreeD_oneW (by kernel_rfl) (.pointer (some ⟨g', 1, none⟩)) (fun w1 _ => by kernel_rfl) ?_
    simp only [Act.put, List.setIfInBounds_toArray, List.set_cons_succ, List.set_cons_zero]
    refine wpFreeD_load1W (by kernel_rfl) rfl rfl (p := ⟨g', 1, none⟩) (v := v1Z) (fun w1 h1 => (hRz.out w1 (le_trans (le_drewN _ _) h1)).cell? 1) ukindRingSI ?_
    simp only [Act.put, List.setIfInBounds_toArray, List.set_cons_succ, List.set_cons_zero]
    refine wpFreeD_callW (by kernel_rfl) rfl Try.func52 (by kernel_rfl) (by kernel_rfl) (args := #[v1, v1Z]) (by simp [Act.eval]) (fun v w1 w2 hw hv => hv) (fun w1 hw1 _ => (HL.out w1 (le_trans (le_drewN _ _) hw1)).mono ?_) ?_
    · rintro e w2 ⟨rfl, hl⟩
      exact ⟨_, rfl, hl, by simp only [if_true]; exact ⟨fun h => by first | rfl | trivial | (simp only [Array.mk.injEq, List.cons.injEq, and_true] at h; have h9 := AG h.1.symm h.2.symm; rw [h9]), fun _ => by first | rfl | trivial⟩⟩
    rintro v ⟨_, _, _, hv⟩
    simp only [if_true] at hv
    obtain rfl := hv.2 (by first | rfl | trivial)
    simp only [Act.put, List.setIfInBounds_toArray, List.set_cons_succ, List.set_cons_zero]
    refine wpFreeD_one rfl (.bool true) (fun w1 _ => by kernel_rfl) ?_
    simp only [Act.put, List.setIfInBounds_toArray, List.set_cons_succ, List.set_cons_zero]
    refine wpFreeD_one rfl (.bool true) (fun w1 _ => by kernel_rfl) ?_
    simp only [Act.put, List.setIfInBounds_toArray, List.set_cons_succ, List.set_cons_zero]
    refine wpFreeD_oneW (by kernel_rfl) (.pointer (some ⟨g, 0, none⟩)) (fun w1 _ => by kernel_rfl) ?_
    simp only [Act.put, List.setIfInBounds_toArray, List.set_cons_succ, List.set_cons_zero]
    refine wpFreeD_oneW (by kernel_rfl) (.pointer (some ⟨g, 0, none⟩)) (fun w1 _ => by kernel_rfl) ?_
    simp only [Act.put, List.setIfInBounds_toArray, List.set_cons_succ, List.set_cons_zero]
    refine wpFreeD_oneW (by kernel_rfl) (.pointer (some ⟨g, 2, none⟩)) (fun w1 _ => by kernel_rfl) ?_
    simp only [Act.put, List.setIfInBounds_toArray, List.set_cons_succ, List.set_cons_zero]
    refine wpFreeD_load1W (by kernel_rfl) rfl rfl (p := ⟨g, 2, none⟩) (v := v2) (fun w1 h1 => (hRw.out w1 (le_trans (le_drewN _ _) h1)).cell? 2) ukindFloat32S ?_
    simp only [Act.put, List.setIfInBounds_toArray, List.set_cons_succ, List.set_cons_zero]
    refine wpFreeD_oneW (by kernel_rfl) (.pointer (some ⟨g', 0, none⟩)) (fun w1 _ => by kernel_rfl) ?_
    simp only [Act.put, List.setIfInBounds_toArray, List.set_cons_succ, List.set_cons_zero]
    refine wpFreeD_oneW (by kernel_rfl) (.pointer (some ⟨g', 0, none⟩)) (fun w1 _ => by kernel_rfl) ?_
    simp only [Act.put, List.setIfInBounds_toArray, List.set_cons_succ, List.set_cons_zero]
    refine wpFreeD_oneW (by kernel_rfl) (.pointer (some ⟨g', 2, none⟩)) (fun w1 _ => by kernel_rfl) ?_
    simp only [Act.put, List.setIfInBounds_toArray, List.set_cons_succ, List.set_cons_zero]
    refine wpFreeD_load1W (by kernel_rfl) rfl rfl (p := ⟨g', 2, none⟩) (v := v2Z) (fun w1 h1 => (hRz.out w1 (le_trans (le_drewN _ _) h1)).cell? 2) ukindFloat32S ?_
    simp only [Act.put, List.setIfInBounds_toArray, List.set_cons_succ, List.set_cons_zero]
    refine wpFreeD_callW (by kernel_rfl) rfl Try.func53 (by kernel_rfl) (by kernel_rfl) (args := #[v2, v2Z]) (by simp [Act.eval]) (fun v w1 w2 hw hv => hv) (fun w1 hw1 _ => (HS.out w1 (le_trans (le_drewN _ _) hw1)).mono ?_) ?_
    · rintro e w2 ⟨rfl, q9, rfl⟩
      exact ⟨_, rfl, le_drewN _ _, by simp only [show ¬ (53 = 52) by decide, if_false, if_true]⟩
    rintro v ⟨_, _, _, hv⟩
    simp only [show ¬ (53 = 52) by decide, if_false, if_true] at hv
    subst hv
    simp only [Act.put, List.setIfInBounds_toArray, List.set_cons_succ, List.set_cons_zero]
    refine wpFreeD_one rfl (.bool true) (fun w1 _ => by kernel_rfl) ?_
    simp only [Act.put, List.setIfInBounds_toArray, List.set_cons_succ, List.set_cons_zero]
    refine wpFreeD_one rfl (.bool true) (fun w1 _ => by kernel_rfl) ?_
    simp only [Act.put, List.setIfInBounds_toArray, List.set_cons_succ, List.set_cons_zero]
    refine wpFreeD_oneW (by kernel_rfl) (.pointer (some ⟨g, 0, none⟩)) (fun w1 _ => by kernel_rfl) ?_
    simp only [Act.put, List.setIfInBounds_toArray, List.set_cons_succ, List.set_cons_zero]
    refine wpFreeD_oneW (by kernel_rfl) (.pointer (some ⟨g, 0, none⟩)) (fun w1 _ => by kernel_rfl) ?_
    simp only [Act.put, List.setIfInBounds_toArray, List.set_cons_succ, List.set_cons_zero]
    refine wpFreeD_oneW (by kernel_rfl) (.pointer (some ⟨g, 3, none⟩)) (fun w1 _ => by kernel_rfl) ?_
    simp only [Act.put, List.setIfInBounds_toArray, List.set_cons_succ, List.set_cons_zero]
    refine wpFreeD_oneW (by kernel_rfl) (.pointer (some ⟨g', 0, none⟩)) (fun w1 _ => by kernel_rfl) ?_
    simp only [Act.put, List.setIfInBounds_toArray, List.set_cons_succ, List.set_cons_zero]
    refine wpFreeD_oneW (by kernel_rfl) (.pointer (some ⟨g', 0, none⟩)) (fun w1 _ => by kernel_rfl) ?_
    simp only [Act.put, List.setIfInBounds_toArray, List.set_cons_succ, List.set_cons_zero]
    refine wpFreeD_oneW (by kernel_rfl) (.pointer (some ⟨g', 3, none⟩)) (fun w1 _ => by kernel_rfl) ?_
    simp only [Act.put, List.setIfInBounds_toArray, List.set_cons_succ, List.set_cons_zero]
    refine wpFreeD_callW (by kernel_rfl) rfl Try.func54 (by kernel_rfl) (by kernel_rfl) (args := #[.pointer (some ⟨g, 3, none⟩), .pointer (some ⟨g', 3, none⟩)]) (by simp [Act.eval]) (fun v w1 w2 hw hv => hv) (fun w1 hw1 _ => (HF.out w1 (le_trans (le_drewN _ _) hw1)).mono ?_) ?_
    · rintro e w2 ⟨rfl, q9, rfl⟩
      exact ⟨_, rfl, le_drewN _ _, by simp only [show ¬ (54 = 52) by decide, show ¬ (54 = 53) by decide, if_false, if_true]⟩
    rintro v ⟨_, _, _, hv⟩
    simp only [show ¬ (54 = 52) by decide, show ¬ (54 = 53) by decide, if_false, if_true] at hv
    subst hv
    simp only [Act.put, List.setIfInBounds_toArray, List.set_cons_succ, List.set_cons_zero]
    refine wpFreeD_one rfl (.bool true) (fun w1 _ => by kernel_rfl) ?_
    simp only [Act.put, List.setIfInBounds_toArray, List.set_cons_succ, List.set_cons_zero]
    refine wpFreeD_one rfl (.bool true) (fun w1 _ => by kernel_rfl) ?_
    simp only [Act.put, List.setIfInBounds_toArray, List.set_cons_succ, List.set_cons_zero]
    refine wpFreeD_oneW (by kernel_rfl) (.pointer (some ⟨g, 0, none⟩)) (fun w1 _ => by kernel_rfl) ?_
    simp only [Act.put, List.setIfInBounds_toArray, List.set_cons_succ, List.set_cons_zero]
    refine wpFreeD_oneW (by kernel_rfl) (.pointer (some ⟨g, 0, none⟩)) (fun w1 _ => by kernel_rfl) ?_
    simp only [Act.put, List.setIfInBounds_toArray, List.set_cons_succ, List.set_cons_zero]
    refine wpFreeD_oneW (by kernel_rfl) (.pointer (some ⟨g, 9, none⟩)) (fun w1 _ => by kernel_rfl) ?_
    simp only [Act.put, List.setIfInBounds_toArray, List.set_cons_succ, List.set_cons_zero]
    refine wpFreeD_load1W (by kernel_rfl) rfl rfl (p := ⟨g, 9, none⟩) (v := .bool _) (fun w1 h1 => (hRw.out w1 (le_trans (le_drewN _ _) h1)).cell? 9) ukindBool ?_
    simp only [Act.put, List.setIfInBounds_toArray, List.set_cons_succ, List.set_cons_zero]
    refine wpFreeD_oneW (by kernel_rfl) (.pointer (some ⟨g', 0, none⟩)) (fun w1 _ => by kernel_rfl) ?_
    simp only [Act.put, List.setIfInBounds_toArray, List.set_cons_succ, List.set_cons_zero]
    refine wpFreeD_oneW (by kernel_rfl) (.pointer (some ⟨g', 0, none⟩)) (fun w1 _ => by kernel_rfl) ?_
    simp only [Act.put, List.setIfInBounds_toArray, List.set_cons_succ, List.set_cons_zero]
    refine wpFreeD_oneW (by kernel_rfl) (.pointer (some ⟨g', 9, none⟩)) (fun w1 _ => by kernel_rfl) ?_
    simp only [Act.put, List.setIfInBounds_toArray, List.set_cons_succ, List.set_cons_zero]
    refine wpFreeD_load1W (by kernel_rfl) rfl rfl (p := ⟨g', 9, none⟩) (v := .bool _) (fun w1 h1 => (hRz.out w1 (le_trans (le_drewN _ _) h1)).cell? 9) ukindBool ?_
    simp only [Act.put, List.setIfInBounds_toArray, List.set_cons_succ, List.set_cons_zero]
    refine wpFreeD_oneW (by kernel_rfl) (.bool true) (fun w1 _ => by kernel_rfl) ?_
    simp only [Act.put, List.setIfInBounds_toArray, List.set_cons_succ, List.set_cons_zero]
    refine wpFreeD_one rfl (.bool true) (fun w1 _ => by kernel_rfl) ?_
    simp only [Act.put, List.setIfInBounds_toArray, List.set_cons_succ, List.set_cons_zero]
    refine wpFreeD_one rfl (.bool true) (fun w1 _ => by kernel_rfl) ?_
    simp only [Act.put, List.setIfInBounds_toArray, List.set_cons_succ, List.set_cons_zero]
    refine wpFreeD_oneW (by kernel_rfl) (.pointer (some ⟨g, 0, none⟩)) (fun w1 _ => by kernel_rfl) ?_
    simp only [Act.put, List.setIfInBounds_toArray, List.set_cons_succ, List.set_cons_zero]
    refine wpFreeD_oneW (by kernel_rfl) (.pointer (some ⟨g, 0, none⟩)) (fun w1 _ => by kernel_rfl) ?_
    simp only [Act.put, List.setIfInBounds_toArray, List.set_cons_succ, List.set_cons_zero]
    refine wpFreeD_oneW (by kernel_rfl) (.pointer (some ⟨g, 10, none⟩)) (fun w1 _ => by kernel_rfl) ?_
    simp only [Act.put, List.setIfInBounds_toArray, List.set_cons_succ, List.set_cons_zero]
    refine wpFreeD_load1W (by kernel_rfl) rfl rfl (p := ⟨g, 10, none⟩) (v := .float .f32 l) (fun w1 h1 => (hRw.out w1 (le_trans (le_drewN _ _) h1)).cell? 10) ukindFloat32 ?_
    simp only [Act.put, List.setIfInBounds_toArray, List.set_cons_succ, List.set_cons_zero]
    refine wpFreeD_oneW (by kernel_rfl) (.pointer (some ⟨g', 0, none⟩)) (fun w1 _ => by kernel_rfl) ?_
    simp only [Act.put, List.setIfInBounds_toArray, List.set_cons_succ, List.set_cons_zero]
    refine wpFreeD_oneW (by kernel_rfl) (.pointer (some ⟨g', 0, none⟩)) (fun w1 _ => by kernel_rfl) ?_
    simp only [Act.put, List.setIfInBounds_toArray, List.set_cons_succ, List.set_cons_zero]
    refine wpFreeD_oneW (by kernel_rfl) (.pointer (some ⟨g', 10, none⟩)) (fun w1 _ => by kernel_rfl) ?_
    simp only [Act.put, List.setIfInBounds_toArray, List.set_cons_succ, List.set_cons_zero]
    refine wpFreeD_load1W (by kernel_rfl) rfl rfl (p := ⟨g', 10, none⟩) (v := .float .f32 lZ) (fun w1 h1 => (hRz.out w1 (le_trans (le_drewN _ _) h1)).cell? 10) ukindFloat32 ?_
    simp only [Act.put, List.setIfInBounds_toArray, List.set_cons_succ, List.set_cons_zero]
    refine wpFreeD_callW (by kernel_rfl) rfl Try.func55 (by kernel_rfl) (by kernel_rfl) (args := #[.float .f32 l, .float .f32 lZ]) (by simp [Act.eval]) (fun v w1 w2 hw hv => hv) (fun w1 hw1 _ => (s_l01Same l lZ w1).mono ?_) ?_
    · rintro e w2 ⟨rfl, rfl⟩
      exact ⟨_, rfl, le_refl _, by simp only [show ¬ (55 = 52) by decide, show ¬ (55 = 53) by decide, show ¬ (55 = 54) by decide, if_false]; intro p q hpq; simp only [Array.mk.injEq, List.cons.injEq, Value.float.injEq, true_and, and_true] at hpq; rw [hpq.1, hpq.2]⟩
    rintro v ⟨_, _, _, hv⟩
    simp only [show ¬ (55 = 52) by decide, show ¬ (55 = 53) by decide, show ¬ (55 = 54) by decide, if_false] at hv
    obtain rfl := hv _ _ (by first | rfl | trivial)
    simp only [Act.put, List.setIfInBounds_toArray, List.set_cons_succ, List.set_cons_zero]
    rw [t5.out]
    refine wpFreeD_one rfl (.bool true) (fun w1 _ => by kernel_rfl) ?_
    simp only [Act.put, List.setIfInBounds_toArray, List.set_cons_succ, List.set_cons_zero]
    refine wpFreeD_one rfl (.bool true) (fun w1 _ => by kernel_rfl) ?_
    simp only [Act.put, List.setIfInBounds_toArray, List.set_cons_succ, List.set_cons_zero]
    refine wpFreeD_oneW (by kernel_rfl) (.pointer (some ⟨g, 0, none⟩)) (fun w1 _ => by kernel_rfl) ?_
    simp only [Act.put, List.setIfInBounds_toArray, List.set_cons_succ, List.set_cons_zero]
    refine wpFreeD_oneW (by kernel_rfl) (.pointer (some ⟨g, 0, none⟩)) (fun w1 _ => by kernel_rfl) ?_
    simp only [Act.put, List.setIfInBounds_toArray, List.set_cons_succ, List.set_cons_zero]
    refine wpFreeD_oneW (by kernel_rfl) (.pointer (some ⟨g, 11, none⟩)) (fun w1 _ => by kernel_rfl) ?_
    simp only [Act.put, List.setIfInBounds_toArray, List.set_cons_succ, List.set_cons_zero]
    refine wpFreeD_load1W (by kernel_rfl) rfl rfl (p := ⟨g, 11, none⟩) (v := .float .f32 r) (fun w1 h1 => (hRw.out w1 (le_trans (le_drewN _ _) h1)).cell? 11) ukindFloat32 ?_
    simp only [Act.put, List.setIfInBounds_toArray, List.set_cons_succ, List.set_cons_zero]
    refine wpFreeD_oneW (by kernel_rfl) (.pointer (some ⟨g', 0, none⟩)) (fun w1 _ => by kernel_rfl) ?_
    simp only [Act.put, List.setIfInBounds_toArray, List.set_cons_succ, List.set_cons_zero]
    refine wpFreeD_oneW (by kernel_rfl) (.pointer (some ⟨g', 0, none⟩)) (fun w1 _ => by kernel_rfl) ?_
    simp only [Act.put, List.setIfInBounds_toArray, List.set_cons_succ, List.set_cons_zero]
    refine wpFreeD_oneW (by kernel_rfl) (.pointer (some ⟨g', 11, none⟩)) (fun w1 _ => by kernel_rfl) ?_
    simp only [Act.put, List.setIfInBounds_toArray, List.set_cons_succ, List.set_cons_zero]
    refine wpFreeD_load1W (by kernel_rfl) rfl rfl (p := ⟨g', 11, none⟩) (v := .float .f32 rZ) (fun w1 h1 => (hRz.out w1 (le_trans (le_drewN _ _) h1)).cell? 11) ukindFloat32 ?_
    simp only [Act.put, List.setIfInBounds_toArray, List.set_cons_succ, List.set_cons_zero]
    refine wpFreeD_callW (by kernel_rfl) rfl Try.func55 (by kernel_rfl) (by kernel_rfl) (args := #[.float .f32 r, .float .f32 rZ]) (by simp [Act.eval]) (fun v w1 w2 hw hv => hv) (fun w1 hw1 _ => (s_l01Same r rZ w1).mono ?_) ?_
    · rintro e w2 ⟨rfl, rfl⟩
      exact ⟨_, rfl, le_refl _, by simp only [show ¬ (55 = 52) by decide, show ¬ (55 = 53) by decide, show ¬ (55 = 54) by decide, if_false]; intro p q hpq; simp only [Array.mk.injEq, List.cons.injEq, Value.float.injEq, true_and, and_true] at hpq; rw [hpq.1, hpq.2]⟩
    rintro v ⟨_, _, _, hv⟩
    simp only [show ¬ (55 = 52) by decide, show ¬ (55 = 53) by decide, show ¬ (55 = 54) by decide, if_false] at hv
    obtain rfl := hv _ _ (by first | rfl | trivial)
    simp only [Act.put, List.setIfInBounds_toArray, List.set_cons_succ, List.set_cons_zero]
    rw [t6.out]
    refine wpFreeD_one rfl (.bool true) (fun w1 _ => by kernel_rfl) ?_
    simp only [Act.put, List.setIfInBounds_toArray, List.set_cons_succ, List.set_cons_zero]
    refine wpFreeD_one rfl (.bool true) (fun w1 _ => by kernel_rfl) ?_
    simp only [Act.put, List.setIfInBounds_toArray, List.set_cons_succ, List.set_cons_zero]
    refine wpFreeD_oneW (by kernel_rfl) (.pointer (some ⟨g, 0, none⟩)) (fun w1 _ => by kernel_rfl) ?_
    simp only [Act.put, List.setIfInBounds_toArray, List.set_cons_succ, List.set_cons_zero]
    refine wpFreeD_oneW (by kernel_rfl) (.pointer (some ⟨g, 0, none⟩)) (fun w1 _ => by kernel_rfl) ?_
    simp only [Act.put, List.setIfInBounds_toArray, List.set_cons_succ, List.set_cons_zero]
    refine wpFreeD_oneW (by kernel_rfl) (.pointer (some ⟨g, 12, none⟩)) (fun w1 _ => by kernel_rfl) ?_
    simp only [Act.put, List.setIfInBounds_toArray, List.set_cons_succ, List.set_cons_zero]
    refine wpFreeD_load1W (by kernel_rfl) rfl rfl (p := ⟨g, 12, none⟩) (v := .float .f32 s) (fun w1 h1 => (hRw.out w1 (le_trans (le_drewN _ _) h1)).cell? 12) ukindFloat32 ?_
    simp only [Act.put, List.setIfInBounds_toArray, List.set_cons_succ, List.set_cons_zero]
    refine wpFreeD_oneW (by kernel_rfl) (.pointer (some ⟨g', 0, none⟩)) (fun w1 _ => by kernel_rfl) ?_
    simp only [Act.put, List.setIfInBounds_toArray, List.set_cons_succ, List.set_cons_zero]
    refine wpFreeD_oneW (by kernel_rfl) (.pointer (some ⟨g', 0, none⟩)) (fun w1 _ => by kernel_rfl) ?_
    simp only [Act.put, List.setIfInBounds_toArray, List.set_cons_succ, List.set_cons_zero]
    refine wpFreeD_oneW (by kernel_rfl) (.pointer (some ⟨g', 12, none⟩)) (fun w1 _ => by kernel_rfl) ?_
    simp only [Act.put, List.setIfInBounds_toArray, List.set_cons_succ, List.set_cons_zero]
    refine wpFreeD_load1W (by kernel_rfl) rfl rfl (p := ⟨g', 12, none⟩) (v := .float .f32 sZ) (fun w1 h1 => (hRz.out w1 (le_trans (le_drewN _ _) h1)).cell? 12) ukindFloat32 ?_
    simp only [Act.put, List.setIfInBounds_toArray, List.set_cons_succ, List.set_cons_zero]
    refine wpFreeD_callW (by kernel_rfl) rfl Try.func55 (by kernel_rfl) (by kernel_rfl) (args := #[.float .f32 s, .float .f32 sZ]) (by simp [Act.eval]) (fun v w1 w2 hw hv => hv) (fun w1 hw1 _ => (s_l01Same s sZ w1).mono ?_) ?_
    · rintro e w2 ⟨rfl, rfl⟩
      exact ⟨_, rfl, le_refl _, by simp only [show ¬ (55 = 52) by decide, show ¬ (55 = 53) by decide, show ¬ (55 = 54) by decide, if_false]; intro p q hpq; simp only [Array.mk.injEq, List.cons.injEq, Value.float.injEq, true_and, and_true] at hpq; rw [hpq.1, hpq.2]⟩
    rintro v ⟨_, _, _, hv⟩
    simp only [show ¬ (55 = 52) by decide, show ¬ (55 = 53) by decide, show ¬ (55 = 54) by decide, if_false] at hv
    obtain rfl := hv _ _ (by first | rfl | trivial)
    simp only [Act.put, List.setIfInBounds_toArray, List.set_cons_succ, List.set_cons_zero]
    refine wpFreeD_one rfl (.bool (sameB s sZ)) (fun w1 _ => by kernel_rfl) ?_
    simp only [Act.put, List.setIfInBounds_toArray, List.set_cons_succ, List.set_cons_zero]
    refine wpFreeD_one rfl (.bool (sameB s sZ)) (fun w1 _ => by kernel_rfl) ?_
    simp only [Act.put, List.setIfInBounds_toArray, List.set_cons_succ, List.set_cons_zero]
    refine wpFreeD_nil (fun wR hwR _ => ?_)
    have HLq := hid (le_trans (le_drewN _ _) hwR)
    clear hwR
    go_wp2
    go_ret
    exact ⟨rfl, HLq.out⟩
end Go.Proofs.Ytnkjmgadnejdlaa

/- 'SamePipe' of both. -/
namespace Go.Proofs.Ytnkjmgadnejdlaa
open Go.RowKit Go.Fk
set_option maxRecDepth 100000 in
set_option maxHeartbeats 4000000 in
theorem s_l04Same (g g' : Nat) (B BZ : Nat) (v0 v1 v2 v0Z v1Z v2Z : Value) (nR nL nS : Nat) (xR xL : Nat → CD) (yS : Nat → Nat) (k : Int) (a b c x y : Nat) (op : Bool) (l r s : Nat) (nRZ nLZ nSZ : Nat) (xRZ xLZ : Nat → CD) (ySZ : Nat → Nat) (kZ : Int) (aZ bZ cZ xZ yZ : Nat) (opZ : Bool) (lZ rZ sZ : Nat) (w : World) (h0 : (CD.sl 2 nR xR).RdN w B v0) (h1 : (CD.sl 2 nL xL).RdN w B v1) (h2 : RdS w B v2 yS nS) (p0 : RgsOk xR nR) (p1 : RgsOk xL nL) (h0Z : (CD.sl 2 nRZ xRZ).RdN w BZ v0Z) (h1Z : (CD.sl 2 nLZ xLZ).RdN w BZ v1Z) (h2Z : RdS w BZ v2Z ySZ nSZ) (p0Z : RgsOk xRZ nRZ) (p1Z : RgsOk xLZ nLZ) (HRA : Row w g 36 #[v0, v1, v2, .int .i64 k, .float .f32 a, .float .f32 b, .float .f32 c, .float .f32 x, .float .f32 y, .bool op, .float .f32 l, .float .f32 r, .float .f32 s]) (HRZ : Row w g' 36 #[v0Z, v1Z, v2Z, .int .i64 kZ, .float .f32 aZ, .float .f32 bZ, .float .f32 cZ, .float .f32 xZ, .float .f32 yZ, .bool opZ, .float .f32 lZ, .float .f32 rZ, .float .f32 sZ]) :
    Calls Try.prog 22 #[.pointer (some ⟨g, 0, none⟩), .pointer (some ⟨g', 0, none⟩)] w (Out_b (sameP nR nL nS xR xL yS k a b c x y op l r s nRZ nLZ nSZ xRZ xLZ ySZ kZ aZ bZ cZ xZ yZ opZ lZ rZ sZ) w) := by
  have HR := hid (fun (w' : World) (hl : le w w') => s_l04SameRings B BZ v0 v0Z xR xRZ nR nRZ w' (h0.le hl) (h0Z.le hl) p0 p0Z)
  have HL := hid (fun (w' : World) (hl : le w w') => s_l04SameRings B BZ v1 v1Z xL xLZ nL nLZ w' (h1.le hl) (h1Z.le hl) p1 p1Z)
  have HS := hid (fun (w' : World) (hl : le w w') => s_l02SameListR B BZ v2 v2Z yS ySZ nS nSZ w' (h2.le hl) (h2Z.le hl))
  have AG : v0 = v1 → v0Z = v1Z → sameRgs xR xRZ nR nRZ = sameRgs xL xLZ nL nLZ := fun e1 e2 => agree_b (HR.out w (le_refl _)) (by rw [e1, e2]; exact HL.out w (le_refl _)) (by kernel_rfl)
  have HF := hid (fun (w' : World) (hl : le w w') => s_l02SameAt k a b c x y kZ aZ bZ cZ xZ yZ g g' 3 3 w' ⟨(HRA.le hl).cell? 3, fun i hi => by match i, hi with | 0, _ => exact (HRA.le hl).cell? 4 | 1, _ => exact (HRA.le hl).cell? 5 | 2, _ => exact (HRA.le hl).cell? 6, fun i hi => by match i, hi with | 0, _ => exact (HRA.le hl).cell? 7 | 1, _ => exact (HRA.le hl).cell? 8⟩ ⟨(HRZ.le hl).cell? 3, fun i hi => by match i, hi with | 0, _ => exact (HRZ.le hl).cell? 4 | 1, _ => exact (HRZ.le hl).cell? 5 | 2, _ => exact (HRZ.le hl).cell? 6, fun i hi => by match i, hi with | 0, _ => exact (HRZ.le hl).cell? 7 | 1, _ => exact (HRZ.le hl).cell? 8⟩)
  have hRw := hid (fun (w' : World) (hl : le w w') => HRA.le hl); have hRz := hid (fun (w' : World) (hl : le w w') => HRZ.le hl)
  clear h0 h1 h2 p0 p1 h0Z h1Z h2Z p0Z p1Z HRA HRZ
  change Calls _ _ _ _ (Out_b (sameRgs xR xRZ nR nRZ && sameRgs xL xLZ nL nLZ && sameS yS ySZ nS nSZ && sameFl k a b c x y kZ aZ bZ cZ xZ yZ && (op == opZ) && sameB l lZ && sameB r rZ && sameB s sZ) w)
  obtain ⟨e0, he0⟩ : ∃ e, e = sameRgs xR xRZ nR nRZ := ⟨_, rfl⟩
  obtain ⟨e1, he1⟩ : ∃ e, e = sameRgs xL xLZ nL nLZ := ⟨_, rfl⟩
  obtain ⟨e2, he2⟩ : ∃ e, e = sameS yS ySZ nS nSZ := ⟨_, rfl⟩
  obtain ⟨e3, he3⟩ : ∃ e, e = sameFl k a b c x y kZ aZ bZ cZ xZ yZ := ⟨_, rfl⟩
  rw [← he0, ← he1] at AG
  rw [← he0] at HR
  rw [← he1] at HL
  rw [← he2] at HS
  have he3' := he3
  unfold sameFl at he3'
  rw [← he3'] at HF
  clear he3'
  rw [← he0, ← he1, ← he2, ← he3]
  clear he0 he1 he2 he3
  cases e0
  · rw [show (false && e1 && e2 && e3 && (op == opZ) && sameB l lZ && sameB r rZ && sameB s sZ) = false by simp]
    exact l04SameW0 g g' v0 v1 v2 v0Z v1Z v2Z k a b c x y op l r s kZ aZ bZ cZ xZ yZ opZ lZ rZ sZ w e1 e2 e3 hRw hRz HR HL HS HF AG
  cases e1
  · rw [show (true && false && e2 && e3 && (op == opZ) && sameB l lZ && sameB r rZ && sameB s sZ) = false by simp]
    exact l04SameW1 g g' v0 v1 v2 v0Z v1Z v2Z k a b c x y op l r s kZ aZ bZ cZ xZ yZ opZ lZ rZ sZ w e2 e3 hRw hRz HR HL HS HF AG
  cases e2
  · rw [show (true && true && false && e3 && (op == opZ) && sameB l lZ && sameB r rZ && sameB s sZ) = false by simp]
    exact l04SameW2 g g' v0 v1 v2 v0Z v1Z v2Z k a b c x y op l r s kZ aZ bZ cZ xZ yZ opZ lZ rZ sZ w e3 hRw hRz HR HL HS HF AG
  cases e3
  · rw [show (true && true && true && false && (op == opZ) && sameB l lZ && sameB r rZ && sameB s sZ) = false by simp]
    exact l04SameW3 g g' v0 v1 v2 v0Z v1Z v2Z k a b c x y op l r s kZ aZ bZ cZ xZ yZ opZ lZ rZ sZ w  hRw hRz HR HL HS HF AG
  rcases bool_ft (op == opZ) with t4 | t4
  · rw [show (true && true && true && true && (op == opZ) && sameB l lZ && sameB r rZ && sameB s sZ) = false by simp [t4]]
    exact l04SameW4 g g' v0 v1 v2 v0Z v1Z v2Z k a b c x y op l r s kZ aZ bZ cZ xZ yZ opZ lZ rZ sZ w hRw hRz HR HL HS HF AG t4
  rcases bool_ft (sameB l lZ) with q5 | q5
  · rw [show (true && true && true && true && (op == opZ) && sameB l lZ && sameB r rZ && sameB s sZ) = false by simp [q5]]
    exact l04SameW5 g g' v0 v1 v2 v0Z v1Z v2Z k a b c x y op l r s kZ aZ bZ cZ xZ yZ opZ lZ rZ sZ w hRw hRz HR HL HS HF AG t4 (hid q5)
  rcases bool_ft (sameB r rZ) with q6 | q6
  · rw [show (true && true && true && true && (op == opZ) && sameB l lZ && sameB r rZ && sameB s sZ) = false by simp [q6]]
    exact l04SameW6 g g' v0 v1 v2 v0Z v1Z v2Z k a b c x y op l r s kZ aZ bZ cZ xZ yZ opZ lZ rZ sZ w hRw hRz HR HL HS HF AG t4 (hid q5) (hid q6)
  rw [show (true && true && true && true && (op == opZ) && sameB l lZ && sameB r rZ && sameB s sZ) = sameB s sZ by simp [t4, q5, q6]]
  exact l04SameW7 g g' v0 v1 v2 v0Z v1Z v2Z k a b c x y op l r s kZ aZ bZ cZ xZ yZ opZ lZ rZ sZ w hRw hRz HR HL HS HF AG t4 (hid q5) (hid q6)
set_option maxRecDepth 100000 in
set_option maxHeartbeats 4000000 in
theorem s_SamePipe (B BZ : Nat) (v0 v1 v2 v0Z v1Z v2Z : Value) (nR nL nS : Nat) (xR xL : Nat → CD) (yS : Nat → Nat) (k : Int) (a b c x y : Nat) (op : Bool) (l r s : Nat) (nRZ nLZ nSZ : Nat) (xRZ xLZ : Nat → CD) (ySZ : Nat → Nat) (kZ : Int) (aZ bZ cZ xZ yZ : Nat) (opZ : Bool) (lZ rZ sZ : Nat) (w : World) (h0 : (CD.sl 2 nR xR).RdN w B v0) (h1 : (CD.sl 2 nL xL).RdN w B v1) (h2 : RdS w B v2 yS nS) (p0 : RgsOk xR nR) (p1 : RgsOk xL nL) (h0Z : (CD.sl 2 nRZ xRZ).RdN w BZ v0Z) (h1Z : (CD.sl 2 nLZ xLZ).RdN w BZ v1Z) (h2Z : RdS w BZ v2Z ySZ nSZ) (p0Z : RgsOk xRZ nRZ) (p1Z : RgsOk xLZ nLZ) :
    Calls Try.prog 8 #[.agg #[v0, v1, v2, .int .i64 k, .float .f32 a, .float .f32 b, .float .f32 c, .float .f32 x, .float .f32 y, .bool op, .float .f32 l, .float .f32 r, .float .f32 s], .agg #[v0Z, v1Z, v2Z, .int .i64 kZ, .float .f32 aZ, .float .f32 bZ, .float .f32 cZ, .float .f32 xZ, .float .f32 yZ, .bool opZ, .float .f32 lZ, .float .f32 rZ, .float .f32 sZ]] w (Out_b (sameP nR nL nS xR xL yS k a b c x y op l r s nRZ nLZ nSZ xRZ xLZ ySZ kZ aZ bZ cZ xZ yZ opZ lZ rZ sZ) w) := by
  have HV := hid (fun (g9 g8 : Nat) (w' : World) (hl : le w w') (R : Row w' g9 36 #[v0, v1, v2, .int .i64 k, .float .f32 a, .float .f32 b, .float .f32 c, .float .f32 x, .float .f32 y, .bool op, .float .f32 l, .float .f32 r, .float .f32 s]) (R1 : Row w' g8 36 #[v0Z, v1Z, v2Z, .int .i64 kZ, .float .f32 aZ, .float .f32 bZ, .float .f32 cZ, .float .f32 xZ, .float .f32 yZ, .bool opZ, .float .f32 lZ, .float .f32 rZ, .float .f32 sZ]) => s_l04Same g9 g8 B BZ v0 v1 v2 v0Z v1Z v2Z nR nL nS xR xL yS k a b c x y op l r s nRZ nLZ nSZ xRZ xLZ ySZ kZ aZ bZ cZ xZ yZ opZ lZ rZ sZ w' (h0.le hl) (h1.le hl) (h2.le hl) p0 p1 (h0Z.le hl) (h1Z.le hl) (h2Z.le hl) p0Z p1Z R R1)
  have F := ((Frg.nil w).box 36 #[v0, v1, v2, .int .i64 k, .float .f32 a, .float .f32 b, .float .f32 c, .float .f32 x, .float .f32 y, .bool op, .float .f32 l, .float .f32 r, .float .f32 s]).box 36 #[v0Z, v1Z, v2Z, .int .i64 kZ, .float .f32 aZ, .float .f32 bZ, .float .f32 cZ, .float .f32 xZ, .float .f32 yZ, .bool opZ, .float .f32 lZ, .float .f32 rZ, .float .f32 sZ]
  simp only [World.size_alloc] at F
  clear h0 h1 h2 p0 p1 h0Z h1Z h2Z p0Z p1Z
  go_enter Try.func8, Try.ntmps8
  go_wp2_with (first | ((with_reducible refine listN F ?_); clear F; intro wN F) | (go_at_call 22; ((with_reducible refine (HV.out _ _ _ F.below (F.row m1) (F.row m0)).mono ?_); rintro e w1 ⟨rfl, hl⟩; replace F := F.le hl; clear hl)))
  go_ret
  exact ⟨rfl, F.below⟩
theorem both_SamePipe (cs csZ : List CD) (h : HasShL shPipe cs) (hZ : HasShL shPipe csZ) : ∃ ar0 : Bool, (∀ (w : World) (B : Nat) (u : List Value) (BZ : Nat) (uZ : List Value), RdLN w B (cs.map CD.cp) u → RdLN w BZ (csZ.map CD.cp) uZ → Calls Try.prog 8 #[.agg u.toArray, .agg uZ.toArray] w (Out_b ar0 w)) ∧ (∀ (w : World) (B : Nat) (u : List Value) (BZ : Nat) (uZ : List Value), RdLN w B (cs.map CD.cp) u → RdLN w BZ (csZ.map CD.cp) uZ → Calls Try.prog 10 #[.agg u.toArray, .agg uZ.toArray] w (Out_b ar0 w)) := by
  obtain ⟨nR, nL, nS, xR, xL, xS, k, a, b, c, x, y, op, l, r, s, rfl, p0, p1, hS⟩ := pipe_data h
  obtain ⟨nRZ, nLZ, nSZ, xRZ, xLZ, xSZ, kZ, aZ, bZ, cZ, xZ, yZ, opZ, lZ, rZ, sZ, rfl, p0Z, p1Z, hSZ⟩ := pipe_data hZ
  refine ⟨sameP nR nL nS (fun i => (xR i).cn) (fun i => (xL i).cn) (fun i => (xS i).cn.fx) k a b c x y op l r s nRZ nLZ nSZ (fun i => (xRZ i).cn) (fun i => (xLZ i).cn) (fun i => (xSZ i).cn.fx) kZ aZ bZ cZ xZ yZ opZ lZ rZ sZ, fun w B u BZ uZ hu huZ => ?_, fun w B u BZ uZ hu huZ => ?_⟩
  · obtain ⟨v0, v1, v2, rfl, h0, h1, h2, _, _⟩ := pipe_open hu hS
    obtain ⟨v0Z, v1Z, v2Z, rfl, h0Z, h1Z, h2Z, _, _⟩ := pipe_open huZ hSZ
    exact s_SamePipe B BZ v0 v1 v2 v0Z v1Z v2Z nR nL nS (fun i => (xR i).cn) (fun i => (xL i).cn) (fun i => (xS i).cn.fx) k a b c x y op l r s nRZ nLZ nSZ (fun i => (xRZ i).cn) (fun i => (xLZ i).cn) (fun i => (xSZ i).cn.fx) kZ aZ bZ cZ xZ yZ opZ lZ rZ sZ w h0 h1 h2 p0 p1 h0Z h1Z h2Z p0Z p1Z
  · obtain ⟨v0, v1, v2, rfl, h0, h1, h2, _, _⟩ := pipe_open hu hS
    obtain ⟨v0Z, v1Z, v2Z, rfl, h0Z, h1Z, h2Z, _, _⟩ := pipe_open huZ hSZ
    exact i_SamePipe B BZ v0 v1 v2 v0Z v1Z v2Z nR nL nS (fun i => (xR i).cn) (fun i => (xL i).cn) (fun i => (xS i).cn.fx) k a b c x y op l r s nRZ nLZ nSZ (fun i => (xRZ i).cn) (fun i => (xLZ i).cn) (fun i => (xSZ i).cn.fx) kZ aZ bZ cZ xZ yZ opZ lZ rZ sZ w h0 h1 h2 p0 p1 h0Z h1Z h2Z p0Z p1Z
end Go.Proofs.Ytnkjmgadnejdlaa

/- The walk of 'FnExactSamePipe'. -/
namespace Go.Proofs.Ytnkjmgadnejdlaa.fnExactSamePipe
open Go.RowKit Go.Fk
set_option maxRecDepth 100000 in
set_option maxHeartbeats 4000000 in
theorem core (cs0 : List CD) (vs0 : List Value) (cs1 : List CD) (vs1 : List Value) (ar0 : Bool) (w : World) (z0 : RdL w w.heap.size cs0 vs0) (k0 : HasShL shPipe cs0) (z1 : RdL w w.heap.size cs1 vs1) (k1 : HasShL shPipe cs1) (hz : szL cs0 + szL cs1 ≤ 1048576)
    (hS : ∀ (w : World) (B0 : Nat) (u0 : List Value) (B1 : Nat) (u1 : List Value), RdLN w B0 (cs0.map CD.cp) u0 → RdLN w B1 (cs1.map CD.cp) u1 → Calls Try.prog 8 #[.agg u0.toArray, .agg u1.toArray] w (Out_b ar0 w))
    (hI : ∀ (w : World) (B0 : Nat) (u0 : List Value) (B1 : Nat) (u1 : List Value), RdLN w B0 (cs0.map CD.cp) u0 → RdLN w B1 (cs1.map CD.cp) u1 → Calls Try.prog 10 #[.agg u0.toArray, .agg u1.toArray] w (Out_b ar0 w)) :
    Calls Try.prog 3 #[.agg vs0.toArray, .agg vs1.toArray] w fun e w' => e = .returned (.bool true) ∧ Below w.heap.size w w' := by
  have Z0 := hid z0; have K0 := hid k0.ok; have HH0 := hid k0; have hl0 : Hid (vs0.length = 13) := z0.1.trans k0.1; clear z0 k0
  have Z1 := hid z1; have K1 := hid k1.ok; have HH1 := hid k1; have hl1 : Hid (vs1.length = 13) := z1.1.trans k1.1; clear z1 k1
  have hz0 : szL cs0 ≤ 1048576 := by omega
  have hz1 : szL cs1 ≤ 1048576 := by omega
  have hm0 : ¬ (1048576 : Int) - (szL cs0 : Nat) < 0 := by omega
  have hm1 : ¬ (1048576 : Int) - (szL cs0 : Nat) - (szL cs1 : Nat) < 0 := by omega
  have HS := hid hS; have HI := hid hI; clear hS hI
  have F := Frg.nil w
  replace F := F.box 30 vs0.toArray
  replace F := F.box 30 vs1.toArray
  simp only [World.size_alloc] at F
  go_enter Try.func3, Try.ntmps3
  go_wp2_with (first | (((with_reducible refine listN F ?_); clear F; intro wN F)) | ((with_reducible refine at_loadU rfl rfl ?_); first | (with_reducible refine wpList_loadG F rfl rfl rfl (by first | exact m0 | exact m1 | exact m2 | exact m3 | exact m4 | exact m5 | exact m6 | exact m7 | exact m8 | exact m9 | exact m10 | exact m11) Try.underlying36 rfl uinfoPipeI (by simp only [List.size_toArray]; first | exact hl0.out | exact hl1.out | exact huB0.out | exact huB1.out) ?_) | (with_reducible refine wpList_loadG F rfl rfl rfl (by first | exact m0 | exact m1 | exact m2 | exact m3 | exact m4 | exact m5 | exact m6 | exact m7 | exact m8 | exact m9 | exact m10 | exact m11) Try.underlying30 rfl uinfoPipeL (by simp only [List.size_toArray]; first | exact hl0.out | exact hl1.out | exact huB0.out | exact huB1.out) ?_)) | (go_at_call 7; ((with_reducible refine (szU_Pipe _ cs0 vs0 (1048576 : Int) ((1048576 : Int) - (szL cs0 : Nat)) _ (Z0.out.le F.below) K0.out (by omega) (by omega) (lessBy_pos (by omega))).mono ?_); rintro e w1 ⟨rfl, hb1⟩; replace F := F.le hb1)) | (go_at_call 7; ((with_reducible refine (szU_Pipe _ cs1 vs1 ((1048576 : Int) - (szL cs0 : Nat)) (((1048576 : Int) - (szL cs0 : Nat)) - (szL cs1 : Nat)) _ (Z1.out.le F.below) K1.out (by omega) (by omega) (lessBy_pos (by omega))).mono ?_); rintro e w1 ⟨rfl, hb1⟩; replace F := F.le hb1)))
  first | (refine wpAt0 F ?_; clear F; intro wN F) | (refine wpAtN F ?_; clear F; intro wN F)
  refine region_freeD (E := leX) (fun f args w v => if f = 9 then KT shPipe wN args w v else v = .bool ar0) (by kernel_rfl) (by kernel_rfl) ?_
  refine wpFreeD_loadG F rfl rfl rfl rfl (by first | exact m0 | exact m1 | exact m2 | exact m3 | exact m4 | exact m5 | exact m6 | exact m7 | exact m8 | exact m9 | exact m10 | exact m11) Try.underlying30 rfl uinfoPipeL (by simp only [List.size_toArray]; exact hl0.out) ?_
  simp only [Act.put, List.setIfInBounds_toArray, List.set_cons_succ, List.set_cons_zero]
  refine wpFreeD_callB rfl rfl Try.func9 (by kernel_rfl) (by kernel_rfl) (args := #[.agg vs0.toArray]) (by simp [Act.eval]) (fun v w1 w2 hw hv => by simp only [if_true] at hv ⊢; exact hv.le hw) (fun w1 hw1 _ => (toU_Pipe _ cs0 vs0 w1 (Z0.out.le (le_trans (F.drewN _).below hw1)) K0.out hz0).mono ?_) ?_
  · rintro e w2 ⟨us, rfl, ho, hl⟩
    exact ⟨_, rfl, hl, by simp only [if_true]; exact KT.mk (Z0.out.le F.below) HH0.out (ho.rdN (fun _ hj => hj.2))⟩
  rintro v ⟨_, _, _, hv⟩
  simp only [if_true] at hv
  obtain ⟨u0, Bu0, rfl, _⟩ := hv vs0 cs0 _ rfl (Z0.out.le F.below) HH0.out
  simp only [Act.put, List.setIfInBounds_toArray, List.set_cons_succ, List.set_cons_zero]
  refine wpFreeD_loadG F rfl rfl rfl rfl (by first | exact m0 | exact m1 | exact m2 | exact m3 | exact m4 | exact m5 | exact m6 | exact m7 | exact m8 | exact m9 | exact m10 | exact m11) Try.underlying30 rfl uinfoPipeL (by simp only [List.size_toArray]; exact hl1.out) ?_
  simp only [Act.put, List.setIfInBounds_toArray, List.set_cons_succ, List.set_cons_zero]
  refine wpFreeD_callB rfl rfl Try.func9 (by kernel_rfl) (by kernel_rfl) (args := #[.agg vs1.toArray]) (by simp [Act.eval]) (fun v w1 w2 hw hv => by simp only [if_true] at hv ⊢; exact hv.le hw) (fun w1 hw1 _ => (toU_Pipe _ cs1 vs1 w1 (Z1.out.le (le_trans (F.drewN _).below hw1)) K1.out hz1).mono ?_) ?_
  · rintro e w2 ⟨us, rfl, ho, hl⟩
    exact ⟨_, rfl, hl, by simp only [if_true]; exact KT.mk (Z1.out.le F.below) HH1.out (ho.rdN (fun _ hj => hj.2))⟩
  rintro v ⟨_, _, _, hv⟩
  simp only [if_true] at hv
  obtain ⟨u1, Bu1, rfl, _⟩ := hv vs1 cs1 _ rfl (Z1.out.le F.below) HH1.out
  simp only [Act.put, List.setIfInBounds_toArray, List.set_cons_succ, List.set_cons_zero]
  refine wpFreeD_callB rfl rfl Try.func8 (by kernel_rfl) (by kernel_rfl) (args := #[.agg u0.toArray, .agg u1.toArray]) (by simp [Act.eval]) (fun v w1 w2 hw hv => by simp only [show ¬ (8 = 9) by decide, if_false] at hv ⊢; exact hv) (fun w1 hw1 hbe => ?_) ?_
  · skip
    have hk0 := (hbe ⟨1, Ground.data⟩ (by simp) (by kernel_rfl)).1.1.2 rfl
    simp only [if_true] at hk0
    obtain ⟨v0, B0, he0, hr0⟩ := hk0 vs0 cs0 _ rfl (Z0.out.le F.below) HH0.out
    obtain rfl : u0 = v0 := by simpa using he0
    have hk1 := (hbe ⟨3, Ground.data⟩ (by simp) (by kernel_rfl)).2 rfl
    simp only [if_true] at hk1
    obtain ⟨v1, B1, he1, hr1⟩ := hk1 vs1 cs1 _ rfl (Z1.out.le F.below) HH1.out
    obtain rfl : u1 = v1 := by simpa using he1
    refine (HS.out _ _ _ _ _ hr0 hr1).mono ?_
    rintro e w2 ⟨rfl, hl⟩
    exact ⟨_, rfl, hl, by simp only [show ¬ (8 = 9) by decide, if_false]⟩
  rintro v ⟨_, _, _, hv⟩
  simp only [show ¬ (8 = 9) by decide, if_false] at hv
  subst hv
  simp only [Act.put, List.setIfInBounds_toArray, List.set_cons_succ, List.set_cons_zero]
  refine wpFreeD_one rfl (.bool ar0) (fun w1 _ => by kernel_rfl) ?_
  simp only [Act.put, List.setIfInBounds_toArray, List.set_cons_succ, List.set_cons_zero]
  refine wpFreeD_nil (fun wR hwR _ => ?_)
  replace F := (F.drewN 1).le hwR
  clear hwR
  go_wp2_with (first | (((with_reducible refine listN F ?_); clear F; intro wN F)) | ((with_reducible refine at_store rfl ?_); first | (refine wpList_storeG F rfl rfl rfl rfl rfl (by simp only [List.size_toArray]; rw [huB0.out]; exact uinfoPipeI) (by simp only [List.size_toArray]; rw [huB0.out]; rfl) (by exact hoB0.out) ?_; clear F; intro W F zW; clear zW) | (refine wpList_storeG F rfl rfl rfl rfl rfl (by simp only [List.size_toArray]; rw [huB1.out]; exact uinfoPipeI) (by simp only [List.size_toArray]; rw [huB1.out]; rfl) (by exact hoB1.out) ?_; clear F; intro W F zW; clear zW)) | ((with_reducible refine at_loadU rfl rfl ?_); first | (with_reducible refine wpList_loadG F rfl rfl rfl (by first | exact m0 | exact m1 | exact m2 | exact m3 | exact m4 | exact m5 | exact m6 | exact m7 | exact m8 | exact m9 | exact m10 | exact m11) Try.underlying36 rfl uinfoPipeI (by simp only [List.size_toArray]; first | exact hl0.out | exact hl1.out | exact huB0.out | exact huB1.out) ?_) | (with_reducible refine wpList_loadG F rfl rfl rfl (by first | exact m0 | exact m1 | exact m2 | exact m3 | exact m4 | exact m5 | exact m6 | exact m7 | exact m8 | exact m9 | exact m10 | exact m11) Try.underlying30 rfl uinfoPipeL (by simp only [List.size_toArray]; first | exact hl0.out | exact hl1.out | exact huB0.out | exact huB1.out) ?_)) | (go_at_call 9; ((with_reducible refine (toU_Pipe _ cs0 vs0 _ (Z0.out.le F.below) K0.out hz0).mono ?_); rintro e w1 ⟨usB0, rfl, ho, hl⟩; have huB0 : Hid (usB0.length = 13) := ho.1.trans ((List.length_map ..).trans K0.out.1); have hoB0 := hid ho.all_one; replace F := F.lay1 hl ho; clear ho hl)) | (go_at_call 9; ((with_reducible refine (toU_Pipe _ cs1 vs1 _ (Z1.out.le F.below) K1.out hz1).mono ?_); rintro e w1 ⟨usB1, rfl, ho, hl⟩; have huB1 : Hid (usB1.length = 13) := ho.1.trans ((List.length_map ..).trans K1.out.1); have hoB1 := hid ho.all_one; replace F := F.lay1 hl ho; clear ho hl)))
  first | ((with_reducible refine callAt0 F ?_); clear F; intro wN2 F) | ((with_reducible refine callAtN F ?_); clear F; intro wN2 F)
  refine (HI.out _ _ _ _ _ (F.layN (by first | exact m0 | exact m1 | exact m2 | exact m3 | exact m4 | exact m5 | exact m6 | exact m7 | exact m8 | exact m9 | exact m10 | exact m11)) (F.layN (by first | exact m0 | exact m1 | exact m2 | exact m3 | exact m4 | exact m5 | exact m6 | exact m7 | exact m8 | exact m9 | exact m10 | exact m11))).mono ?_
  rintro e wI ⟨rfl, hlI⟩
  replace F := F.le hlI
  go_wp2_with (first | (((with_reducible refine listN F ?_); clear F; intro wN F)) | ((with_reducible refine at_store rfl ?_); first | (refine wpList_storeG F rfl rfl rfl rfl rfl (by simp only [List.size_toArray]; rw [huB0.out]; exact uinfoPipeI) (by simp only [List.size_toArray]; rw [huB0.out]; rfl) (by exact hoB0.out) ?_; clear F; intro W F zW; clear zW) | (refine wpList_storeG F rfl rfl rfl rfl rfl (by simp only [List.size_toArray]; rw [huB1.out]; exact uinfoPipeI) (by simp only [List.size_toArray]; rw [huB1.out]; rfl) (by exact hoB1.out) ?_; clear F; intro W F zW; clear zW)) | ((with_reducible refine at_loadU rfl rfl ?_); first | (with_reducible refine wpList_loadG F rfl rfl rfl (by first | exact m0 | exact m1 | exact m2 | exact m3 | exact m4 | exact m5 | exact m6 | exact m7 | exact m8 | exact m9 | exact m10 | exact m11) Try.underlying36 rfl uinfoPipeI (by simp only [List.size_toArray]; first | exact hl0.out | exact hl1.out | exact huB0.out | exact huB1.out) ?_) | (with_reducible refine wpList_loadG F rfl rfl rfl (by first | exact m0 | exact m1 | exact m2 | exact m3 | exact m4 | exact m5 | exact m6 | exact m7 | exact m8 | exact m9 | exact m10 | exact m11) Try.underlying30 rfl uinfoPipeL (by simp only [List.size_toArray]; first | exact hl0.out | exact hl1.out | exact huB0.out | exact huB1.out) ?_)))
  first | (refine wpAt0 F ?_; clear F; intro wM0 F) | (refine wpAtN F ?_; clear F; intro wM0 F)
  refine region_freeD (E := leX) (fun f _ w v => if f = 9 then ∃ (us : List Value) (B : Nat), v = .agg us.toArray ∧ RdL w B (cs0.map CD.cp) us else v = .bool true) (by kernel_rfl) (by kernel_rfl) ?_
  refine wpFreeD_loadG F rfl rfl rfl rfl (by first | exact m0 | exact m1 | exact m2 | exact m3 | exact m4 | exact m5 | exact m6 | exact m7 | exact m8 | exact m9 | exact m10 | exact m11) Try.underlying36 rfl uinfoPipeI (by simp only [List.size_toArray]; exact huB0.out) ?_
  simp only [Act.put, List.setIfInBounds_toArray, List.set_cons_succ, List.set_cons_zero]
  refine wpFreeD_loadG F rfl rfl rfl rfl (by first | exact m0 | exact m1 | exact m2 | exact m3 | exact m4 | exact m5 | exact m6 | exact m7 | exact m8 | exact m9 | exact m10 | exact m11) Try.underlying30 rfl uinfoPipeL (by simp only [List.size_toArray]; exact hl0.out) ?_
  simp only [Act.put, List.setIfInBounds_toArray, List.set_cons_succ, List.set_cons_zero]
  refine wpFreeD_callB rfl rfl Try.func9 (by kernel_rfl) (by kernel_rfl) (args := #[.agg vs0.toArray]) (by simp [Act.eval]) (fun v w1 w2 hw hv => by simp only [if_true] at hv ⊢; obtain ⟨u, B, h1, h2⟩ := hv; exact ⟨u, B, h1, h2.le hw⟩) (fun w1 hw1 _ => (toU_Pipe _ cs0 vs0 w1 (Z0.out.le (le_trans (F.drewN _).below hw1)) K0.out hz0).mono ?_) ?_
  · rintro e w2 ⟨u, rfl, ho, hl⟩
    exact ⟨_, rfl, hl, by simp only [if_true]; exact ⟨u, _, rfl, ho.rd (fun _ hj => hj.2)⟩⟩
  rintro v ⟨_, _, _, hv⟩
  simp only [if_true] at hv
  obtain ⟨ud0, Bud0, rfl, _⟩ := hv
  simp only [Act.put, List.setIfInBounds_toArray, List.set_cons_succ, List.set_cons_zero]
  refine wpFreeD_callB rfl rfl Try.func11 (by kernel_rfl) (by kernel_rfl) (args := #[.agg usB0.toArray, .agg ud0.toArray]) (by simp [Act.eval]) (fun v w1 w2 hw hv => by simp only [show ¬ (11 = 9) by decide, if_false] at hv ⊢; exact hv) (fun w1 hw1 hbe => ?_) ?_
  · have hk := (hbe ⟨2, Ground.data⟩ (by simp) (by kernel_rfl)).2 rfl
    simp only [if_true] at hk
    obtain ⟨u', B', he, hr⟩ := hk
    obtain rfl : ud0 = u' := by simpa using he
    refine (eqU_Pipe _ _ (cs0.map CD.cp) _ _ _ (((F.drewN 1).le hw1).layR (by first | exact m0 | exact m1 | exact m2 | exact m3 | exact m4 | exact m5 | exact m6 | exact m7 | exact m8 | exact m9 | exact m10 | exact m11)) hr K0.out.cp (by rw [szL_cp]; exact hz0)).mono ?_
    rintro e w2 ⟨rfl, hl⟩
    exact ⟨_, rfl, hl, by simp only [show ¬ (11 = 9) by decide, if_false]⟩
  rintro v ⟨_, _, _, hv⟩
  simp only [show ¬ (11 = 9) by decide, if_false] at hv
  subst hv
  simp only [Act.put, List.setIfInBounds_toArray, List.set_cons_succ, List.set_cons_zero]
  refine wpFreeD_one rfl (.bool false) (fun w1 _ => by kernel_rfl) ?_
  simp only [Act.put, List.setIfInBounds_toArray, List.set_cons_succ, List.set_cons_zero]
  refine wpFreeD_nil (fun wR hwR _ => ?_)
  replace F := (F.drewN 1).le hwR
  clear hwR
  go_wp2_with (first | (((with_reducible refine listN F ?_); clear F; intro wN F)) | ((with_reducible refine at_loadU rfl rfl ?_); first | (with_reducible refine wpList_loadG F rfl rfl rfl (by first | exact m0 | exact m1 | exact m2 | exact m3 | exact m4 | exact m5 | exact m6 | exact m7 | exact m8 | exact m9 | exact m10 | exact m11) Try.underlying36 rfl uinfoPipeI (by simp only [List.size_toArray]; first | exact hl0.out | exact hl1.out | exact huB0.out | exact huB1.out) ?_) | (with_reducible refine wpList_loadG F rfl rfl rfl (by first | exact m0 | exact m1 | exact m2 | exact m3 | exact m4 | exact m5 | exact m6 | exact m7 | exact m8 | exact m9 | exact m10 | exact m11) Try.underlying30 rfl uinfoPipeL (by simp only [List.size_toArray]; first | exact hl0.out | exact hl1.out | exact huB0.out | exact huB1.out) ?_)))
  first | (refine wpAt0 F ?_; clear F; intro wM1 F) | (refine wpAtN F ?_; clear F; intro wM1 F)
  refine region_freeD (E := leX) (fun f _ w v => if f = 9 then ∃ (us : List Value) (B : Nat), v = .agg us.toArray ∧ RdL w B (cs1.map CD.cp) us else v = .bool true) (by kernel_rfl) (by kernel_rfl) ?_
  refine wpFreeD_loadG F rfl rfl rfl rfl (by first | exact m0 | exact m1 | exact m2 | exact m3 | exact m4 | exact m5 | exact m6 | exact m7 | exact m8 | exact m9 | exact m10 | exact m11) Try.underlying36 rfl uinfoPipeI (by simp only [List.size_toArray]; exact huB1.out) ?_
  simp only [Act.put, List.setIfInBounds_toArray, List.set_cons_succ, List.set_cons_zero]
  refine wpFreeD_loadG F rfl rfl rfl rfl (by first | exact m0 | exact m1 | exact m2 | exact m3 | exact m4 | exact m5 | exact m6 | exact m7 | exact m8 | exact m9 | exact m10 | exact m11) Try.underlying30 rfl uinfoPipeL (by simp only [List.size_toArray]; exact hl1.out) ?_
  simp only [Act.put, List.setIfInBounds_toArray, List.set_cons_succ, List.set_cons_zero]
  refine wpFreeD_callB rfl rfl Try.func9 (by kernel_rfl) (by kernel_rfl) (args := #[.agg vs1.toArray]) (by simp [Act.eval]) (fun v w1 w2 hw hv => by simp only [if_true] at hv ⊢; obtain ⟨u, B, h1, h2⟩ := hv; exact ⟨u, B, h1, h2.le hw⟩) (fun w1 hw1 _ => (toU_Pipe _ cs1 vs1 w1 (Z1.out.le (le_trans (F.drewN _).below hw1)) K1.out hz1).mono ?_) ?_
  · rintro e w2 ⟨u, rfl, ho, hl⟩
    exact ⟨_, rfl, hl, by simp only [if_true]; exact ⟨u, _, rfl, ho.rd (fun _ hj => hj.2)⟩⟩
  rintro v ⟨_, _, _, hv⟩
  simp only [if_true] at hv
  obtain ⟨ud1, Bud1, rfl, _⟩ := hv
  simp only [Act.put, List.setIfInBounds_toArray, List.set_cons_succ, List.set_cons_zero]
  refine wpFreeD_callB rfl rfl Try.func11 (by kernel_rfl) (by kernel_rfl) (args := #[.agg usB1.toArray, .agg ud1.toArray]) (by simp [Act.eval]) (fun v w1 w2 hw hv => by simp only [show ¬ (11 = 9) by decide, if_false] at hv ⊢; exact hv) (fun w1 hw1 hbe => ?_) ?_
  · have hk := (hbe ⟨2, Ground.data⟩ (by simp) (by kernel_rfl)).2 rfl
    simp only [if_true] at hk
    obtain ⟨u', B', he, hr⟩ := hk
    obtain rfl : ud1 = u' := by simpa using he
    refine (eqU_Pipe _ _ (cs1.map CD.cp) _ _ _ (((F.drewN 1).le hw1).layR (by first | exact m0 | exact m1 | exact m2 | exact m3 | exact m4 | exact m5 | exact m6 | exact m7 | exact m8 | exact m9 | exact m10 | exact m11)) hr K1.out.cp (by rw [szL_cp]; exact hz1)).mono ?_
    rintro e w2 ⟨rfl, hl⟩
    exact ⟨_, rfl, hl, by simp only [show ¬ (11 = 9) by decide, if_false]⟩
  rintro v ⟨_, _, _, hv⟩
  simp only [show ¬ (11 = 9) by decide, if_false] at hv
  subst hv
  simp only [Act.put, List.setIfInBounds_toArray, List.set_cons_succ, List.set_cons_zero]
  refine wpFreeD_one rfl (.bool false) (fun w1 _ => by kernel_rfl) ?_
  simp only [Act.put, List.setIfInBounds_toArray, List.set_cons_succ, List.set_cons_zero]
  refine wpFreeD_nil (fun wR hwR _ => ?_)
  replace F := (F.drewN 1).le hwR
  clear hwR
  go_wp2_with (first | (((with_reducible refine listN F ?_); clear F; intro wN F)) | ((with_reducible refine at_loadU rfl rfl ?_); first | (with_reducible refine wpList_loadG F rfl rfl rfl (by first | exact m0 | exact m1 | exact m2 | exact m3 | exact m4 | exact m5 | exact m6 | exact m7 | exact m8 | exact m9 | exact m10 | exact m11) Try.underlying36 rfl uinfoPipeI (by simp only [List.size_toArray]; first | exact hl0.out | exact hl1.out | exact huB0.out | exact huB1.out) ?_) | (with_reducible refine wpList_loadG F rfl rfl rfl (by first | exact m0 | exact m1 | exact m2 | exact m3 | exact m4 | exact m5 | exact m6 | exact m7 | exact m8 | exact m9 | exact m10 | exact m11) Try.underlying30 rfl uinfoPipeL (by simp only [List.size_toArray]; first | exact hl0.out | exact hl1.out | exact huB0.out | exact huB1.out) ?_)))
  go_ret
  first | exact ⟨rfl, F.below⟩ | exact ⟨rfl, below_drewN F.below _⟩
set_option maxRecDepth 100000 in
set_option maxHeartbeats 4000000 in
theorem large0 (cs0 : List CD) (vs0 : List Value) (cs1 : List CD) (vs1 : List Value) (w : World) (z0 : RdL w w.heap.size cs0 vs0) (k0 : HasShL shPipe cs0) (z1 : RdL w w.heap.size cs1 vs1) (k1 : HasShL shPipe cs1)  (hg : ¬ szL cs0 ≤ 1048576) :
    Calls Try.prog 3 #[.agg vs0.toArray, .agg vs1.toArray] w fun e w' => e = .returned (.bool true) ∧ Below w.heap.size w w' := by
  have Z0 := hid z0; have K0 := hid k0.ok; have hl0 : Hid (vs0.length = 13) := z0.1.trans k0.1; clear z0 k0
  have Z1 := hid z1; have K1 := hid k1.ok; have hl1 : Hid (vs1.length = 13) := z1.1.trans k1.1; clear z1 k1
  have hn0 : (1048576 : Int) - (szL cs0 : Nat) < 0 := by omega
  have F := Frg.nil w
  replace F := F.box 30 vs0.toArray
  replace F := F.box 30 vs1.toArray
  simp only [World.size_alloc] at F
  go_enter Try.func3, Try.ntmps3
  go_wp2_with (first | (((with_reducible refine listN F ?_); clear F; intro wN F)) | ((with_reducible refine at_loadU rfl rfl ?_); first | (with_reducible refine wpList_loadG F rfl rfl rfl (by first | exact m0 | exact m1 | exact m2 | exact m3 | exact m4 | exact m5 | exact m6 | exact m7 | exact m8 | exact m9 | exact m10 | exact m11) Try.underlying36 rfl uinfoPipeI (by simp only [List.size_toArray]; first | exact hl0.out | exact hl1.out | exact huB0.out | exact huB1.out) ?_) | (with_reducible refine wpList_loadG F rfl rfl rfl (by first | exact m0 | exact m1 | exact m2 | exact m3 | exact m4 | exact m5 | exact m6 | exact m7 | exact m8 | exact m9 | exact m10 | exact m11) Try.underlying30 rfl uinfoPipeL (by simp only [List.size_toArray]; first | exact hl0.out | exact hl1.out | exact huB0.out | exact huB1.out) ?_)) | (go_at_call 7; ((with_reducible refine (szU_Pipe _ cs0 vs0 (1048576 : Int) (-1 : Int) _ (Z0.out.le F.below) K0.out (by omega) (by omega) (lessBy_neg (by omega))).mono ?_); rintro e w1 ⟨rfl, hb1⟩; replace F := F.le hb1)))
  go_ret
  first | exact ⟨rfl, F.below⟩ | exact ⟨rfl, below_drewN F.below _⟩
set_option maxRecDepth 100000 in
set_option maxHeartbeats 4000000 in
theorem large1 (cs0 : List CD) (vs0 : List Value) (cs1 : List CD) (vs1 : List Value) (w : World) (z0 : RdL w w.heap.size cs0 vs0) (k0 : HasShL shPipe cs0) (z1 : RdL w w.heap.size cs1 vs1) (k1 : HasShL shPipe cs1) (g0 : szL cs0 ≤ 1048576) (hg : ¬ szL cs0 + szL cs1 ≤ 1048576) :
    Calls Try.prog 3 #[.agg vs0.toArray, .agg vs1.toArray] w fun e w' => e = .returned (.bool true) ∧ Below w.heap.size w w' := by
  have Z0 := hid z0; have K0 := hid k0.ok; have hl0 : Hid (vs0.length = 13) := z0.1.trans k0.1; clear z0 k0
  have Z1 := hid z1; have K1 := hid k1.ok; have hl1 : Hid (vs1.length = 13) := z1.1.trans k1.1; clear z1 k1
  have hm0 : ¬ (1048576 : Int) - (szL cs0 : Nat) < 0 := by omega
  have hn1 : ((1048576 : Int) - (szL cs0 : Nat)) - (szL cs1 : Nat) < 0 := by omega
  have F := Frg.nil w
  replace F := F.box 30 vs0.toArray
  replace F := F.box 30 vs1.toArray
  simp only [World.size_alloc] at F
  go_enter Try.func3, Try.ntmps3
  go_wp2_with (first | (((with_reducible refine listN F ?_); clear F; intro wN F)) | ((with_reducible refine at_loadU rfl rfl ?_); first | (with_reducible refine wpList_loadG F rfl rfl rfl (by first | exact m0 | exact m1 | exact m2 | exact m3 | exact m4 | exact m5 | exact m6 | exact m7 | exact m8 | exact m9 | exact m10 | exact m11) Try.underlying36 rfl uinfoPipeI (by simp only [List.size_toArray]; first | exact hl0.out | exact hl1.out | exact huB0.out | exact huB1.out) ?_) | (with_reducible refine wpList_loadG F rfl rfl rfl (by first | exact m0 | exact m1 | exact m2 | exact m3 | exact m4 | exact m5 | exact m6 | exact m7 | exact m8 | exact m9 | exact m10 | exact m11) Try.underlying30 rfl uinfoPipeL (by simp only [List.size_toArray]; first | exact hl0.out | exact hl1.out | exact huB0.out | exact huB1.out) ?_)) | (go_at_call 7; ((with_reducible refine (szU_Pipe _ cs0 vs0 (1048576 : Int) ((1048576 : Int) - (szL cs0 : Nat)) _ (Z0.out.le F.below) K0.out (by omega) (by omega) (lessBy_pos (by omega))).mono ?_); rintro e w1 ⟨rfl, hb1⟩; replace F := F.le hb1)) | (go_at_call 7; ((with_reducible refine (szU_Pipe _ cs1 vs1 ((1048576 : Int) - (szL cs0 : Nat)) (-1 : Int) _ (Z1.out.le F.below) K1.out (by omega) (by omega) (lessBy_neg (by omega))).mono ?_); rintro e w1 ⟨rfl, hb1⟩; replace F := F.le hb1)))
  go_ret
  first | exact ⟨rfl, F.below⟩ | exact ⟨rfl, below_drewN F.below _⟩
theorem walk (cs0 : List CD) (vs0 : List Value) (cs1 : List CD) (vs1 : List Value) (w : World) (k0 : HasShL shPipe cs0) (z0 : RdL w w.heap.size cs0 vs0) (k1 : HasShL shPipe cs1) (z1 : RdL w w.heap.size cs1 vs1) :
    Calls Try.prog 3 #[.agg vs0.toArray, .agg vs1.toArray] w fun e w' => e = .returned (.bool true) ∧ Below w.heap.size w w' := by
  by_cases g0 : szL cs0 ≤ 1048576
  · by_cases g1 : szL cs0 + szL cs1 ≤ 1048576
    · obtain ⟨ar0, hS, hI⟩ := both_SamePipe cs0 cs1 k0 k1
      exact core cs0 vs0 cs1 vs1 ar0 w z0 k0 z1 k1 g1 (fun w B0 u0 B1 u1 h0 h1 => hS w B0 u0 B1 u1 h0 h1) (fun w B0 u0 B1 u1 h0 h1 => hI w B0 u0 B1 u1 h0 h1)
    · exact large1 cs0 vs0 cs1 vs1 w z0 k0 z1 k1 g0 g1
  · exact large0 cs0 vs0 cs1 vs1 w z0 k0 z1 k1 g0
end Go.Proofs.Ytnkjmgadnejdlaa.fnExactSamePipe
