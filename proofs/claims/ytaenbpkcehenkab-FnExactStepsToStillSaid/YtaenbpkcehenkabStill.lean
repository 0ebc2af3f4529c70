/- Stillness: 'IsStill', 'StepsToStill' of both. -/
import Derived.Test.YtaenbpkcehenkabStepF
import Derived.Test.YtaenbpkcehenkabEqA
namespace Go.Fk
open Go Go.RowKit
def zeroF (x : Nat) : Bool := FloatKind.f32.format.order x 0 == some .eq
def stillB (x y : Nat) : Bool := zeroF x && zeroF y
theorem stillB_arr (x y : Nat) : (List.range 2).all (fun j => FloatKind.f32.format.order (duo x y j) 0 == some .eq) = stillB x y := by
  simp [stillB, zeroF, duo, List.range_succ]
end Go.Fk
namespace Go.Proofs.Ytaenbpkcehenkab
open Go.RowKit Go.Fk
theorem i_isStill (v : Value) (x y g : Nat) (w : World) (R : Row w g 78 #[v, .float .f32 x, .float .f32 y]) :
    Calls Try.prog 54 #[.pointer (some ⟨g, 0, none⟩)] w fun e w' => e = .returned (.bool (stillB x y)) ∧ w = w' := by
  have heq : ∀ w, (binOp .eql 29 (.agg #[.float .f32 x, .float .f32 y]) (.agg #[.float .f32 0, .float .f32 0])).run Try.prog w = .ok (.bool (stillB x y)) w := fun w => by
    have h := run_eql_farr (P := Try.prog) w 2 (duo x y) (fun _ => 0) Try.underlying29 Try.underlying22 (by kernel_rfl)
    rw [stillB_arr] at h; exact h
  have hgd : Try.prog.eqGuardType Try.prog.depth 29 = false := by kernel_rfl
  have F := Frm.one R
  clear R
  go_enter Try.func54, Try.ntmps54
  go_wp2_with ((with_reducible refine wpList_loadPartFr F [.float .f32 x, .float .f32 y] rfl rfl rfl List.mem_cons_self Try.underlying29 rfl part12 info2 (by simp) ?_))
  go_ret
  exact ⟨rfl, rfl⟩
theorem s_l02StillAt (x y g f : Nat) (w : World) (c4 : w.cell? ⟨g, f + 4, none⟩ = some (.float .f32 x)) (c5 : w.cell? ⟨g, f + 5, none⟩ = some (.float .f32 y)) :
    Calls Try.prog 53 #[.pointer (some ⟨g, f, none⟩)] w fun e w' => e = .returned (.bool (stillB x y)) ∧ w = w' := by
  have c5' : w.cell? ⟨g, f + 4 + 1, none⟩ = some (.float .f32 y) := c5
  cases h1 : zeroF x <;> cases h2 : zeroF y
  all_goals
    rw [show stillB x y = (zeroF x && zeroF y) from rfl, h1, h2]
    unfold zeroF at h1 h2
    go_enter Try.func53, Try.ntmps53
    go_wp2
    go_ret
    exact ⟨rfl, rfl⟩
theorem s_l02Still (k : Int) (a b c x y g : Nat) (w : World) (R : Row w g 33 (#[.int .i64 k, .float .f32 a, .float .f32 b, .float .f32 c, .float .f32 x, .float .f32 y] : Array Value)) :
    Calls Try.prog 53 #[.pointer (some ⟨g, 0, none⟩)] w fun e w' => e = .returned (.bool (stillB x y)) ∧ w = w' :=
  s_l02StillAt x y g 0 w R.six.2.2.2.2.1 R.six.2.2.2.2.2
set_option maxHeartbeats 1000000 in
theorem i_IsStill (k : Int) (a b c x y : Nat) (w : World) (hf : fits .f32 a ∧ fits .f32 b ∧ fits .f32 c ∧ fits .f32 x ∧ fits .f32 y) :
    Calls Try.prog 25 #[(.agg #[.int .i64 k, .float .f32 a, .float .f32 b, .float .f32 c, .float .f32 x, .float .f32 y])] w fun e w' => e = .returned (if okF k a b c x y = true then .tuple #[.bool (stillB x y), .int .i64 0] else .tuple #[.bool false, .int .i64 1]) ∧ le w w' := by
  have Hf := hid hf; clear hf
  have hV := hid (fun w => i_ValidFilter k a b c x y w Hf.out)
  have F := (Frm.nil w).box 33 (#[.int .i64 k, .float .f32 a, .float .f32 b, .float .f32 c, .float .f32 x, .float .f32 y] : Array Value)
  cases hv : okF k a b c x y
  · rw [hv] at hV; clear hv
    simp only [Bool.false_eq_true, if_false]
    go_enter Try.func25, Try.ntmps25
    go_wp2_with (first | (go_at_call 16; ((with_reducible refine (hV.out _).mono ?_); rintro e w1 ⟨rfl, hb1⟩; replace F := F.le hb1)))
    go_ret2
    exact ⟨rfl, F.below⟩
  · have HK := hid (okF_kind hv)
    rw [hv] at hV; clear hv
    simp only [if_true]
    go_enter Try.func25, Try.ntmps25
    go_wp2_with (first | ((with_reducible refine at_load rfl ?_); first | (with_reducible refine wpList_loadFr F rfl rfl rfl (by first | exact List.mem_cons_self | exact List.mem_cons_of_mem _ (List.mem_cons_self) | exact List.mem_cons_of_mem _ (List.mem_cons_of_mem _ (List.mem_cons_self)) | exact List.mem_cons_of_mem _ (List.mem_cons_of_mem _ (List.mem_cons_of_mem _ (List.mem_cons_self))) | exact List.mem_cons_of_mem _ (List.mem_cons_of_mem _ (List.mem_cons_of_mem _ (List.mem_cons_of_mem _ (List.mem_cons_self)))) | exact List.mem_cons_of_mem _ (List.mem_cons_of_mem _ (List.mem_cons_of_mem _ (List.mem_cons_of_mem _ (List.mem_cons_of_mem _ (List.mem_cons_self))))) | exact List.mem_cons_of_mem _ (List.mem_cons_of_mem _ (List.mem_cons_of_mem _ (List.mem_cons_of_mem _ (List.mem_cons_of_mem _ (List.mem_cons_of_mem _ (List.mem_cons_self))))))) Try.underlying33 rfl infoFil (by simp [size_ftab]) ?_) | (with_reducible refine wpList_loadFr (F.box _ _) rfl rfl rfl (by first | exact List.mem_cons_self | exact List.mem_cons_of_mem _ (List.mem_cons_self) | exact List.mem_cons_of_mem _ (List.mem_cons_of_mem _ (List.mem_cons_self)) | exact List.mem_cons_of_mem _ (List.mem_cons_of_mem _ (List.mem_cons_of_mem _ (List.mem_cons_self))) | exact List.mem_cons_of_mem _ (List.mem_cons_of_mem _ (List.mem_cons_of_mem _ (List.mem_cons_of_mem _ (List.mem_cons_self)))) | exact List.mem_cons_of_mem _ (List.mem_cons_of_mem _ (List.mem_cons_of_mem _ (List.mem_cons_of_mem _ (List.mem_cons_of_mem _ (List.mem_cons_self))))) | exact List.mem_cons_of_mem _ (List.mem_cons_of_mem _ (List.mem_cons_of_mem _ (List.mem_cons_of_mem _ (List.mem_cons_of_mem _ (List.mem_cons_of_mem _ (List.mem_cons_self))))))) Try.underlying33 rfl infoFil (by simp [size_ftab]) ?_)) | (go_at_call 16; ((with_reducible refine (hV.out _).mono ?_); rintro e w1 ⟨rfl, hb1⟩; replace F := F.le hb1)) | (go_at_call 48; ((with_reducible refine (i_newRunner _ _ _ _ _ _ _ HK.out).mono ?_); rintro e w2 ⟨g, rfl, hg, hR, hl⟩; replace F := F.push hR hl; clear hg hR)) | (go_at_call 54; ((with_reducible refine (i_isStill _ _ _ _ _ (F.row List.mem_cons_self)).mono ?_); rintro e w3 ⟨rfl, rfl⟩)))
    go_ret2
    exact ⟨rfl, F.below⟩
set_option maxHeartbeats 1000000 in
theorem s_IsStill (k : Int) (a b c x y : Nat) (w : World) :
    Calls Try.prog 24 #[(.agg #[.int .i64 k, .float .f32 a, .float .f32 b, .float .f32 c, .float .f32 x, .float .f32 y])] w fun e w' => e = .returned (if okF k a b c x y = true then .tuple #[.bool (stillB x y), .int .i64 0] else .tuple #[.bool false, .int .i64 1]) ∧ le w w' := by
  have hV := hid (fun g w (R : Row w g 33 (#[.int .i64 k, .float .f32 a, .float .f32 b, .float .f32 c, .float .f32 x, .float .f32 y] : Array Value)) => s_Ok k a b c x y g w R)
  have F := (Frm.nil w).box 33 (#[.int .i64 k, .float .f32 a, .float .f32 b, .float .f32 c, .float .f32 x, .float .f32 y] : Array Value)
  cases hv : okF k a b c x y
  · rw [hv] at hV; clear hv
    simp only [Bool.false_eq_true, if_false]
    go_enter Try.func24, Try.ntmps24
    go_wp2_with (first | (go_at_call 41; ((with_reducible refine (hV.out _ _ (F.row List.mem_cons_self)).mono ?_); rintro e w1 ⟨rfl, n1, rfl⟩; replace F := F.drewN n1)))
    go_ret2
    exact ⟨rfl, F.below⟩
  · rw [hv] at hV; clear hv
    simp only [if_true]
    go_enter Try.func24, Try.ntmps24
    go_wp2_with (first | (go_at_call 41; ((with_reducible refine (hV.out _ _ (F.row List.mem_cons_self)).mono ?_); rintro e w1 ⟨rfl, n1, rfl⟩; replace F := F.drewN n1)) | (go_at_call 53; ((with_reducible refine (s_l02Still _ _ _ _ _ _ _ _ (F.row List.mem_cons_self)).mono ?_); rintro e w3 ⟨rfl, rfl⟩)))
    go_ret2
    exact ⟨rfl, F.below⟩
end Go.Proofs.Ytaenbpkcehenkab
