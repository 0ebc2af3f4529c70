/- 'OnePole', 'OneZero', 'BlockDc', 'AllpassFor'. -/
import Derived.Test.YtaenbpkcehenkaaFil
import Derived.Test.YtaenbpkcehenkaaWithin
namespace Go.Fk
open Go Go.RowKit
/-- A filter is given, each of its numbers up to the bits of NaN. -/
def OutL (k : Int) (A B C X Y : Nat) (B0 : Nat) (w0 : World) (e : Ending) (w' : World) : Prop := ∃ a b c x y, e = .returned (.agg #[.int .i64 k, .float .f32 a, .float .f32 b, .float .f32 c, .float .f32 x, .float .f32 y]) ∧ (can .f32 a = A ∧ can .f32 b = B ∧ can .f32 c = C ∧ can .f32 x = X ∧ can .f32 y = Y) ∧ Below B0 w0 w'
def quoA (q : Nat) : Nat := fop .quo .f32 (fop .sub .f32 1065353216 q) (fop .add .f32 1065353216 q)
theorem Row.store6 {W : World} {g : Nat} {t : TypeId} {o0 o1 o2 o3 o4 o5 v0 v1 v2 v3 v4 v5 : Value} (h : Row W g t #[o0, o1, o2, o3, o4, o5]) :
    Row ((((((W.setCell ⟨g, 0, none⟩ v0).setCell ⟨g, 1, none⟩ v1).setCell ⟨g, 2, none⟩ v2).setCell ⟨g, 3, none⟩ v3).setCell ⟨g, 4, none⟩ v4).setCell ⟨g, 5, none⟩ v5) g t #[v0, v1, v2, v3, v4, v5] := by
  have := (((((h.set 0 v0).set 1 v1).set 2 v2).set 3 v3).set 4 v4).set 5 v5
  simpa using this
theorem can_zero : can .f32 0 = 0 := by decide
/-- Is it from 0 to 2? -/
def to2 (q : Nat) : Bool := (FloatKind.f32.format.order q 0 == some .gt || FloatKind.f32.format.order q 0 == some .eq) && (FloatKind.f32.format.order q 1073741824 == some .lt || FloatKind.f32.format.order q 1073741824 == some .eq)
/-- 'AllpassFor': a filter and OK, or none and ErrRange. -/
def OutA (q : Nat) (B0 : Nat) (w0 : World) (e : Ending) (w' : World) : Prop :=
  (to2 q = true → ∃ a, e = .returned (.tuple #[(.agg #[.int .i64 3, .float .f32 a, .float .f32 0, .float .f32 0, .float .f32 0, .float .f32 0]), .int .i64 0]) ∧ can .f32 a = quoA q) ∧ (to2 q = false → e = .returned (.tuple #[(.agg #[.int .i64 0, .float .f32 0, .float .f32 0, .float .f32 0, .float .f32 0, .float .f32 0]), .int .i64 2])) ∧ Below B0 w0 w'
end Go.Fk
namespace Go.Proofs.Ytaenbpkcehenkaa
open Go.RowKit Go.Fk
set_option maxHeartbeats 4000000 in
theorem i_AllpassFor (q : Nat) (w : World) : Calls Try.prog 61 #[.float .f32 q] w (OutA q w.heap.size w) := by
  cases ht : to2 q
  · have HW := hid (fun w : World => (show withinB q 0 1073741824 = false from ht) ▸ i_isWithin q 0 1073741824 w)
    have HT := hid ht; clear ht
    go_enter Try.func61, Try.ntmps61
    go_wp2_with (go_at_call 77; refine (HW.out _).mono ?_; rintro e w' ⟨rfl, rfl⟩)
    refine bodyPost_ret (results_row2 rfl _ _ _ _ _ rfl (Row.new w _ _) Try.underlying82 rfl infoFil) rfl ?_
    exact ⟨fun h => absurd (h.symm.trans HT.out) (by decide), fun _ => rfl, by repeat' (first | (with_reducible exact Below.refl _ _) | (with_reducible assumption) | (with_reducible refine below_drewN ?_ _) | (with_reducible refine Below.alloc ?_ ?_ _) | (with_reducible refine Below.drew ?_) | (with_reducible refine Below.setCell ?_ ?_ _) | go_size)⟩
  · have HW := hid (fun w : World => (show withinB q 0 1073741824 = true from ht) ▸ i_isWithin q 0 1073741824 w)
    have HT := hid ht; clear ht
    go_enter Try.func61, Try.ntmps61
    go_wp2_with (first | (go_at_call 77; refine (HW.out _).mono ?_; rintro e w' ⟨rfl, rfl⟩) | (with_reducible refine wpList_farith rfl rfl rfl rfl rfl ?_; intro r n hr hf))
    refine bodyPost_ret (results_row2 rfl _ _ _ _ _ rfl (Row.store6 ((Row.new w _ _).drewN _)) Try.underlying82 rfl infoFil) rfl ?_
    exact ⟨fun _ => ⟨_, rfl, by rw [quoA, hr.out]; exact fop_congr ((‹Hid (can .f32 _ = fop .sub .f32 _ _)›.out).trans (can_fop _ _ _ _).symm) ((‹Hid (can .f32 _ = fop .add .f32 _ _)›.out).trans (can_fop _ _ _ _).symm)⟩, fun h => absurd (h.symm.trans HT.out) (by decide), by repeat' (first | (with_reducible exact Below.refl _ _) | (with_reducible assumption) | (with_reducible refine below_drewN ?_ _) | (with_reducible refine Below.alloc ?_ ?_ _) | (with_reducible refine Below.drew ?_) | (with_reducible refine Below.setCell ?_ ?_ _) | go_size)⟩
set_option maxHeartbeats 4000000 in
theorem s_AllpassFor (q : Nat) (w : World) : Calls Try.prog 60 #[.float .f32 q] w (OutA q w.heap.size w) := by
  obtain ⟨T, hT⟩ : ∃ T, T = to2 q := ⟨_, rfl⟩
  have HT := hT
  unfold to2 at hT
  rcases h0 : FloatKind.f32.format.order q 0 with _ | (_ | _ | _) <;> rcases h1 : FloatKind.f32.format.order q 1073741824 with _ | (_ | _ | _) <;> rw [h0, h1] at hT
  all_goals
    first
    | replace hT : Hid (T = true) := hT.trans (by decide)
    | replace hT : Hid (T = false) := hT.trans (by decide)
    replace HT := hid HT
    go_enter Try.func60, Try.ntmps60
    go_wp2_with (with_reducible refine wpList_farith rfl rfl rfl rfl rfl ?_; intro r n hr hf)
    first
    | (have ht : to2 q = false := HT.out.symm.trans hT.out
       refine bodyPost_ret (results_row2 rfl _ _ _ _ _ rfl (Row.new w _ _) Try.underlying82 rfl infoFil) rfl ?_
       exact ⟨fun h => absurd (h.symm.trans ht) (by decide), fun _ => rfl, by repeat' (first | (with_reducible exact Below.refl _ _) | (with_reducible assumption) | (with_reducible refine below_drewN ?_ _) | (with_reducible refine Below.alloc ?_ ?_ _) | (with_reducible refine Below.drew ?_) | (with_reducible refine Below.setCell ?_ ?_ _) | go_size)⟩)
    | (have ht : to2 q = true := HT.out.symm.trans hT.out
       refine bodyPost_ret (results_row2 rfl _ _ _ _ _ rfl (Row.store6 ((Row.new w _ _).drewN _)) Try.underlying82 rfl infoFil) rfl ?_
       exact ⟨fun _ => ⟨_, rfl, by rw [quoA, hr.out]; exact fop_congr ((‹Hid (can .f32 _ = fop .sub .f32 _ _)›.out).trans (can_fop _ _ _ _).symm) ((‹Hid (can .f32 _ = fop .add .f32 _ _)›.out).trans (can_fop _ _ _ _).symm)⟩, fun h => absurd (h.symm.trans ht) (by decide), by repeat' (first | (with_reducible exact Below.refl _ _) | (with_reducible assumption) | (with_reducible refine below_drewN ?_ _) | (with_reducible refine Below.alloc ?_ ?_ _) | (with_reducible refine Below.drew ?_) | (with_reducible refine Below.setCell ?_ ?_ _) | go_size)⟩)
end Go.Proofs.Ytaenbpkcehenkaa
