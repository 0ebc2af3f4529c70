/- Texts of the walk, laid in one file. -/
import Derived.Laws.StructEq
import Derived.Deep.OwnRows
import Derived.Laws.Externs
import Derived.Test.YtmacednkpjfokaaMb
set_option linter.unusedVariables false
set_option linter.unusedSimpArgs false
/- Steps of filters: the plain functions; 'next' of each kind; 'step' of a runner; 'l02Step' of the model. -/
namespace Go.Fk
open Go Go.RowKit
/-- What a filter makes of a sample. -/
def outF (k : Int) (a b c x y s : Nat) : Nat :=
  if k = 1 ∨ k = 2 then fop .add .f32 (fop .mul .f32 a s) (fop .mul .f32 b x)
  else if k = 3 then fop .add .f32 (fop .mul .f32 a (fop .sub .f32 s y)) x
  else if k = 4 then fop .sub .f32 (fop .sub .f32 (fop .mul .f32 a s) (fop .mul .f32 b x)) (fop .mul .f32 c y)
  else fop .add .f32 (fop .sub .f32 s x) (fop .mul .f32 a y)
/-- The state behind it. -/
def st0 (k : Int) (a b c x y s : Nat) : Nat := if k = 1 ∨ k = 4 then kept (outF k a b c x y s) else kept s
def st1 (k : Int) (a b c x y s : Nat) : Nat := if k = 1 ∨ k = 2 then 0 else if k = 4 then kept x else kept (outF k a b c x y s)
theorem kept_zero : kept 0 = 0 := by decide
theorem can_outF (k : Int) (a b c x y s : Nat) : can .f32 (outF k a b c x y s) = outF k a b c x y s := by
  unfold outF; split; exact can_fop _ _ _ _; split; exact can_fop _ _ _ _; split <;> exact can_fop _ _ _ _
/-- What 'next' gives. -/
def OutN (k : Int) (a b c x y s : Nat) (w : World) (e : Ending) (w' : World) : Prop := ∃ r p q, e = .returned (.tuple #[.float .f32 r, .agg #[.float .f32 p, .float .f32 q]]) ∧ can .f32 r = outF k a b c x y s ∧ kept p = st0 k a b c x y s ∧ kept q = st1 k a b c x y s ∧ fits .f32 p ∧ fits .f32 q ∧ fits .f32 r ∧ le w w'
theorem fits_zero : fits .f32 0 := by simp [fits, Lit.wf]
theorem Row.store2 {W : World} {g : Nat} {t : TypeId} {o0 o1 v0 v1 : Value} (h : Row W g t #[o0, o1]) : Row ((W.setCell ⟨g, 0, none⟩ v0).setCell ⟨g, 1, none⟩ v1) g t #[v0, v1] := by
  have := (h.set 0 v0).set 1 v1
  simpa using this
/-- What a step gives: block g holds the new state. -/
def OutS (k : Int) (a b c x y s : Nat) (g : Nat) (t : TypeId) (cs : Nat → Nat → Array Value) (w : World) (e : Ending) (w' : World) : Prop := ∃ r, e = .returned (.float .f32 r) ∧ can .f32 r = outF k a b c x y s ∧ fits .f32 r ∧ Row w' g t (cs (st0 k a b c x y s) (st1 k a b c x y s)) ∧ Upd g w w'
end Go.Fk
namespace Go.Proofs.Ytmacednkpjfokaa
open Go.RowKit Go.Fk
theorem i_next1 (a b c x y s : Nat) (w : World) (hx : fits .f32 x) (hs : fits .f32 s) : Calls Try.prog 131 #[.agg #[.float .f32 a, .float .f32 b, .float .f32 c], .agg #[.float .f32 x, .float .f32 y], .float .f32 s] w (OutN 1 a b c x y s w) := by
  have Hx := hid hx; have Hs := hid hs; clear hx hs
  go_enter Try.func131, Try.ntmps131
  go_wp2_with (with_reducible refine wpList_farith rfl rfl rfl rfl rfl ?_; intro r n hr hf)
  rename_i r1 n1 h1 f1 r2 n2 h2 f2
  have e : can .f32 r = outF 1 a b c x y s := (by rw [hr.out]; exact fop_congr (h1.out.trans (can_fop _ _ _ _).symm) (h2.out.trans (can_fop _ _ _ _).symm))
  refine bodyPost_ret (results_row2r rfl _ _ _ _ _ rfl (Row.store2 ((Row.new' _ _ _ (by simp)).drewN _)) Try.underlying24 rfl info2) rfl ?_
  exact ⟨_, _, _, rfl, e, kept_can (e.trans (can_outF _ _ _ _ _ _ _).symm), kept_zero, hf.out, fits_zero, hf.out, by unfold le; repeat' (first | (with_reducible exact Below.refl _ _) | (with_reducible assumption) | (with_reducible refine below_drewN ?_ _) | (with_reducible refine Below.alloc ?_ ?_ _) | (with_reducible refine Below.drew ?_) | (with_reducible refine Below.setCell ?_ ?_ _) | go_size)⟩
theorem i_next2 (a b c x y s : Nat) (w : World) (hx : fits .f32 x) (hs : fits .f32 s) : Calls Try.prog 132 #[.agg #[.float .f32 a, .float .f32 b, .float .f32 c], .agg #[.float .f32 x, .float .f32 y], .float .f32 s] w (OutN 2 a b c x y s w) := by
  have Hx := hid hx; have Hs := hid hs; clear hx hs
  go_enter Try.func132, Try.ntmps132
  go_wp2_with (with_reducible refine wpList_farith rfl rfl rfl rfl rfl ?_; intro r n hr hf)
  rename_i r1 n1 h1 f1 r2 n2 h2 f2
  have e : can .f32 r = outF 2 a b c x y s := (by rw [hr.out]; exact fop_congr (h1.out.trans (can_fop _ _ _ _).symm) (h2.out.trans (can_fop _ _ _ _).symm))
  refine bodyPost_ret (results_row2r rfl _ _ _ _ _ rfl (Row.store2 ((Row.new' _ _ _ (by simp)).drewN _)) Try.underlying24 rfl info2) rfl ?_
  exact ⟨_, _, _, rfl, e, rfl, kept_zero, Hs.out, fits_zero, hf.out, by unfold le; repeat' (first | (with_reducible exact Below.refl _ _) | (with_reducible assumption) | (with_reducible refine below_drewN ?_ _) | (with_reducible refine Below.alloc ?_ ?_ _) | (with_reducible refine Below.drew ?_) | (with_reducible refine Below.setCell ?_ ?_ _) | go_size)⟩
theorem i_next3 (a b c x y s : Nat) (w : World) (hx : fits .f32 x) (hs : fits .f32 s) : Calls Try.prog 133 #[.agg #[.float .f32 a, .float .f32 b, .float .f32 c], .agg #[.float .f32 x, .float .f32 y], .float .f32 s] w (OutN 3 a b c x y s w) := by
  have Hx := hid hx; have Hs := hid hs; clear hx hs
  go_enter Try.func133, Try.ntmps133
  go_wp2_with (with_reducible refine wpList_farith rfl rfl rfl rfl rfl ?_; intro r n hr hf)
  rename_i r1 n1 h1 f1 r2 n2 h2 f2
  have e : can .f32 r = outF 3 a b c x y s := (by rw [hr.out]; exact fop_congr (h2.out.trans ((fop_congr rfl (h1.out.trans (can_fop _ _ _ _).symm)).trans (can_fop _ _ _ _).symm)) rfl)
  refine bodyPost_ret (results_row2r rfl _ _ _ _ _ rfl (Row.store2 ((Row.new' _ _ _ (by simp)).drewN _)) Try.underlying24 rfl info2) rfl ?_
  exact ⟨_, _, _, rfl, e, rfl, kept_can (e.trans (can_outF _ _ _ _ _ _ _).symm), Hs.out, hf.out, hf.out, by unfold le; repeat' (first | (with_reducible exact Below.refl _ _) | (with_reducible assumption) | (with_reducible refine below_drewN ?_ _) | (with_reducible refine Below.alloc ?_ ?_ _) | (with_reducible refine Below.drew ?_) | (with_reducible refine Below.setCell ?_ ?_ _) | go_size)⟩
theorem i_next4 (a b c x y s : Nat) (w : World) (hx : fits .f32 x) (hs : fits .f32 s) : Calls Try.prog 134 #[.agg #[.float .f32 a, .float .f32 b, .float .f32 c], .agg #[.float .f32 x, .float .f32 y], .float .f32 s] w (OutN 4 a b c x y s w) := by
  have Hx := hid hx; have Hs := hid hs; clear hx hs
  go_enter Try.func134, Try.ntmps134
  go_wp2_with (with_reducible refine wpList_farith rfl rfl rfl rfl rfl ?_; intro r n hr hf)
  rename_i r1 n1 h1 f1 r2 n2 h2 f2 r3 n3 h3 f3 r4 n4 h4 f4 KK aa
  have e : can .f32 r = outF 4 a b c x y s := (by rw [hr.out]; exact fop_congr (h3.out.trans ((fop_congr (h1.out.trans (can_fop _ _ _ _).symm) (h2.out.trans (can_fop _ _ _ _).symm)).trans (can_fop _ _ _ _).symm)) (h4.out.trans (can_fop _ _ _ _).symm))
  have F := ((((Frm.nil w).box 143 #[.float .f32 a, .float .f32 b, .float .f32 c]).box 24 #[.float .f32 x, .float .f32 y]).box 24 #[.float .f32 0, .float .f32 0])
  simp only [World.size_alloc] at F
  refine region_tail (fun _ _ _ _ => True) 6 (by kernel_rfl) (by kernel_rfl) ?_
  simp only [List.take_succ_cons, List.take_zero, List.drop_succ_cons, List.drop_zero]
  refine wpFree_one rfl (.float .f32 r) (fun w1 _ => by kernel_rfl) ?_
  simp only [Act.put, List.setIfInBounds_toArray, List.set_cons_succ, List.set_cons_zero]
  refine wpFree_one rfl (.float .f32 r) (fun w1 _ => by kernel_rfl) ?_
  simp only [Act.put, List.setIfInBounds_toArray, List.set_cons_succ, List.set_cons_zero]
  refine wpFree_one rfl (.pointer (some ⟨w.heap.size + 1, 0, none⟩)) (fun w1 _ => by kernel_rfl) ?_
  simp only [Act.put, List.setIfInBounds_toArray, List.set_cons_succ, List.set_cons_zero]
  refine wpFree_loadF (F.drewN _) rfl rfl rfl rfl (k := .f32) (v := x) (List.mem_cons_of_mem _ List.mem_cons_self) rfl Try.underlying22 ?_
  simp only [Act.put, List.setIfInBounds_toArray, List.set_cons_succ, List.set_cons_zero]
  refine wpFree_one rfl (.agg #[.float .f32 r, .float .f32 x]) (fun w1 _ => by kernel_rfl) ?_
  simp only [Act.put, List.setIfInBounds_toArray, List.set_cons_succ, List.set_cons_zero]
  refine wpFree_one rfl (.float .f32 r) (fun w1 _ => by kernel_rfl) ?_
  simp only [Act.put, List.setIfInBounds_toArray, List.set_cons_succ, List.set_cons_zero]
  refine wpFree_nil (fun w3 hw3 hF => ?_)
  have F3 := ((F.drewN _).drewN 1).le hw3
  have hz : w.heap.size ≤ w.heap.size + 1 + 1 := by omega
  have RR := F3.row (g := w.heap.size + 1 + 1) (t := 24) (cs := #[.float .f32 0, .float .f32 0]) List.mem_cons_self
  refine wpList_storeD rfl rfl rfl (cells := #[.float .f32 r, .float .f32 x]) rfl RR info2 rfl (by simp [Value.oneCell']) (fun w' KW => ?_)
  have R' := hid KW.row
  have L' := hid (KW.below _ _ F3.below hz)
  clear F F3 RR KW hw3 hF hz
  replace e := hid e
  go_wp2
  refine bodyPost_ret (results_row2r rfl _ _ _ _ _ rfl R'.out Try.underlying24 rfl info2) rfl ?_
  exact ⟨_, _, _, rfl, e.out, kept_can (e.out.trans (can_outF _ _ _ _ _ _ _).symm), rfl, hf.out, Hx.out, hf.out, L'.out⟩
theorem i_next5 (a b c x y s : Nat) (w : World) (hx : fits .f32 x) (hs : fits .f32 s) : Calls Try.prog 135 #[.agg #[.float .f32 a, .float .f32 b, .float .f32 c], .agg #[.float .f32 x, .float .f32 y], .float .f32 s] w (OutN 5 a b c x y s w) := by
  have Hx := hid hx; have Hs := hid hs; clear hx hs
  go_enter Try.func135, Try.ntmps135
  go_wp2_with (with_reducible refine wpList_farith rfl rfl rfl rfl rfl ?_; intro r n hr hf)
  rename_i r1 n1 h1 f1 r2 n2 h2 f2
  have e : can .f32 r = outF 5 a b c x y s := (by rw [hr.out]; exact fop_congr (h1.out.trans (can_fop _ _ _ _).symm) (h2.out.trans (can_fop _ _ _ _).symm))
  refine bodyPost_ret (results_row2r rfl _ _ _ _ _ rfl (Row.store2 ((Row.new' _ _ _ (by simp)).drewN _)) Try.underlying24 rfl info2) rfl ?_
  exact ⟨_, _, _, rfl, e, rfl, kept_can (e.trans (can_outF _ _ _ _ _ _ _).symm), Hs.out, hf.out, hf.out, by unfold le; repeat' (first | (with_reducible exact Below.refl _ _) | (with_reducible assumption) | (with_reducible refine below_drewN ?_ _) | (with_reducible refine Below.alloc ?_ ?_ _) | (with_reducible refine Below.drew ?_) | (with_reducible refine Below.setCell ?_ ?_ _) | go_size)⟩
theorem alloc2 (w : World) : (Instr.alloc 24 true (.tuple #[])).run Try.prog w = .ok (.pointer (some ⟨w.heap.size, 0, none⟩)) (w.alloc (.cells #[.float .f32 0, .float .f32 0] 24)) := by kernel_rfl
set_option maxHeartbeats 2000000 in
theorem i_step1 (a b c x y s g : Nat) (w : World) (R : Row w g 88 #[.iface 140 (.agg #[.float .f32 a, .float .f32 b, .float .f32 c]), .float .f32 x, .float .f32 y]) (hx : fits .f32 x) (hs : fits .f32 s) :
    Calls Try.prog 100 #[.pointer (some ⟨g, 0, none⟩), .float .f32 s] w (OutS 1 a b c x y s g 88 (fun u v => #[.iface 140 (.agg #[.float .f32 a, .float .f32 b, .float .f32 c]), .float .f32 u, .float .f32 v]) w) := by
  have Hx := hid hx; have Hs := hid hs; clear hx hs
  have F := Frm.one R
  clear R
  go_enter Try.func100, Try.ntmps100
  go_upto_region 1 with (fail)
  refine region_tail (fun f args _ v => ∃ r p q, v = .tuple #[.float .f32 r, .agg #[.float .f32 p, .float .f32 q]] ∧ can .f32 r = outF 1 a b c x y s ∧ kept p = st0 1 a b c x y s ∧ kept q = st1 1 a b c x y s ∧ fits .f32 p ∧ fits .f32 q ∧ fits .f32 r) 17 (by kernel_rfl) (by kernel_rfl) ?_
  simp only [List.take_succ_cons, List.take_zero, List.drop_succ_cons, List.drop_zero]
  refine wpFree_one rfl (.pointer (some ⟨g, 0, none⟩)) (fun w1 _ => by kernel_rfl) ?_
  simp only [Act.put, List.setIfInBounds_toArray, List.set_cons_succ, List.set_cons_zero]
  refine wpFree_one rfl (.pointer (some ⟨g, 0, none⟩)) (fun w1 _ => by kernel_rfl) ?_
  simp only [Act.put, List.setIfInBounds_toArray, List.set_cons_succ, List.set_cons_zero]
  refine wpFree_one rfl (.pointer (some ⟨g, 0, none⟩)) (fun w1 _ => by kernel_rfl) ?_
  simp only [Act.put, List.setIfInBounds_toArray, List.set_cons_succ, List.set_cons_zero]
  refine wpFree_loadV F rfl rfl rfl rfl List.mem_cons_self rfl (fun w1 => by kernel_rfl) ?_
  simp only [Act.put, List.setIfInBounds_toArray, List.set_cons_succ, List.set_cons_zero]
  refine wpFree_one rfl (.pointer (some ⟨g, 0, none⟩)) (fun w1 _ => by kernel_rfl) ?_
  simp only [Act.put, List.setIfInBounds_toArray, List.set_cons_succ, List.set_cons_zero]
  refine wpFree_one rfl (.pointer (some ⟨g, 0, none⟩)) (fun w1 _ => by kernel_rfl) ?_
  simp only [Act.put, List.setIfInBounds_toArray, List.set_cons_succ, List.set_cons_zero]
  refine wpFree_one rfl (.pointer (some ⟨g, 1, none⟩)) (fun w1 _ => by kernel_rfl) ?_
  simp only [Act.put, List.setIfInBounds_toArray, List.set_cons_succ, List.set_cons_zero]
  refine wpFree_loadPart F rfl rfl rfl rfl (List.mem_cons_self) Try.underlying24 rfl [.float .f32 x, .float .f32 y] (fun j hj => by match j, hj with | 0, _ => rfl | 1, _ => rfl) info2 ?_
  simp only [Act.put, List.setIfInBounds_toArray, List.set_cons_succ, List.set_cons_zero]
  refine wpFree_one rfl (.float .f32 s) (fun w1 _ => by kernel_rfl) ?_
  simp only [Act.put, List.setIfInBounds_toArray, List.set_cons_succ, List.set_cons_zero]
  refine wpFree_one rfl (.iface 140 (.agg #[.float .f32 a, .float .f32 b, .float .f32 c])) (fun w1 _ => by kernel_rfl) ?_
  simp only [Act.put, List.setIfInBounds_toArray, List.set_cons_succ, List.set_cons_zero]
  refine wpFree_one rfl (.iface 140 (.agg #[.float .f32 a, .float .f32 b, .float .f32 c])) (fun w1 _ => by kernel_rfl) ?_
  simp only [Act.put, List.setIfInBounds_toArray, List.set_cons_succ, List.set_cons_zero]
  refine wpFree_callR rfl 131 #[.agg #[.float .f32 a, .float .f32 b, .float .f32 c], .agg #[.float .f32 x, .float .f32 y], .float .f32 s] (fun w1 => by kernel_rfl) (fun _ _ _ _ h => h) (fun w1 _ => (i_next1 a b c x y s w1 Hx.out Hs.out).mono ?_) ?_
  · rintro e w2 ⟨r, p, q, rfl, h1, h2, h3, h4, h5, h6, hl⟩
    exact ⟨_, rfl, hl, r, p, q, rfl, h1, h2, h3, h4, h5, h6⟩
  rintro v ⟨_, _, r, p, q, rfl, h1, h2, h3, h4, h5, h6⟩
  replace h1 := hid h1; replace h2 := hid h2; replace h3 := hid h3; replace h4 := hid h4; replace h5 := hid h5; replace h6 := hid h6
  simp only [Act.put, List.setIfInBounds_toArray, List.set_cons_succ, List.set_cons_zero]
  refine wpFree_one rfl (.tuple #[.float .f32 r, .agg #[.float .f32 p, .float .f32 q]]) (fun w1 _ => by kernel_rfl) ?_
  simp only [Act.put, List.setIfInBounds_toArray, List.set_cons_succ, List.set_cons_zero]
  refine wpFree_one rfl (.float .f32 r) (fun w1 _ => by kernel_rfl) ?_
  simp only [Act.put, List.setIfInBounds_toArray, List.set_cons_succ, List.set_cons_zero]
  refine wpFree_one rfl (.agg #[.float .f32 p, .float .f32 q]) (fun w1 _ => by kernel_rfl) ?_
  simp only [Act.put, List.setIfInBounds_toArray, List.set_cons_succ, List.set_cons_zero]
  refine wpFree_alloc rfl rfl #[.float .f32 0, .float .f32 0] alloc2 (fun g2 hg2 => ?_)
  simp only [Act.put, List.setIfInBounds_toArray, List.set_cons_succ, List.set_cons_zero]
  refine wpFree_one rfl (.float .f32 r) (fun w1 _ => by kernel_rfl) ?_
  simp only [Act.put, List.setIfInBounds_toArray, List.set_cons_succ, List.set_cons_zero]
  refine wpFree_nil (fun w3 hw3 hF => ?_)
  obtain ⟨_, b', hbb, _, hrow⟩ := hF
  obtain rfl : g2 = b' := by simpa using hbb
  have hlt : g < w.heap.size := F.lt List.mem_cons_self
  have hz : w.heap.size ≤ g2 := by simpa using hg2
  have hne : g ≠ g2 := by omega
  refine wpList_storeD rfl rfl rfl (cells := #[.float .f32 p, .float .f32 q]) rfl hrow info2 rfl (by simp [Value.oneCell']) (fun w4 KW => ?_)
  have R2 := KW.row
  have RG := KW.other _ _ _ hne (((F.drewN 1).le hw3).row List.mem_cons_self)
  have U := Upd.of_le (g := g) (KW.below _ _ (le_trans (le_drewN w 1) hw3) hz)
  replace hne := hid hne
  clear hbb hrow hw3 hg2 F KW hlt hz
  replace U := hid U
  replace RG := hid RG
  go_wp2_with (with_reducible refine wpList_loadDn rfl rfl rfl R2 Try.underlying24 rfl info2 (by simp) ?_)
  replace R2 := hid R2
  go_loopw [25] (fun i wr => ∃ j : Nat, j ≤ 2 ∧ i = .int .i64 j ∧ Hid (Row wr g 88 #[.iface 140 (.agg #[.float .f32 a, .float .f32 b, .float .f32 c]), .float .f32 (if j = 0 then x else st0 1 a b c x y s), .float .f32 (if j < 2 then y else st1 1 a b c x y s)]) ∧ Hid (Upd g w wr)) (fun i _ => 2 - (intOf i).toNat)
  case atStart => exact ⟨0, by omega, rfl, RG, U⟩
  case round =>
    obtain ⟨j, hj, rfl, RJ, UJ⟩ := hrel
    rcases (show j = 0 ∨ j = 1 ∨ j = 2 by omega) with rfl | rfl | rfl
    · simp only [if_true, if_pos (show (0 : Nat) < 2 by decide)] at RJ
      clear RG U
      have ix : ∀ w, (Instr.index 24 (.agg #[.float .f32 p, .float .f32 q]) (.int .i64 0)).run Try.prog w = .ok (.float .f32 p) w := fun w => by kernel_rfl
      rw [show ((0 : Nat) : Int) = 0 from rfl]
      go_wp2
      clear ix
      refine region_tail (fun _ _ _ v => v = .float .f32 (kept p)) 7 (by kernel_rfl) (by kernel_rfl) ?_
      simp only [List.take_succ_cons, List.take_zero, List.drop_succ_cons, List.drop_zero]
      refine wpFree_one rfl (.pointer (some ⟨g, 0, none⟩)) (fun w1 _ => by kernel_rfl) ?_
      simp only [Act.put, List.setIfInBounds_toArray, List.set_cons_succ, List.set_cons_zero]
      refine wpFree_one rfl (.int .i64 0) (fun w1 _ => by kernel_rfl) ?_
      simp only [Act.put, List.setIfInBounds_toArray, List.set_cons_succ, List.set_cons_zero]
      refine wpFree_one rfl (.float .f32 p) (fun w1 _ => by kernel_rfl) ?_
      simp only [Act.put, List.setIfInBounds_toArray, List.set_cons_succ, List.set_cons_zero]
      refine wpFree_call rfl rfl Try.func108 (by kernel_rfl) (by kernel_rfl) (args := #[.float .f32 p]) (by simp [Act.eval]) (fun _ _ _ _ h => h) (fun w1 _ => (i_kept p w1 h4.out).mono ?_) ?_
      · rintro e w2 ⟨rfl, rfl⟩
        exact ⟨_, rfl, le_refl _, rfl⟩
      rintro v ⟨_, _, rfl⟩
      simp only [Act.put, List.setIfInBounds_toArray, List.set_cons_succ, List.set_cons_zero]
      refine wpFree_one rfl (.pointer (some ⟨g, 0, none⟩)) (fun w1 _ => by kernel_rfl) ?_
      simp only [Act.put, List.setIfInBounds_toArray, List.set_cons_succ, List.set_cons_zero]
      refine wpFree_one rfl (.pointer (some ⟨g, 1, none⟩)) (fun w1 _ => by kernel_rfl) ?_
      simp only [Act.put, List.setIfInBounds_toArray, List.set_cons_succ, List.set_cons_zero]
      refine wpFree_one rfl (.pointer (some ⟨g, 1 + 0, none⟩)) (fun w1 _ => by kernel_rfl) ?_
      simp only [Act.put, List.setIfInBounds_toArray, List.set_cons_succ, List.set_cons_zero]
      refine wpFree_nil (fun w5 hw5 _ => ?_)
      have RR := (RJ.out.drewN 1).le hw5
      have UU := hid ((UJ.out.le (le_drewN _ 1)).le hw5)
      have cc := RR.cell? (1 + 0)
      have ff := RR.frozen (1 + 0)
      replace RR := hid RR
      clear hw5
      go_wp2
      go_roundw
      case rel => exact ⟨0 + 1, by omega, by go_num, by have := RR.out.set (1 + 0) (.float .f32 (kept p)); rw [h2.out] at this; show Row _ _ _ _; rw [h2.out]; simpa using this, UU.out.setCell rfl _⟩
      case measure => simp [intOf]
    · simp only [if_neg (show ¬ (1 : Nat) = 0 by decide), if_pos (show (1 : Nat) < 2 by decide)] at RJ
      clear RG U
      have ix : ∀ w, (Instr.index 24 (.agg #[.float .f32 p, .float .f32 q]) (.int .i64 1)).run Try.prog w = .ok (.float .f32 q) w := fun w => by kernel_rfl
      rw [show ((1 : Nat) : Int) = 1 from rfl]
      go_wp2
      clear ix
      refine region_tail (fun _ _ _ v => v = .float .f32 (kept q)) 7 (by kernel_rfl) (by kernel_rfl) ?_
      simp only [List.take_succ_cons, List.take_zero, List.drop_succ_cons, List.drop_zero]
      refine wpFree_one rfl (.pointer (some ⟨g, 0, none⟩)) (fun w1 _ => by kernel_rfl) ?_
      simp only [Act.put, List.setIfInBounds_toArray, List.set_cons_succ, List.set_cons_zero]
      refine wpFree_one rfl (.int .i64 1) (fun w1 _ => by kernel_rfl) ?_
      simp only [Act.put, List.setIfInBounds_toArray, List.set_cons_succ, List.set_cons_zero]
      refine wpFree_one rfl (.float .f32 q) (fun w1 _ => by kernel_rfl) ?_
      simp only [Act.put, List.setIfInBounds_toArray, List.set_cons_succ, List.set_cons_zero]
      refine wpFree_call rfl rfl Try.func108 (by kernel_rfl) (by kernel_rfl) (args := #[.float .f32 q]) (by simp [Act.eval]) (fun _ _ _ _ h => h) (fun w1 _ => (i_kept q w1 h5.out).mono ?_) ?_
      · rintro e w2 ⟨rfl, rfl⟩
        exact ⟨_, rfl, le_refl _, rfl⟩
      rintro v ⟨_, _, rfl⟩
      simp only [Act.put, List.setIfInBounds_toArray, List.set_cons_succ, List.set_cons_zero]
      refine wpFree_one rfl (.pointer (some ⟨g, 0, none⟩)) (fun w1 _ => by kernel_rfl) ?_
      simp only [Act.put, List.setIfInBounds_toArray, List.set_cons_succ, List.set_cons_zero]
      refine wpFree_one rfl (.pointer (some ⟨g, 1, none⟩)) (fun w1 _ => by kernel_rfl) ?_
      simp only [Act.put, List.setIfInBounds_toArray, List.set_cons_succ, List.set_cons_zero]
      refine wpFree_one rfl (.pointer (some ⟨g, 1 + 1, none⟩)) (fun w1 _ => by kernel_rfl) ?_
      simp only [Act.put, List.setIfInBounds_toArray, List.set_cons_succ, List.set_cons_zero]
      refine wpFree_nil (fun w5 hw5 _ => ?_)
      have RR := (RJ.out.drewN 1).le hw5
      have UU := hid ((UJ.out.le (le_drewN _ 1)).le hw5)
      have cc := RR.cell? (1 + 1)
      have ff := RR.frozen (1 + 1)
      replace RR := hid RR
      clear hw5
      go_wp2
      go_roundw
      case rel => exact ⟨1 + 1, by omega, by go_num, by have := RR.out.set (1 + 1) (.float .f32 (kept q)); rw [h3.out] at this; show Row _ _ _ _; rw [h3.out]; simpa using this, UU.out.setCell rfl _⟩
      case measure => simp [intOf]
    · simp only [if_neg (show ¬ (2 : Nat) = 0 by decide), if_neg (show ¬ (2 : Nat) < 2 by decide)] at RJ
      clear RG U
      go_wp2
      go_ret
      exact ⟨_, rfl, h1.out, h6.out, RJ.out, UJ.out⟩
set_option maxHeartbeats 2000000 in
theorem i_step2 (a b c x y s g : Nat) (w : World) (R : Row w g 88 #[.iface 141 (.agg #[.float .f32 a, .float .f32 b, .float .f32 c]), .float .f32 x, .float .f32 y]) (hx : fits .f32 x) (hs : fits .f32 s) :
    Calls Try.prog 100 #[.pointer (some ⟨g, 0, none⟩), .float .f32 s] w (OutS 2 a b c x y s g 88 (fun u v => #[.iface 141 (.agg #[.float .f32 a, .float .f32 b, .float .f32 c]), .float .f32 u, .float .f32 v]) w) := by
  have Hx := hid hx; have Hs := hid hs; clear hx hs
  have F := Frm.one R
  clear R
  go_enter Try.func100, Try.ntmps100
  go_upto_region 1 with (fail)
  refine region_tail (fun f args _ v => ∃ r p q, v = .tuple #[.float .f32 r, .agg #[.float .f32 p, .float .f32 q]] ∧ can .f32 r = outF 2 a b c x y s ∧ kept p = st0 2 a b c x y s ∧ kept q = st1 2 a b c x y s ∧ fits .f32 p ∧ fits .f32 q ∧ fits .f32 r) 17 (by kernel_rfl) (by kernel_rfl) ?_
  simp only [List.take_succ_cons, List.take_zero, List.drop_succ_cons, List.drop_zero]
  refine wpFree_one rfl (.pointer (some ⟨g, 0, none⟩)) (fun w1 _ => by kernel_rfl) ?_
  simp only [Act.put, List.setIfInBounds_toArray, List.set_cons_succ, List.set_cons_zero]
  refine wpFree_one rfl (.pointer (some ⟨g, 0, none⟩)) (fun w1 _ => by kernel_rfl) ?_
  simp only [Act.put, List.setIfInBounds_toArray, List.set_cons_succ, List.set_cons_zero]
  refine wpFree_one rfl (.pointer (some ⟨g, 0, none⟩)) (fun w1 _ => by kernel_rfl) ?_
  simp only [Act.put, List.setIfInBounds_toArray, List.set_cons_succ, List.set_cons_zero]
  refine wpFree_loadV F rfl rfl rfl rfl List.mem_cons_self rfl (fun w1 => by kernel_rfl) ?_
  simp only [Act.put, List.setIfInBounds_toArray, List.set_cons_succ, List.set_cons_zero]
  refine wpFree_one rfl (.pointer (some ⟨g, 0, none⟩)) (fun w1 _ => by kernel_rfl) ?_
  simp only [Act.put, List.setIfInBounds_toArray, List.set_cons_succ, List.set_cons_zero]
  refine wpFree_one rfl (.pointer (some ⟨g, 0, none⟩)) (fun w1 _ => by kernel_rfl) ?_
  simp only [Act.put, List.setIfInBounds_toArray, List.set_cons_succ, List.set_cons_zero]
  refine wpFree_one rfl (.pointer (some ⟨g, 1, none⟩)) (fun w1 _ => by kernel_rfl) ?_
  simp only [Act.put, List.setIfInBounds_toArray, List.set_cons_succ, List.set_cons_zero]
  refine wpFree_loadPart F rfl rfl rfl rfl (List.mem_cons_self) Try.underlying24 rfl [.float .f32 x, .float .f32 y] (fun j hj => by match j, hj with | 0, _ => rfl | 1, _ => rfl) info2 ?_
  simp only [Act.put, List.setIfInBounds_toArray, List.set_cons_succ, List.set_cons_zero]
  refine wpFree_one rfl (.float .f32 s) (fun w1 _ => by kernel_rfl) ?_
  simp only [Act.put, List.setIfInBounds_toArray, List.set_cons_succ, List.set_cons_zero]
  refine wpFree_one rfl (.iface 141 (.agg #[.float .f32 a, .float .f32 b, .float .f32 c])) (fun w1 _ => by kernel_rfl) ?_
  simp only [Act.put, List.setIfInBounds_toArray, List.set_cons_succ, List.set_cons_zero]
  refine wpFree_one rfl (.iface 141 (.agg #[.float .f32 a, .float .f32 b, .float .f32 c])) (fun w1 _ => by kernel_rfl) ?_
  simp only [Act.put, List.setIfInBounds_toArray, List.set_cons_succ, List.set_cons_zero]
  refine wpFree_callR rfl 132 #[.agg #[.float .f32 a, .float .f32 b, .float .f32 c], .agg #[.float .f32 x, .float .f32 y], .float .f32 s] (fun w1 => by kernel_rfl) (fun _ _ _ _ h => h) (fun w1 _ => (i_next2 a b c x y s w1 Hx.out Hs.out).mono ?_) ?_
  · rintro e w2 ⟨r, p, q, rfl, h1, h2, h3, h4, h5, h6, hl⟩
    exact ⟨_, rfl, hl, r, p, q, rfl, h1, h2, h3, h4, h5, h6⟩
  rintro v ⟨_, _, r, p, q, rfl, h1, h2, h3, h4, h5, h6⟩
  replace h1 := hid h1; replace h2 := hid h2; replace h3 := hid h3; replace h4 := hid h4; replace h5 := hid h5; replace h6 := hid h6
  simp only [Act.put, List.setIfInBounds_toArray, List.set_cons_succ, List.set_cons_zero]
  refine wpFree_one rfl (.tuple #[.float .f32 r, .agg #[.float .f32 p, .float .f32 q]]) (fun w1 _ => by kernel_rfl) ?_
  simp only [Act.put, List.setIfInBounds_toArray, List.set_cons_succ, List.set_cons_zero]
  refine wpFree_one rfl (.float .f32 r) (fun w1 _ => by kernel_rfl) ?_
  simp only [Act.put, List.setIfInBounds_toArray, List.set_cons_succ, List.set_cons_zero]
  refine wpFree_one rfl (.agg #[.float .f32 p, .float .f32 q]) (fun w1 _ => by kernel_rfl) ?_
  simp only [Act.put, List.setIfInBounds_toArray, List.set_cons_succ, List.set_cons_zero]
  refine wpFree_alloc rfl rfl #[.float .f32 0, .float .f32 0] alloc2 (fun g2 hg2 => ?_)
  simp only [Act.put, List.setIfInBounds_toArray, List.set_cons_succ, List.set_cons_zero]
  refine wpFree_one rfl (.float .f32 r) (fun w1 _ => by kernel_rfl) ?_
  simp only [Act.put, List.setIfInBounds_toArray, List.set_cons_succ, List.set_cons_zero]
  refine wpFree_nil (fun w3 hw3 hF => ?_)
  obtain ⟨_, b', hbb, _, hrow⟩ := hF
  obtain rfl : g2 = b' := by simpa using hbb
  have hlt : g < w.heap.size := F.lt List.mem_cons_self
  have hz : w.heap.size ≤ g2 := by simpa using hg2
  have hne : g ≠ g2 := by omega
  refine wpList_storeD rfl rfl rfl (cells := #[.float .f32 p, .float .f32 q]) rfl hrow info2 rfl (by simp [Value.oneCell']) (fun w4 KW => ?_)
  have R2 := KW.row
  have RG := KW.other _ _ _ hne (((F.drewN 1).le hw3).row List.mem_cons_self)
  have U := Upd.of_le (g := g) (KW.below _ _ (le_trans (le_drewN w 1) hw3) hz)
  replace hne := hid hne
  clear hbb hrow hw3 hg2 F KW hlt hz
  replace U := hid U
  replace RG := hid RG
  go_wp2_with (with_reducible refine wpList_loadDn rfl rfl rfl R2 Try.underlying24 rfl info2 (by simp) ?_)
  replace R2 := hid R2
  go_loopw [25] (fun i wr => ∃ j : Nat, j ≤ 2 ∧ i = .int .i64 j ∧ Hid (Row wr g 88 #[.iface 141 (.agg #[.float .f32 a, .float .f32 b, .float .f32 c]), .float .f32 (if j = 0 then x else st0 2 a b c x y s), .float .f32 (if j < 2 then y else st1 2 a b c x y s)]) ∧ Hid (Upd g w wr)) (fun i _ => 2 - (intOf i).toNat)
  case atStart => exact ⟨0, by omega, rfl, RG, U⟩
  case round =>
    obtain ⟨j, hj, rfl, RJ, UJ⟩ := hrel
    rcases (show j = 0 ∨ j = 1 ∨ j = 2 by omega) with rfl | rfl | rfl
    · simp only [if_true, if_pos (show (0 : Nat) < 2 by decide)] at RJ
      clear RG U
      have ix : ∀ w, (Instr.index 24 (.agg #[.float .f32 p, .float .f32 q]) (.int .i64 0)).run Try.prog w = .ok (.float .f32 p) w := fun w => by kernel_rfl
      rw [show ((0 : Nat) : Int) = 0 from rfl]
      go_wp2
      clear ix
      refine region_tail (fun _ _ _ v => v = .float .f32 (kept p)) 7 (by kernel_rfl) (by kernel_rfl) ?_
      simp only [List.take_succ_cons, List.take_zero, List.drop_succ_cons, List.drop_zero]
      refine wpFree_one rfl (.pointer (some ⟨g, 0, none⟩)) (fun w1 _ => by kernel_rfl) ?_
      simp only [Act.put, List.setIfInBounds_toArray, List.set_cons_succ, List.set_cons_zero]
      refine wpFree_one rfl (.int .i64 0) (fun w1 _ => by kernel_rfl) ?_
      simp only [Act.put, List.setIfInBounds_toArray, List.set_cons_succ, List.set_cons_zero]
      refine wpFree_one rfl (.float .f32 p) (fun w1 _ => by kernel_rfl) ?_
      simp only [Act.put, List.setIfInBounds_toArray, List.set_cons_succ, List.set_cons_zero]
      refine wpFree_call rfl rfl Try.func108 (by kernel_rfl) (by kernel_rfl) (args := #[.float .f32 p]) (by simp [Act.eval]) (fun _ _ _ _ h => h) (fun w1 _ => (i_kept p w1 h4.out).mono ?_) ?_
      · rintro e w2 ⟨rfl, rfl⟩
        exact ⟨_, rfl, le_refl _, rfl⟩
      rintro v ⟨_, _, rfl⟩
      simp only [Act.put, List.setIfInBounds_toArray, List.set_cons_succ, List.set_cons_zero]
      refine wpFree_one rfl (.pointer (some ⟨g, 0, none⟩)) (fun w1 _ => by kernel_rfl) ?_
      simp only [Act.put, List.setIfInBounds_toArray, List.set_cons_succ, List.set_cons_zero]
      refine wpFree_one rfl (.pointer (some ⟨g, 1, none⟩)) (fun w1 _ => by kernel_rfl) ?_
      simp only [Act.put, List.setIfInBounds_toArray, List.set_cons_succ, List.set_cons_zero]
      refine wpFree_one rfl (.pointer (some ⟨g, 1 + 0, none⟩)) (fun w1 _ => by kernel_rfl) ?_
      simp only [Act.put, List.setIfInBounds_toArray, List.set_cons_succ, List.set_cons_zero]
      refine wpFree_nil (fun w5 hw5 _ => ?_)
      have RR := (RJ.out.drewN 1).le hw5
      have UU := hid ((UJ.out.le (le_drewN _ 1)).le hw5)
      have cc := RR.cell? (1 + 0)
      have ff := RR.frozen (1 + 0)
      replace RR := hid RR
      clear hw5
      go_wp2
      go_roundw
      case rel => exact ⟨0 + 1, by omega, by go_num, by have := RR.out.set (1 + 0) (.float .f32 (kept p)); rw [h2.out] at this; show Row _ _ _ _; rw [h2.out]; simpa using this, UU.out.setCell rfl _⟩
      case measure => simp [intOf]
    · simp only [if_neg (show ¬ (1 : Nat) = 0 by decide), if_pos (show (1 : Nat) < 2 by decide)] at RJ
      clear RG U
      have ix : ∀ w, (Instr.index 24 (.agg #[.float .f32 p, .float .f32 q]) (.int .i64 1)).run Try.prog w = .ok (.float .f32 q) w := fun w => by kernel_rfl
      rw [show ((1 : Nat) : Int) = 1 from rfl]
      go_wp2
      clear ix
      refine region_tail (fun _ _ _ v => v = .float .f32 (kept q)) 7 (by kernel_rfl) (by kernel_rfl) ?_
      simp only [List.take_succ_cons, List.take_zero, List.drop_succ_cons, List.drop_zero]
      refine wpFree_one rfl (.pointer (some ⟨g, 0, none⟩)) (fun w1 _ => by kernel_rfl) ?_
      simp only [Act.put, List.setIfInBounds_toArray, List.set_cons_succ, List.set_cons_zero]
      refine wpFree_one rfl (.int .i64 1) (fun w1 _ => by kernel_rfl) ?_
      simp only [Act.put, List.setIfInBounds_toArray, List.set_cons_succ, List.set_cons_zero]
      refine wpFree_one rfl (.float .f32 q) (fun w1 _ => by kernel_rfl) ?_
      simp only [Act.put, List.setIfInBounds_toArray, List.set_cons_succ, List.set_cons_zero]
      refine wpFree_call rfl rfl Try.func108 (by kernel_rfl) (by kernel_rfl) (args := #[.float .f32 q]) (by simp [Act.eval]) (fun _ _ _ _ h => h) (fun w1 _ => (i_kept q w1 h5.out).mono ?_) ?_
      · rintro e w2 ⟨rfl, rfl⟩
        exact ⟨_, rfl, le_refl _, rfl⟩
      rintro v ⟨_, _, rfl⟩
      simp only [Act.put, List.setIfInBounds_toArray, List.set_cons_succ, List.set_cons_zero]
      refine wpFree_one rfl (.pointer (some ⟨g, 0, none⟩)) (fun w1 _ => by kernel_rfl) ?_
      simp only [Act.put, List.setIfInBounds_toArray, List.set_cons_succ, List.set_cons_zero]
      refine wpFree_one rfl (.pointer (some ⟨g, 1, none⟩)) (fun w1 _ => by kernel_rfl) ?_
      simp only [Act.put, List.setIfInBounds_toArray, List.set_cons_succ, List.set_cons_zero]
      refine wpFree_one rfl (.pointer (some ⟨g, 1 + 1, none⟩)) (fun w1 _ => by kernel_rfl) ?_
      simp only [Act.put, List.setIfInBounds_toArray, List.set_cons_succ, List.set_cons_zero]
      refine wpFree_nil (fun w5 hw5 _ => ?_)
      have RR := (RJ.out.drewN 1).le hw5
      have UU := hid ((UJ.out.le (le_drewN _ 1)).le hw5)
      have cc := RR.cell? (1 + 1)
      have ff := RR.frozen (1 + 1)
      replace RR := hid RR
      clear hw5
      go_wp2
      go_roundw
      case rel => exact ⟨1 + 1, by omega, by go_num, by have := RR.out.set (1 + 1) (.float .f32 (kept q)); rw [h3.out] at this; show Row _ _ _ _; rw [h3.out]; simpa using this, UU.out.setCell rfl _⟩
      case measure => simp [intOf]
    · simp only [if_neg (show ¬ (2 : Nat) = 0 by decide), if_neg (show ¬ (2 : Nat) < 2 by decide)] at RJ
      clear RG U
      go_wp2
      go_ret
      exact ⟨_, rfl, h1.out, h6.out, RJ.out, UJ.out⟩
set_option maxHeartbeats 2000000 in
theorem i_step3 (a b c x y s g : Nat) (w : World) (R : Row w g 88 #[.iface 142 (.agg #[.float .f32 a, .float .f32 b, .float .f32 c]), .float .f32 x, .float .f32 y]) (hx : fits .f32 x) (hs : fits .f32 s) :
    Calls Try.prog 100 #[.pointer (some ⟨g, 0, none⟩), .float .f32 s] w (OutS 3 a b c x y s g 88 (fun u v => #[.iface 142 (.agg #[.float .f32 a, .float .f32 b, .float .f32 c]), .float .f32 u, .float .f32 v]) w) := by
  have Hx := hid hx; have Hs := hid hs; clear hx hs
  have F := Frm.one R
  clear R
  go_enter Try.func100, Try.ntmps100
  go_upto_region 1 with (fail)
  refine region_tail (fun f args _ v => ∃ r p q, v = .tuple #[.float .f32 r, .agg #[.float .f32 p, .float .f32 q]] ∧ can .f32 r = outF 3 a b c x y s ∧ kept p = st0 3 a b c x y s ∧ kept q = st1 3 a b c x y s ∧ fits .f32 p ∧ fits .f32 q ∧ fits .f32 r) 17 (by kernel_rfl) (by kernel_rfl) ?_
  simp only [List.take_succ_cons, List.take_zero, List.drop_succ_cons, List.drop_zero]
  refine wpFree_one rfl (.pointer (some ⟨g, 0, none⟩)) (fun w1 _ => by kernel_rfl) ?_
  simp only [Act.put, List.setIfInBounds_toArray, List.set_cons_succ, List.set_cons_zero]
  refine wpFree_one rfl (.pointer (some ⟨g, 0, none⟩)) (fun w1 _ => by kernel_rfl) ?_
  simp only [Act.put, List.setIfInBounds_toArray, List.set_cons_succ, List.set_cons_zero]
  refine wpFree_one rfl (.pointer (some ⟨g, 0, none⟩)) (fun w1 _ => by kernel_rfl) ?_
  simp only [Act.put, List.setIfInBounds_toArray, List.set_cons_succ, List.set_cons_zero]
  refine wpFree_loadV F rfl rfl rfl rfl List.mem_cons_self rfl (fun w1 => by kernel_rfl) ?_
  simp only [Act.put, List.setIfInBounds_toArray, List.set_cons_succ, List.set_cons_zero]
  refine wpFree_one rfl (.pointer (some ⟨g, 0, none⟩)) (fun w1 _ => by kernel_rfl) ?_
  simp only [Act.put, List.setIfInBounds_toArray, List.set_cons_succ, List.set_cons_zero]
  refine wpFree_one rfl (.pointer (some ⟨g, 0, none⟩)) (fun w1 _ => by kernel_rfl) ?_
  simp only [Act.put, List.setIfInBounds_toArray, List.set_cons_succ, List.set_cons_zero]
  refine wpFree_one rfl (.pointer (some ⟨g, 1, none⟩)) (fun w1 _ => by kernel_rfl) ?_
  simp only [Act.put, List.setIfInBounds_toArray, List.set_cons_succ, List.set_cons_zero]
  refine wpFree_loadPart F rfl rfl rfl rfl (List.mem_cons_self) Try.underlying24 rfl [.float .f32 x, .float .f32 y] (fun j hj => by match j, hj with | 0, _ => rfl | 1, _ => rfl) info2 ?_
  simp only [Act.put, List.setIfInBounds_toArray, List.set_cons_succ, List.set_cons_zero]
  refine wpFree_one rfl (.float .f32 s) (fun w1 _ => by kernel_rfl) ?_
  simp only [Act.put, List.setIfInBounds_toArray, List.set_cons_succ, List.set_cons_zero]
  refine wpFree_one rfl (.iface 142 (.agg #[.float .f32 a, .float .f32 b, .float .f32 c])) (fun w1 _ => by kernel_rfl) ?_
  simp only [Act.put, List.setIfInBounds_toArray, List.set_cons_succ, List.set_cons_zero]
  refine wpFree_one rfl (.iface 142 (.agg #[.float .f32 a, .float .f32 b, .float .f32 c])) (fun w1 _ => by kernel_rfl) ?_
  simp only [Act.put, List.setIfInBounds_toArray, List.set_cons_succ, List.set_cons_zero]
  refine wpFree_callR rfl 133 #[.agg #[.float .f32 a, .float .f32 b, .float .f32 c], .agg #[.float .f32 x, .float .f32 y], .float .f32 s] (fun w1 => by kernel_rfl) (fun _ _ _ _ h => h) (fun w1 _ => (i_next3 a b c x y s w1 Hx.out Hs.out).mono ?_) ?_
  · rintro e w2 ⟨r, p, q, rfl, h1, h2, h3, h4, h5, h6, hl⟩
    exact ⟨_, rfl, hl, r, p, q, rfl, h1, h2, h3, h4, h5, h6⟩
  rintro v ⟨_, _, r, p, q, rfl, h1, h2, h3, h4, h5, h6⟩
  replace h1 := hid h1; replace h2 := hid h2; replace h3 := hid h3; replace h4 := hid h4; replace h5 := hid h5; replace h6 := hid h6
  simp only [Act.put, List.setIfInBounds_toArray, List.set_cons_succ, List.set_cons_zero]
  refine wpFree_one rfl (.tuple #[.float .f32 r, .agg #[.float .f32 p, .float .f32 q]]) (fun w1 _ => by kernel_rfl) ?_
  simp only [Act.put, List.setIfInBounds_toArray, List.set_cons_succ, List.set_cons_zero]
  refine wpFree_one rfl (.float .f32 r) (fun w1 _ => by kernel_rfl) ?_
  simp only [Act.put, List.setIfInBounds_toArray, List.set_cons_succ, List.set_cons_zero]
  refine wpFree_one rfl (.agg #[.float .f32 p, .float .f32 q]) (fun w1 _ => by kernel_rfl) ?_
  simp only [Act.put, List.setIfInBounds_toArray, List.set_cons_succ, List.set_cons_zero]
  refine wpFree_alloc rfl rfl #[.float .f32 0, .float .f32 0] alloc2 (fun g2 hg2 => ?_)
  simp only [Act.put, List.setIfInBounds_toArray, List.set_cons_succ, List.set_cons_zero]
  refine wpFree_one rfl (.float .f32 r) (fun w1 _ => by kernel_rfl) ?_
  simp only [Act.put, List.setIfInBounds_toArray, List.set_cons_succ, List.set_cons_zero]
  refine wpFree_nil (fun w3 hw3 hF => ?_)
  obtain ⟨_, b', hbb, _, hrow⟩ := hF
  obtain rfl : g2 = b' := by simpa using hbb
  have hlt : g < w.heap.size := F.lt List.mem_cons_self
  have hz : w.heap.size ≤ g2 := by simpa using hg2
  have hne : g ≠ g2 := by omega
  refine wpList_storeD rfl rfl rfl (cells := #[.float .f32 p, .float .f32 q]) rfl hrow info2 rfl (by simp [Value.oneCell']) (fun w4 KW => ?_)
  have R2 := KW.row
  have RG := KW.other _ _ _ hne (((F.drewN 1).le hw3).row List.mem_cons_self)
  have U := Upd.of_le (g := g) (KW.below _ _ (le_trans (le_drewN w 1) hw3) hz)
  replace hne := hid hne
  clear hbb hrow hw3 hg2 F KW hlt hz
  replace U := hid U
  replace RG := hid RG
  go_wp2_with (with_reducible refine wpList_loadDn rfl rfl rfl R2 Try.underlying24 rfl info2 (by simp) ?_)
  replace R2 := hid R2
  go_loopw [25] (fun i wr => ∃ j : Nat, j ≤ 2 ∧ i = .int .i64 j ∧ Hid (Row wr g 88 #[.iface 142 (.agg #[.float .f32 a, .float .f32 b, .float .f32 c]), .float .f32 (if j = 0 then x else st0 3 a b c x y s), .float .f32 (if j < 2 then y else st1 3 a b c x y s)]) ∧ Hid (Upd g w wr)) (fun i _ => 2 - (intOf i).toNat)
  case atStart => exact ⟨0, by omega, rfl, RG, U⟩
  case round =>
    obtain ⟨j, hj, rfl, RJ, UJ⟩ := hrel
    rcases (show j = 0 ∨ j = 1 ∨ j = 2 by omega) with rfl | rfl | rfl
    · simp only [if_true, if_pos (show (0 : Nat) < 2 by decide)] at RJ
      clear RG U
      have ix : ∀ w, (Instr.index 24 (.agg #[.float .f32 p, .float .f32 q]) (.int .i64 0)).run Try.prog w = .ok (.float .f32 p) w := fun w => by kernel_rfl
      rw [show ((0 : Nat) : Int) = 0 from rfl]
      go_wp2
      clear ix
      refine region_tail (fun _ _ _ v => v = .float .f32 (kept p)) 7 (by kernel_rfl) (by kernel_rfl) ?_
      simp only [List.take_succ_cons, List.take_zero, List.drop_succ_cons, List.drop_zero]
      refine wpFree_one rfl (.pointer (some ⟨g, 0, none⟩)) (fun w1 _ => by kernel_rfl) ?_
      simp only [Act.put, List.setIfInBounds_toArray, List.set_cons_succ, List.set_cons_zero]
      refine wpFree_one rfl (.int .i64 0) (fun w1 _ => by kernel_rfl) ?_
      simp only [Act.put, List.setIfInBounds_toArray, List.set_cons_succ, List.set_cons_zero]
      refine wpFree_one rfl (.float .f32 p) (fun w1 _ => by kernel_rfl) ?_
      simp only [Act.put, List.setIfInBounds_toArray, List.set_cons_succ, List.set_cons_zero]
      refine wpFree_call rfl rfl Try.func108 (by kernel_rfl) (by kernel_rfl) (args := #[.float .f32 p]) (by simp [Act.eval]) (fun _ _ _ _ h => h) (fun w1 _ => (i_kept p w1 h4.out).mono ?_) ?_
      · rintro e w2 ⟨rfl, rfl⟩
        exact ⟨_, rfl, le_refl _, rfl⟩
      rintro v ⟨_, _, rfl⟩
      simp only [Act.put, List.setIfInBounds_toArray, List.set_cons_succ, List.set_cons_zero]
      refine wpFree_one rfl (.pointer (some ⟨g, 0, none⟩)) (fun w1 _ => by kernel_rfl) ?_
      simp only [Act.put, List.setIfInBounds_toArray, List.set_cons_succ, List.set_cons_zero]
      refine wpFree_one rfl (.pointer (some ⟨g, 1, none⟩)) (fun w1 _ => by kernel_rfl) ?_
      simp only [Act.put, List.setIfInBounds_toArray, List.set_cons_succ, List.set_cons_zero]
      refine wpFree_one rfl (.pointer (some ⟨g, 1 + 0, none⟩)) (fun w1 _ => by kernel_rfl) ?_
      simp only [Act.put, List.setIfInBounds_toArray, List.set_cons_succ, List.set_cons_zero]
      refine wpFree_nil (fun w5 hw5 _ => ?_)
      have RR := (RJ.out.drewN 1).le hw5
      have UU := hid ((UJ.out.le (le_drewN _ 1)).le hw5)
      have cc := RR.cell? (1 + 0)
      have ff := RR.frozen (1 + 0)
      replace RR := hid RR
      clear hw5
      go_wp2
      go_roundw
      case rel => exact ⟨0 + 1, by omega, by go_num, by have := RR.out.set (1 + 0) (.float .f32 (kept p)); rw [h2.out] at this; show Row _ _ _ _; rw [h2.out]; simpa using this, UU.out.setCell rfl _⟩
      case measure => simp [intOf]
    · simp only [if_neg (show ¬ (1 : Nat) = 0 by decide), if_pos (show (1 : Nat) < 2 by decide)] at RJ
      clear RG U
      have ix : ∀ w, (Instr.index 24 (.agg #[.float .f32 p, .float .f32 q]) (.int .i64 1)).run Try.prog w = .ok (.float .f32 q) w := fun w => by kernel_rfl
      rw [show ((1 : Nat) : Int) = 1 from rfl]
      go_wp2
      clear ix
      refine region_tail (fun _ _ _ v => v = .float .f32 (kept q)) 7 (by kernel_rfl) (by kernel_rfl) ?_
      simp only [List.take_succ_cons, List.take_zero, List.drop_succ_cons, List.drop_zero]
      refine wpFree_one rfl (.pointer (some ⟨g, 0, none⟩)) (fun w1 _ => by kernel_rfl) ?_
      simp only [Act.put, List.setIfInBounds_toArray, List.set_cons_succ, List.set_cons_zero]
      refine wpFree_one rfl (.int .i64 1) (fun w1 _ => by kernel_rfl) ?_
      simp only [Act.put, List.setIfInBounds_toArray, List.set_cons_succ, List.set_cons_zero]
      refine wpFree_one rfl (.float .f32 q) (fun w1 _ => by kernel_rfl) ?_
      simp only [Act.put, List.setIfInBounds_toArray, List.set_cons_succ, List.set_cons_zero]
      refine wpFree_call rfl rfl Try.func108 (by kernel_rfl) (by kernel_rfl) (args := #[.float .f32 q]) (by simp [Act.eval]) (fun _ _ _ _ h => h) (fun w1 _ => (i_kept q w1 h5.out).mono ?_) ?_
      · rintro e w2 ⟨rfl, rfl⟩
        exact ⟨_, rfl, le_refl _, rfl⟩
      rintro v ⟨_, _, rfl⟩
      simp only [Act.put, List.setIfInBounds_toArray, List.set_cons_succ, List.set_cons_zero]
      refine wpFree_one rfl (.pointer (some ⟨g, 0, none⟩)) (fun w1 _ => by kernel_rfl) ?_
      simp only [Act.put, List.setIfInBounds_toArray, List.set_cons_succ, List.set_cons_zero]
      refine wpFree_one rfl (.pointer (some ⟨g, 1, none⟩)) (fun w1 _ => by kernel_rfl) ?_
      simp only [Act.put, List.setIfInBounds_toArray, List.set_cons_succ, List.set_cons_zero]
      refine wpFree_one rfl (.pointer (some ⟨g, 1 + 1, none⟩)) (fun w1 _ => by kernel_rfl) ?_
      simp only [Act.put, List.setIfInBounds_toArray, List.set_cons_succ, List.set_cons_zero]
      refine wpFree_nil (fun w5 hw5 _ => ?_)
      have RR := (RJ.out.drewN 1).le hw5
      have UU := hid ((UJ.out.le (le_drewN _ 1)).le hw5)
      have cc := RR.cell? (1 + 1)
      have ff := RR.frozen (1 + 1)
      replace RR := hid RR
      clear hw5
      go_wp2
      go_roundw
      case rel => exact ⟨1 + 1, by omega, by go_num, by have := RR.out.set (1 + 1) (.float .f32 (kept q)); rw [h3.out] at this; show Row _ _ _ _; rw [h3.out]; simpa using this, UU.out.setCell rfl _⟩
      case measure => simp [intOf]
    · simp only [if_neg (show ¬ (2 : Nat) = 0 by decide), if_neg (show ¬ (2 : Nat) < 2 by decide)] at RJ
      clear RG U
      go_wp2
      go_ret
      exact ⟨_, rfl, h1.out, h6.out, RJ.out, UJ.out⟩
set_option maxHeartbeats 2000000 in
theorem i_step4 (a b c x y s g : Nat) (w : World) (R : Row w g 88 #[.iface 143 (.agg #[.float .f32 a, .float .f32 b, .float .f32 c]), .float .f32 x, .float .f32 y]) (hx : fits .f32 x) (hs : fits .f32 s) :
    Calls Try.prog 100 #[.pointer (some ⟨g, 0, none⟩), .float .f32 s] w (OutS 4 a b c x y s g 88 (fun u v => #[.iface 143 (.agg #[.float .f32 a, .float .f32 b, .float .f32 c]), .float .f32 u, .float .f32 v]) w) := by
  have Hx := hid hx; have Hs := hid hs; clear hx hs
  have F := Frm.one R
  clear R
  go_enter Try.func100, Try.ntmps100
  go_upto_region 1 with (fail)
  refine region_tail (fun f args _ v => ∃ r p q, v = .tuple #[.float .f32 r, .agg #[.float .f32 p, .float .f32 q]] ∧ can .f32 r = outF 4 a b c x y s ∧ kept p = st0 4 a b c x y s ∧ kept q = st1 4 a b c x y s ∧ fits .f32 p ∧ fits .f32 q ∧ fits .f32 r) 17 (by kernel_rfl) (by kernel_rfl) ?_
  simp only [List.take_succ_cons, List.take_zero, List.drop_succ_cons, List.drop_zero]
  refine wpFree_one rfl (.pointer (some ⟨g, 0, none⟩)) (fun w1 _ => by kernel_rfl) ?_
  simp only [Act.put, List.setIfInBounds_toArray, List.set_cons_succ, List.set_cons_zero]
  refine wpFree_one rfl (.pointer (some ⟨g, 0, none⟩)) (fun w1 _ => by kernel_rfl) ?_
  simp only [Act.put, List.setIfInBounds_toArray, List.set_cons_succ, List.set_cons_zero]
  refine wpFree_one rfl (.pointer (some ⟨g, 0, none⟩)) (fun w1 _ => by kernel_rfl) ?_
  simp only [Act.put, List.setIfInBounds_toArray, List.set_cons_succ, List.set_cons_zero]
  refine wpFree_loadV F rfl rfl rfl rfl List.mem_cons_self rfl (fun w1 => by kernel_rfl) ?_
  simp only [Act.put, List.setIfInBounds_toArray, List.set_cons_succ, List.set_cons_zero]
  refine wpFree_one rfl (.pointer (some ⟨g, 0, none⟩)) (fun w1 _ => by kernel_rfl) ?_
  simp only [Act.put, List.setIfInBounds_toArray, List.set_cons_succ, List.set_cons_zero]
  refine wpFree_one rfl (.pointer (some ⟨g, 0, none⟩)) (fun w1 _ => by kernel_rfl) ?_
  simp only [Act.put, List.setIfInBounds_toArray, List.set_cons_succ, List.set_cons_zero]
  refine wpFree_one rfl (.pointer (some ⟨g, 1, none⟩)) (fun w1 _ => by kernel_rfl) ?_
  simp only [Act.put, List.setIfInBounds_toArray, List.set_cons_succ, List.set_cons_zero]
  refine wpFree_loadPart F rfl rfl rfl rfl (List.mem_cons_self) Try.underlying24 rfl [.float .f32 x, .float .f32 y] (fun j hj => by match j, hj with | 0, _ => rfl | 1, _ => rfl) info2 ?_
  simp only [Act.put, List.setIfInBounds_toArray, List.set_cons_succ, List.set_cons_zero]
  refine wpFree_one rfl (.float .f32 s) (fun w1 _ => by kernel_rfl) ?_
  simp only [Act.put, List.setIfInBounds_toArray, List.set_cons_succ, List.set_cons_zero]
  refine wpFree_one rfl (.iface 143 (.agg #[.float .f32 a, .float .f32 b, .float .f32 c])) (fun w1 _ => by kernel_rfl) ?_
  simp only [Act.put, List.setIfInBounds_toArray, List.set_cons_succ, List.set_cons_zero]
  refine wpFree_one rfl (.iface 143 (.agg #[.float .f32 a, .float .f32 b, .float .f32 c])) (fun w1 _ => by kernel_rfl) ?_
  simp only [Act.put, List.setIfInBounds_toArray, List.set_cons_succ, List.set_cons_zero]
  refine wpFree_callR rfl 134 #[.agg #[.float .f32 a, .float .f32 b, .float .f32 c], .agg #[.float .f32 x, .float .f32 y], .float .f32 s] (fun w1 => by kernel_rfl) (fun _ _ _ _ h => h) (fun w1 _ => (i_next4 a b c x y s w1 Hx.out Hs.out).mono ?_) ?_
  · rintro e w2 ⟨r, p, q, rfl, h1, h2, h3, h4, h5, h6, hl⟩
    exact ⟨_, rfl, hl, r, p, q, rfl, h1, h2, h3, h4, h5, h6⟩
  rintro v ⟨_, _, r, p, q, rfl, h1, h2, h3, h4, h5, h6⟩
  replace h1 := hid h1; replace h2 := hid h2; replace h3 := hid h3; replace h4 := hid h4; replace h5 := hid h5; replace h6 := hid h6
  simp only [Act.put, List.setIfInBounds_toArray, List.set_cons_succ, List.set_cons_zero]
  refine wpFree_one rfl (.tuple #[.float .f32 r, .agg #[.float .f32 p, .float .f32 q]]) (fun w1 _ => by kernel_rfl) ?_
  simp only [Act.put, List.setIfInBounds_toArray, List.set_cons_succ, List.set_cons_zero]
  refine wpFree_one rfl (.float .f32 r) (fun w1 _ => by kernel_rfl) ?_
  simp only [Act.put, List.setIfInBounds_toArray, List.set_cons_succ, List.set_cons_zero]
  refine wpFree_one rfl (.agg #[.float .f32 p, .float .f32 q]) (fun w1 _ => by kernel_rfl) ?_
  simp only [Act.put, List.setIfInBounds_toArray, List.set_cons_succ, List.set_cons_zero]
  refine wpFree_alloc rfl rfl #[.float .f32 0, .float .f32 0] alloc2 (fun g2 hg2 => ?_)
  simp only [Act.put, List.setIfInBounds_toArray, List.set_cons_succ, List.set_cons_zero]
  refine wpFree_one rfl (.float .f32 r) (fun w1 _ => by kernel_rfl) ?_
  simp only [Act.put, List.setIfInBounds_toArray, List.set_cons_succ, List.set_cons_zero]
  refine wpFree_nil (fun w3 hw3 hF => ?_)
  obtain ⟨_, b', hbb, _, hrow⟩ := hF
  obtain rfl : g2 = b' := by simpa using hbb
  have hlt : g < w.heap.size := F.lt List.mem_cons_self
  have hz : w.heap.size ≤ g2 := by simpa using hg2
  have hne : g ≠ g2 := by omega
  refine wpList_storeD rfl rfl rfl (cells := #[.float .f32 p, .float .f32 q]) rfl hrow info2 rfl (by simp [Value.oneCell']) (fun w4 KW => ?_)
  have R2 := KW.row
  have RG := KW.other _ _ _ hne (((F.drewN 1).le hw3).row List.mem_cons_self)
  have U := Upd.of_le (g := g) (KW.below _ _ (le_trans (le_drewN w 1) hw3) hz)
  replace hne := hid hne
  clear hbb hrow hw3 hg2 F KW hlt hz
  replace U := hid U
  replace RG := hid RG
  go_wp2_with (with_reducible refine wpList_loadDn rfl rfl rfl R2 Try.underlying24 rfl info2 (by simp) ?_)
  replace R2 := hid R2
  go_loopw [25] (fun i wr => ∃ j : Nat, j ≤ 2 ∧ i = .int .i64 j ∧ Hid (Row wr g 88 #[.iface 143 (.agg #[.float .f32 a, .float .f32 b, .float .f32 c]), .float .f32 (if j = 0 then x else st0 4 a b c x y s), .float .f32 (if j < 2 then y else st1 4 a b c x y s)]) ∧ Hid (Upd g w wr)) (fun i _ => 2 - (intOf i).toNat)
  case atStart => exact ⟨0, by omega, rfl, RG, U⟩
  case round =>
    obtain ⟨j, hj, rfl, RJ, UJ⟩ := hrel
    rcases (show j = 0 ∨ j = 1 ∨ j = 2 by omega) with rfl | rfl | rfl
    · simp only [if_true, if_pos (show (0 : Nat) < 2 by decide)] at RJ
      clear RG U
      have ix : ∀ w, (Instr.index 24 (.agg #[.float .f32 p, .float .f32 q]) (.int .i64 0)).run Try.prog w = .ok (.float .f32 p) w := fun w => by kernel_rfl
      rw [show ((0 : Nat) : Int) = 0 from rfl]
      go_wp2
      clear ix
      refine region_tail (fun _ _ _ v => v = .float .f32 (kept p)) 7 (by kernel_rfl) (by kernel_rfl) ?_
      simp only [List.take_succ_cons, List.take_zero, List.drop_succ_cons, List.drop_zero]
      refine wpFree_one rfl (.pointer (some ⟨g, 0, none⟩)) (fun w1 _ => by kernel_rfl) ?_
      simp only [Act.put, List.setIfInBounds_toArray, List.set_cons_succ, List.set_cons_zero]
      refine wpFree_one rfl (.int .i64 0) (fun w1 _ => by kernel_rfl) ?_
      simp only [Act.put, List.setIfInBounds_toArray, List.set_cons_succ, List.set_cons_zero]
      refine wpFree_one rfl (.float .f32 p) (fun w1 _ => by kernel_rfl) ?_
      simp only [Act.put, List.setIfInBounds_toArray, List.set_cons_succ, List.set_cons_zero]
      refine wpFree_call rfl rfl Try.func108 (by kernel_rfl) (by kernel_rfl) (args := #[.float .f32 p]) (by simp [Act.eval]) (fun _ _ _ _ h => h) (fun w1 _ => (i_kept p w1 h4.out).mono ?_) ?_
      · rintro e w2 ⟨rfl, rfl⟩
        exact ⟨_, rfl, le_refl _, rfl⟩
      rintro v ⟨_, _, rfl⟩
      simp only [Act.put, List.setIfInBounds_toArray, List.set_cons_succ, List.set_cons_zero]
      refine wpFree_one rfl (.pointer (some ⟨g, 0, none⟩)) (fun w1 _ => by kernel_rfl) ?_
      simp only [Act.put, List.setIfInBounds_toArray, List.set_cons_succ, List.set_cons_zero]
      refine wpFree_one rfl (.pointer (some ⟨g, 1, none⟩)) (fun w1 _ => by kernel_rfl) ?_
      simp only [Act.put, List.setIfInBounds_toArray, List.set_cons_succ, List.set_cons_zero]
      refine wpFree_one rfl (.pointer (some ⟨g, 1 + 0, none⟩)) (fun w1 _ => by kernel_rfl) ?_
      simp only [Act.put, List.setIfInBounds_toArray, List.set_cons_succ, List.set_cons_zero]
      refine wpFree_nil (fun w5 hw5 _ => ?_)
      have RR := (RJ.out.drewN 1).le hw5
      have UU := hid ((UJ.out.le (le_drewN _ 1)).le hw5)
      have cc := RR.cell? (1 + 0)
      have ff := RR.frozen (1 + 0)
      replace RR := hid RR
      clear hw5
      go_wp2
      go_roundw
      case rel => exact ⟨0 + 1, by omega, by go_num, by have := RR.out.set (1 + 0) (.float .f32 (kept p)); rw [h2.out] at this; show Row _ _ _ _; rw [h2.out]; simpa using this, UU.out.setCell rfl _⟩
      case measure => simp [intOf]
    · simp only [if_neg (show ¬ (1 : Nat) = 0 by decide), if_pos (show (1 : Nat) < 2 by decide)] at RJ
      clear RG U
      have ix : ∀ w, (Instr.index 24 (.agg #[.float .f32 p, .float .f32 q]) (.int .i64 1)).run Try.prog w = .ok (.float .f32 q) w := fun w => by kernel_rfl
      rw [show ((1 : Nat) : Int) = 1 from rfl]
      go_wp2
      clear ix
      refine region_tail (fun _ _ _ v => v = .float .f32 (kept q)) 7 (by kernel_rfl) (by kernel_rfl) ?_
      simp only [List.take_succ_cons, List.take_zero, List.drop_succ_cons, List.drop_zero]
      refine wpFree_one rfl (.pointer (some ⟨g, 0, none⟩)) (fun w1 _ => by kernel_rfl) ?_
      simp only [Act.put, List.setIfInBounds_toArray, List.set_cons_succ, List.set_cons_zero]
      refine wpFree_one rfl (.int .i64 1) (fun w1 _ => by kernel_rfl) ?_
      simp only [Act.put, List.setIfInBounds_toArray, List.set_cons_succ, List.set_cons_zero]
      refine wpFree_one rfl (.float .f32 q) (fun w1 _ => by kernel_rfl) ?_
      simp only [Act.put, List.setIfInBounds_toArray, List.set_cons_succ, List.set_cons_zero]
      refine wpFree_call rfl rfl Try.func108 (by kernel_rfl) (by kernel_rfl) (args := #[.float .f32 q]) (by simp [Act.eval]) (fun _ _ _ _ h => h) (fun w1 _ => (i_kept q w1 h5.out).mono ?_) ?_
      · rintro e w2 ⟨rfl, rfl⟩
        exact ⟨_, rfl, le_refl _, rfl⟩
      rintro v ⟨_, _, rfl⟩
      simp only [Act.put, List.setIfInBounds_toArray, List.set_cons_succ, List.set_cons_zero]
      refine wpFree_one rfl (.pointer (some ⟨g, 0, none⟩)) (fun w1 _ => by kernel_rfl) ?_
      simp only [Act.put, List.setIfInBounds_toArray, List.set_cons_succ, List.set_cons_zero]
      refine wpFree_one rfl (.pointer (some ⟨g, 1, none⟩)) (fun w1 _ => by kernel_rfl) ?_
      simp only [Act.put, List.setIfInBounds_toArray, List.set_cons_succ, List.set_cons_zero]
      refine wpFree_one rfl (.pointer (some ⟨g, 1 + 1, none⟩)) (fun w1 _ => by kernel_rfl) ?_
      simp only [Act.put, List.setIfInBounds_toArray, List.set_cons_succ, List.set_cons_zero]
      refine wpFree_nil (fun w5 hw5 _ => ?_)
      have RR := (RJ.out.drewN 1).le hw5
      have UU := hid ((UJ.out.le (le_drewN _ 1)).le hw5)
      have cc := RR.cell? (1 + 1)
      have ff := RR.frozen (1 + 1)
      replace RR := hid RR
      clear hw5
      go_wp2
      go_roundw
      case rel => exact ⟨1 + 1, by omega, by go_num, by have := RR.out.set (1 + 1) (.float .f32 (kept q)); rw [h3.out] at this; show Row _ _ _ _; rw [h3.out]; simpa using this, UU.out.setCell rfl _⟩
      case measure => simp [intOf]
    · simp only [if_neg (show ¬ (2 : Nat) = 0 by decide), if_neg (show ¬ (2 : Nat) < 2 by decide)] at RJ
      clear RG U
      go_wp2
      go_ret
      exact ⟨_, rfl, h1.out, h6.out, RJ.out, UJ.out⟩
set_option maxHeartbeats 2000000 in
theorem i_step5 (a b c x y s g : Nat) (w : World) (R : Row w g 88 #[.iface 144 (.agg #[.float .f32 a, .float .f32 b, .float .f32 c]), .float .f32 x, .float .f32 y]) (hx : fits .f32 x) (hs : fits .f32 s) :
    Calls Try.prog 100 #[.pointer (some ⟨g, 0, none⟩), .float .f32 s] w (OutS 5 a b c x y s g 88 (fun u v => #[.iface 144 (.agg #[.float .f32 a, .float .f32 b, .float .f32 c]), .float .f32 u, .float .f32 v]) w) := by
  have Hx := hid hx; have Hs := hid hs; clear hx hs
  have F := Frm.one R
  clear R
  go_enter Try.func100, Try.ntmps100
  go_upto_region 1 with (fail)
  refine region_tail (fun f args _ v => ∃ r p q, v = .tuple #[.float .f32 r, .agg #[.float .f32 p, .float .f32 q]] ∧ can .f32 r = outF 5 a b c x y s ∧ kept p = st0 5 a b c x y s ∧ kept q = st1 5 a b c x y s ∧ fits .f32 p ∧ fits .f32 q ∧ fits .f32 r) 17 (by kernel_rfl) (by kernel_rfl) ?_
  simp only [List.take_succ_cons, List.take_zero, List.drop_succ_cons, List.drop_zero]
  refine wpFree_one rfl (.pointer (some ⟨g, 0, none⟩)) (fun w1 _ => by kernel_rfl) ?_
  simp only [Act.put, List.setIfInBounds_toArray, List.set_cons_succ, List.set_cons_zero]
  refine wpFree_one rfl (.pointer (some ⟨g, 0, none⟩)) (fun w1 _ => by kernel_rfl) ?_
  simp only [Act.put, List.setIfInBounds_toArray, List.set_cons_succ, List.set_cons_zero]
  refine wpFree_one rfl (.pointer (some ⟨g, 0, none⟩)) (fun w1 _ => by kernel_rfl) ?_
  simp only [Act.put, List.setIfInBounds_toArray, List.set_cons_succ, List.set_cons_zero]
  refine wpFree_loadV F rfl rfl rfl rfl List.mem_cons_self rfl (fun w1 => by kernel_rfl) ?_
  simp only [Act.put, List.setIfInBounds_toArray, List.set_cons_succ, List.set_cons_zero]
  refine wpFree_one rfl (.pointer (some ⟨g, 0, none⟩)) (fun w1 _ => by kernel_rfl) ?_
  simp only [Act.put, List.setIfInBounds_toArray, List.set_cons_succ, List.set_cons_zero]
  refine wpFree_one rfl (.pointer (some ⟨g, 0, none⟩)) (fun w1 _ => by kernel_rfl) ?_
  simp only [Act.put, List.setIfInBounds_toArray, List.set_cons_succ, List.set_cons_zero]
  refine wpFree_one rfl (.pointer (some ⟨g, 1, none⟩)) (fun w1 _ => by kernel_rfl) ?_
  simp only [Act.put, List.setIfInBounds_toArray, List.set_cons_succ, List.set_cons_zero]
  refine wpFree_loadPart F rfl rfl rfl rfl (List.mem_cons_self) Try.underlying24 rfl [.float .f32 x, .float .f32 y] (fun j hj => by match j, hj with | 0, _ => rfl | 1, _ => rfl) info2 ?_
  simp only [Act.put, List.setIfInBounds_toArray, List.set_cons_succ, List.set_cons_zero]
  refine wpFree_one rfl (.float .f32 s) (fun w1 _ => by kernel_rfl) ?_
  simp only [Act.put, List.setIfInBounds_toArray, List.set_cons_succ, List.set_cons_zero]
  refine wpFree_one rfl (.iface 144 (.agg #[.float .f32 a, .float .f32 b, .float .f32 c])) (fun w1 _ => by kernel_rfl) ?_
  simp only [Act.put, List.setIfInBounds_toArray, List.set_cons_succ, List.set_cons_zero]
  refine wpFree_one rfl (.iface 144 (.agg #[.float .f32 a, .float .f32 b, .float .f32 c])) (fun w1 _ => by kernel_rfl) ?_
  simp only [Act.put, List.setIfInBounds_toArray, List.set_cons_succ, List.set_cons_zero]
  refine wpFree_callR rfl 135 #[.agg #[.float .f32 a, .float .f32 b, .float .f32 c], .agg #[.float .f32 x, .float .f32 y], .float .f32 s] (fun w1 => by kernel_rfl) (fun _ _ _ _ h => h) (fun w1 _ => (i_next5 a b c x y s w1 Hx.out Hs.out).mono ?_) ?_
  · rintro e w2 ⟨r, p, q, rfl, h1, h2, h3, h4, h5, h6, hl⟩
    exact ⟨_, rfl, hl, r, p, q, rfl, h1, h2, h3, h4, h5, h6⟩
  rintro v ⟨_, _, r, p, q, rfl, h1, h2, h3, h4, h5, h6⟩
  replace h1 := hid h1; replace h2 := hid h2; replace h3 := hid h3; replace h4 := hid h4; replace h5 := hid h5; replace h6 := hid h6
  simp only [Act.put, List.setIfInBounds_toArray, List.set_cons_succ, List.set_cons_zero]
  refine wpFree_one rfl (.tuple #[.float .f32 r, .agg #[.float .f32 p, .float .f32 q]]) (fun w1 _ => by kernel_rfl) ?_
  simp only [Act.put, List.setIfInBounds_toArray, List.set_cons_succ, List.set_cons_zero]
  refine wpFree_one rfl (.float .f32 r) (fun w1 _ => by kernel_rfl) ?_
  simp only [Act.put, List.setIfInBounds_toArray, List.set_cons_succ, List.set_cons_zero]
  refine wpFree_one rfl (.agg #[.float .f32 p, .float .f32 q]) (fun w1 _ => by kernel_rfl) ?_
  simp only [Act.put, List.setIfInBounds_toArray, List.set_cons_succ, List.set_cons_zero]
  refine wpFree_alloc rfl rfl #[.float .f32 0, .float .f32 0] alloc2 (fun g2 hg2 => ?_)
  simp only [Act.put, List.setIfInBounds_toArray, List.set_cons_succ, List.set_cons_zero]
  refine wpFree_one rfl (.float .f32 r) (fun w1 _ => by kernel_rfl) ?_
  simp only [Act.put, List.setIfInBounds_toArray, List.set_cons_succ, List.set_cons_zero]
  refine wpFree_nil (fun w3 hw3 hF => ?_)
  obtain ⟨_, b', hbb, _, hrow⟩ := hF
  obtain rfl : g2 = b' := by simpa using hbb
  have hlt : g < w.heap.size := F.lt List.mem_cons_self
  have hz : w.heap.size ≤ g2 := by simpa using hg2
  have hne : g ≠ g2 := by omega
  refine wpList_storeD rfl rfl rfl (cells := #[.float .f32 p, .float .f32 q]) rfl hrow info2 rfl (by simp [Value.oneCell']) (fun w4 KW => ?_)
  have R2 := KW.row
  have RG := KW.other _ _ _ hne (((F.drewN 1).le hw3).row List.mem_cons_self)
  have U := Upd.of_le (g := g) (KW.below _ _ (le_trans (le_drewN w 1) hw3) hz)
  replace hne := hid hne
  clear hbb hrow hw3 hg2 F KW hlt hz
  replace U := hid U
  replace RG := hid RG
  go_wp2_with (with_reducible refine wpList_loadDn rfl rfl rfl R2 Try.underlying24 rfl info2 (by simp) ?_)
  replace R2 := hid R2
  go_loopw [25] (fun i wr => ∃ j : Nat, j ≤ 2 ∧ i = .int .i64 j ∧ Hid (Row wr g 88 #[.iface 144 (.agg #[.float .f32 a, .float .f32 b, .float .f32 c]), .float .f32 (if j = 0 then x else st0 5 a b c x y s), .float .f32 (if j < 2 then y else st1 5 a b c x y s)]) ∧ Hid (Upd g w wr)) (fun i _ => 2 - (intOf i).toNat)
  case atStart => exact ⟨0, by omega, rfl, RG, U⟩
  case round =>
    obtain ⟨j, hj, rfl, RJ, UJ⟩ := hrel
    rcases (show j = 0 ∨ j = 1 ∨ j = 2 by omega) with rfl | rfl | rfl
    · simp only [if_true, if_pos (show (0 : Nat) < 2 by decide)] at RJ
      clear RG U
      have ix : ∀ w, (Instr.index 24 (.agg #[.float .f32 p, .float .f32 q]) (.int .i64 0)).run Try.prog w = .ok (.float .f32 p) w := fun w => by kernel_rfl
      rw [show ((0 : Nat) : Int) = 0 from rfl]
      go_wp2
      clear ix
      refine region_tail (fun _ _ _ v => v = .float .f32 (kept p)) 7 (by kernel_rfl) (by kernel_rfl) ?_
      simp only [List.take_succ_cons, List.take_zero, List.drop_succ_cons, List.drop_zero]
      refine wpFree_one rfl (.pointer (some ⟨g, 0, none⟩)) (fun w1 _ => by kernel_rfl) ?_
      simp only [Act.put, List.setIfInBounds_toArray, List.set_cons_succ, List.set_cons_zero]
      refine wpFree_one rfl (.int .i64 0) (fun w1 _ => by kernel_rfl) ?_
      simp only [Act.put, List.setIfInBounds_toArray, List.set_cons_succ, List.set_cons_zero]
      refine wpFree_one rfl (.float .f32 p) (fun w1 _ => by kernel_rfl) ?_
      simp only [Act.put, List.setIfInBounds_toArray, List.set_cons_succ, List.set_cons_zero]
      refine wpFree_call rfl rfl Try.func108 (by kernel_rfl) (by kernel_rfl) (args := #[.float .f32 p]) (by simp [Act.eval]) (fun _ _ _ _ h => h) (fun w1 _ => (i_kept p w1 h4.out).mono ?_) ?_
      · rintro e w2 ⟨rfl, rfl⟩
        exact ⟨_, rfl, le_refl _, rfl⟩
      rintro v ⟨_, _, rfl⟩
      simp only [Act.put, List.setIfInBounds_toArray, List.set_cons_succ, List.set_cons_zero]
      refine wpFree_one rfl (.pointer (some ⟨g, 0, none⟩)) (fun w1 _ => by kernel_rfl) ?_
      simp only [Act.put, List.setIfInBounds_toArray, List.set_cons_succ, List.set_cons_zero]
      refine wpFree_one rfl (.pointer (some ⟨g, 1, none⟩)) (fun w1 _ => by kernel_rfl) ?_
      simp only [Act.put, List.setIfInBounds_toArray, List.set_cons_succ, List.set_cons_zero]
      refine wpFree_one rfl (.pointer (some ⟨g, 1 + 0, none⟩)) (fun w1 _ => by kernel_rfl) ?_
      simp only [Act.put, List.setIfInBounds_toArray, List.set_cons_succ, List.set_cons_zero]
      refine wpFree_nil (fun w5 hw5 _ => ?_)
      have RR := (RJ.out.drewN 1).le hw5
      have UU := hid ((UJ.out.le (le_drewN _ 1)).le hw5)
      have cc := RR.cell? (1 + 0)
      have ff := RR.frozen (1 + 0)
      replace RR := hid RR
      clear hw5
      go_wp2
      go_roundw
      case rel => exact ⟨0 + 1, by omega, by go_num, by have := RR.out.set (1 + 0) (.float .f32 (kept p)); rw [h2.out] at this; show Row _ _ _ _; rw [h2.out]; simpa using this, UU.out.setCell rfl _⟩
      case measure => simp [intOf]
    · simp only [if_neg (show ¬ (1 : Nat) = 0 by decide), if_pos (show (1 : Nat) < 2 by decide)] at RJ
      clear RG U
      have ix : ∀ w, (Instr.index 24 (.agg #[.float .f32 p, .float .f32 q]) (.int .i64 1)).run Try.prog w = .ok (.float .f32 q) w := fun w => by kernel_rfl
      rw [show ((1 : Nat) : Int) = 1 from rfl]
      go_wp2
      clear ix
      refine region_tail (fun _ _ _ v => v = .float .f32 (kept q)) 7 (by kernel_rfl) (by kernel_rfl) ?_
      simp only [List.take_succ_cons, List.take_zero, List.drop_succ_cons, List.drop_zero]
      refine wpFree_one rfl (.pointer (some ⟨g, 0, none⟩)) (fun w1 _ => by kernel_rfl) ?_
      simp only [Act.put, List.setIfInBounds_toArray, List.set_cons_succ, List.set_cons_zero]
      refine wpFree_one rfl (.int .i64 1) (fun w1 _ => by kernel_rfl) ?_
      simp only [Act.put, List.setIfInBounds_toArray, List.set_cons_succ, List.set_cons_zero]
      refine wpFree_one rfl (.float .f32 q) (fun w1 _ => by kernel_rfl) ?_
      simp only [Act.put, List.setIfInBounds_toArray, List.set_cons_succ, List.set_cons_zero]
      refine wpFree_call rfl rfl Try.func108 (by kernel_rfl) (by kernel_rfl) (args := #[.float .f32 q]) (by simp [Act.eval]) (fun _ _ _ _ h => h) (fun w1 _ => (i_kept q w1 h5.out).mono ?_) ?_
      · rintro e w2 ⟨rfl, rfl⟩
        exact ⟨_, rfl, le_refl _, rfl⟩
      rintro v ⟨_, _, rfl⟩
      simp only [Act.put, List.setIfInBounds_toArray, List.set_cons_succ, List.set_cons_zero]
      refine wpFree_one rfl (.pointer (some ⟨g, 0, none⟩)) (fun w1 _ => by kernel_rfl) ?_
      simp only [Act.put, List.setIfInBounds_toArray, List.set_cons_succ, List.set_cons_zero]
      refine wpFree_one rfl (.pointer (some ⟨g, 1, none⟩)) (fun w1 _ => by kernel_rfl) ?_
      simp only [Act.put, List.setIfInBounds_toArray, List.set_cons_succ, List.set_cons_zero]
      refine wpFree_one rfl (.pointer (some ⟨g, 1 + 1, none⟩)) (fun w1 _ => by kernel_rfl) ?_
      simp only [Act.put, List.setIfInBounds_toArray, List.set_cons_succ, List.set_cons_zero]
      refine wpFree_nil (fun w5 hw5 _ => ?_)
      have RR := (RJ.out.drewN 1).le hw5
      have UU := hid ((UJ.out.le (le_drewN _ 1)).le hw5)
      have cc := RR.cell? (1 + 1)
      have ff := RR.frozen (1 + 1)
      replace RR := hid RR
      clear hw5
      go_wp2
      go_roundw
      case rel => exact ⟨1 + 1, by omega, by go_num, by have := RR.out.set (1 + 1) (.float .f32 (kept q)); rw [h3.out] at this; show Row _ _ _ _; rw [h3.out]; simpa using this, UU.out.setCell rfl _⟩
      case measure => simp [intOf]
    · simp only [if_neg (show ¬ (2 : Nat) = 0 by decide), if_neg (show ¬ (2 : Nat) < 2 by decide)] at RJ
      clear RG U
      go_wp2
      go_ret
      exact ⟨_, rfl, h1.out, h6.out, RJ.out, UJ.out⟩
end Go.Proofs.Ytmacednkpjfokaa

/- The model's step of a filter, kind by kind. -/
namespace Go.Proofs.Ytmacednkpjfokaa
open Go.RowKit Go.Fk
set_option maxRecDepth 100000 in
set_option maxHeartbeats 2000000 in
theorem s_Step1 (a b c x y s g : Nat) (w : World) (R : Row w g 28 (#[.int .i64 1, .float .f32 a, .float .f32 b, .float .f32 c, .float .f32 x, .float .f32 y] : Array Value)) (hx : fits .f32 x) (hs : fits .f32 s) (hy : y = 0) :
    Calls Try.prog 58 #[.pointer (some ⟨g, 0, none⟩), .float .f32 s] w (OutS 1 a b c x y s g 28 (fun u v => (#[.int .i64 1, .float .f32 a, .float .f32 b, .float .f32 c, .float .f32 u, .float .f32 v] : Array Value)) w) := by
  subst hy
  have Hx := hid hx; have Hs := hid hs; clear hx hs
  have F := Frm.one R
  have U := hid (Upd.refl g w)
  obtain ⟨c0, c1, c2, c3, c4, c5⟩ := R.six
  clear R
  go_enter Try.func58, Try.ntmps58
  go_wp2
  refine region_free (fun _ _ _ _ => True) (by kernel_rfl) (by kernel_rfl) ?_
  refine wpFree_one rfl (.pointer (some ⟨g, 0, none⟩)) (fun w1 _ => by kernel_rfl) ?_
  simp only [Act.put, List.setIfInBounds_toArray, List.set_cons_succ, List.set_cons_zero]
  refine wpFree_one rfl (.pointer (some ⟨g, 0, none⟩)) (fun w1 _ => by kernel_rfl) ?_
  simp only [Act.put, List.setIfInBounds_toArray, List.set_cons_succ, List.set_cons_zero]
  refine wpFree_one rfl (.pointer (some ⟨g, 1, none⟩)) (fun w1 _ => by kernel_rfl) ?_
  simp only [Act.put, List.setIfInBounds_toArray, List.set_cons_succ, List.set_cons_zero]
  refine wpFree_one rfl (.pointer (some ⟨g, 1, none⟩)) (fun w1 _ => by kernel_rfl) ?_
  simp only [Act.put, List.setIfInBounds_toArray, List.set_cons_succ, List.set_cons_zero]
  refine wpFree_loadF F rfl rfl rfl rfl List.mem_cons_self rfl Try.underlying22 ?_
  simp only [Act.put, List.setIfInBounds_toArray, List.set_cons_succ, List.set_cons_zero]
  refine wpFree_one rfl (.float .f32 s) (fun w1 _ => by kernel_rfl) ?_
  simp only [Act.put, List.setIfInBounds_toArray, List.set_cons_succ, List.set_cons_zero]
  refine wpFree_farith rfl rfl rfl rfl rfl (fun r53 h53 f53 => ?_)
  simp only [Act.put, List.setIfInBounds_toArray, List.set_cons_succ, List.set_cons_zero]
  refine wpFree_one rfl (.pointer (some ⟨g, 0, none⟩)) (fun w1 _ => by kernel_rfl) ?_
  simp only [Act.put, List.setIfInBounds_toArray, List.set_cons_succ, List.set_cons_zero]
  refine wpFree_one rfl (.pointer (some ⟨g, 0, none⟩)) (fun w1 _ => by kernel_rfl) ?_
  simp only [Act.put, List.setIfInBounds_toArray, List.set_cons_succ, List.set_cons_zero]
  refine wpFree_one rfl (.pointer (some ⟨g, 1, none⟩)) (fun w1 _ => by kernel_rfl) ?_
  simp only [Act.put, List.setIfInBounds_toArray, List.set_cons_succ, List.set_cons_zero]
  refine wpFree_one rfl (.pointer (some ⟨g, 1 + 1, none⟩)) (fun w1 _ => by kernel_rfl) ?_
  simp only [Act.put, List.setIfInBounds_toArray, List.set_cons_succ, List.set_cons_zero]
  refine wpFree_loadF F rfl rfl rfl rfl List.mem_cons_self rfl Try.underlying22 ?_
  simp only [Act.put, List.setIfInBounds_toArray, List.set_cons_succ, List.set_cons_zero]
  refine wpFree_one rfl (.float .f32 x) (fun w1 _ => by kernel_rfl) ?_
  simp only [Act.put, List.setIfInBounds_toArray, List.set_cons_succ, List.set_cons_zero]
  refine wpFree_farith rfl rfl rfl rfl rfl (fun r60 h60 f60 => ?_)
  simp only [Act.put, List.setIfInBounds_toArray, List.set_cons_succ, List.set_cons_zero]
  refine wpFree_farith rfl rfl rfl rfl rfl (fun r61 h61 f61 => ?_)
  simp only [Act.put, List.setIfInBounds_toArray, List.set_cons_succ, List.set_cons_zero]
  refine wpFree_one rfl (.float .f32 r61) (fun w1 _ => by kernel_rfl) ?_
  simp only [Act.put, List.setIfInBounds_toArray, List.set_cons_succ, List.set_cons_zero]
  refine wpFree_nil (fun w3 hw3 _ => ?_)
  replace U := hid ((U.out.le (le_drewN _ 1)).le hw3)
  replace F := Frm.one (((F.drewN 1).le hw3).row List.mem_cons_self)
  clear hw3 c0 c1 c2 c3 c4 c5
  have e : can .f32 r61 = outF 1 a b c x 0 s := (by rw [h61.out]; exact fop_congr (h53.out.trans (can_fop _ _ _ _).symm) (h60.out.trans (can_fop _ _ _ _).symm))
  have hf := f61
  replace e := hid e
  go_wp2
  refine region_tail (fun _ _ _ v => v = .float .f32 (kept r61)) 6 (by kernel_rfl) (by kernel_rfl) ?_
  simp only [List.take_succ_cons, List.take_zero, List.drop_succ_cons, List.drop_zero]
  refine wpFree_one rfl (.pointer (some ⟨g, 0, none⟩)) (fun w1 _ => by kernel_rfl) ?_
  simp only [Act.put, List.setIfInBounds_toArray, List.set_cons_succ, List.set_cons_zero]
  refine wpFree_one rfl (.float .f32 r61) (fun w1 _ => by kernel_rfl) ?_
  simp only [Act.put, List.setIfInBounds_toArray, List.set_cons_succ, List.set_cons_zero]
  refine wpFree_call rfl rfl Try.func89 (by kernel_rfl) (by kernel_rfl) (args := #[.float .f32 r61]) (by simp [Act.eval]) (fun _ _ _ _ h => h) (fun w1 _ => (s_Kept r61 w1 hf.out).mono ?_) ?_
  · rintro e w2 ⟨rfl, n, rfl⟩
    exact ⟨_, rfl, le_drewN _ n, rfl⟩
  rintro v ⟨_, _, rfl⟩
  simp only [Act.put, List.setIfInBounds_toArray, List.set_cons_succ, List.set_cons_zero]
  refine wpFree_one rfl (.pointer (some ⟨g, 0, none⟩)) (fun w1 _ => by kernel_rfl) ?_
  simp only [Act.put, List.setIfInBounds_toArray, List.set_cons_succ, List.set_cons_zero]
  refine wpFree_one rfl (.pointer (some ⟨g, 4, none⟩)) (fun w1 _ => by kernel_rfl) ?_
  simp only [Act.put, List.setIfInBounds_toArray, List.set_cons_succ, List.set_cons_zero]
  refine wpFree_one rfl (.pointer (some ⟨g, 4, none⟩)) (fun w1 _ => by kernel_rfl) ?_
  simp only [Act.put, List.setIfInBounds_toArray, List.set_cons_succ, List.set_cons_zero]
  refine wpFree_nil (fun w5 hw5 _ => ?_)
  have RR := ((F.drewN 1).le hw5).row List.mem_cons_self
  replace U := hid (((U.out.le (le_drewN _ 1)).le hw5).setCell (a := ⟨g, 4, none⟩) rfl (.float .f32 (kept r61)))
  have cc := RR.cell? 4
  have ff := RR.frozen 4
  have RN := RR.set 4 (.float .f32 (kept r61))
  replace RN : Row (w5.setCell ⟨g, 4, none⟩ (.float .f32 (kept r61))) g 28 (#[.int .i64 1, .float .f32 a, .float .f32 b, .float .f32 c, .float .f32 (kept r61), .float .f32 0] : Array Value) := by simpa using RN
  replace RR := hid RR
  clear hw5 F
  have F := Frm.one RN
  clear RN
  have RN := hid (F.row List.mem_cons_self)
  clear F
  go_wp2
  go_ret
  refine ⟨_, rfl, e.out, hf.out, ?_, U.out⟩
  have e0 : (kept r61) = st0 1 a b c x 0 s := by exact kept_can (e.out.trans (can_outF _ _ _ _ _ _ _).symm)
  have e1 : 0 = st1 1 a b c x 0 s := by rfl
  rw [← e0, ← e1]
  exact RN.out
set_option maxRecDepth 100000 in
set_option maxHeartbeats 2000000 in
theorem s_Step2 (a b c x y s g : Nat) (w : World) (R : Row w g 28 (#[.int .i64 2, .float .f32 a, .float .f32 b, .float .f32 c, .float .f32 x, .float .f32 y] : Array Value)) (hx : fits .f32 x) (hs : fits .f32 s) (hy : y = 0) :
    Calls Try.prog 58 #[.pointer (some ⟨g, 0, none⟩), .float .f32 s] w (OutS 2 a b c x y s g 28 (fun u v => (#[.int .i64 2, .float .f32 a, .float .f32 b, .float .f32 c, .float .f32 u, .float .f32 v] : Array Value)) w) := by
  subst hy
  have Hx := hid hx; have Hs := hid hs; clear hx hs
  have F := Frm.one R
  have U := hid (Upd.refl g w)
  obtain ⟨c0, c1, c2, c3, c4, c5⟩ := R.six
  clear R
  go_enter Try.func58, Try.ntmps58
  go_wp2
  refine region_free (fun _ _ _ _ => True) (by kernel_rfl) (by kernel_rfl) ?_
  refine wpFree_one rfl (.pointer (some ⟨g, 0, none⟩)) (fun w1 _ => by kernel_rfl) ?_
  simp only [Act.put, List.setIfInBounds_toArray, List.set_cons_succ, List.set_cons_zero]
  refine wpFree_one rfl (.pointer (some ⟨g, 0, none⟩)) (fun w1 _ => by kernel_rfl) ?_
  simp only [Act.put, List.setIfInBounds_toArray, List.set_cons_succ, List.set_cons_zero]
  refine wpFree_one rfl (.pointer (some ⟨g, 1, none⟩)) (fun w1 _ => by kernel_rfl) ?_
  simp only [Act.put, List.setIfInBounds_toArray, List.set_cons_succ, List.set_cons_zero]
  refine wpFree_one rfl (.pointer (some ⟨g, 1, none⟩)) (fun w1 _ => by kernel_rfl) ?_
  simp only [Act.put, List.setIfInBounds_toArray, List.set_cons_succ, List.set_cons_zero]
  refine wpFree_loadF F rfl rfl rfl rfl List.mem_cons_self rfl Try.underlying22 ?_
  simp only [Act.put, List.setIfInBounds_toArray, List.set_cons_succ, List.set_cons_zero]
  refine wpFree_one rfl (.float .f32 s) (fun w1 _ => by kernel_rfl) ?_
  simp only [Act.put, List.setIfInBounds_toArray, List.set_cons_succ, List.set_cons_zero]
  refine wpFree_farith rfl rfl rfl rfl rfl (fun r76 h76 f76 => ?_)
  simp only [Act.put, List.setIfInBounds_toArray, List.set_cons_succ, List.set_cons_zero]
  refine wpFree_one rfl (.pointer (some ⟨g, 0, none⟩)) (fun w1 _ => by kernel_rfl) ?_
  simp only [Act.put, List.setIfInBounds_toArray, List.set_cons_succ, List.set_cons_zero]
  refine wpFree_one rfl (.pointer (some ⟨g, 0, none⟩)) (fun w1 _ => by kernel_rfl) ?_
  simp only [Act.put, List.setIfInBounds_toArray, List.set_cons_succ, List.set_cons_zero]
  refine wpFree_one rfl (.pointer (some ⟨g, 1, none⟩)) (fun w1 _ => by kernel_rfl) ?_
  simp only [Act.put, List.setIfInBounds_toArray, List.set_cons_succ, List.set_cons_zero]
  refine wpFree_one rfl (.pointer (some ⟨g, 1 + 1, none⟩)) (fun w1 _ => by kernel_rfl) ?_
  simp only [Act.put, List.setIfInBounds_toArray, List.set_cons_succ, List.set_cons_zero]
  refine wpFree_loadF F rfl rfl rfl rfl List.mem_cons_self rfl Try.underlying22 ?_
  simp only [Act.put, List.setIfInBounds_toArray, List.set_cons_succ, List.set_cons_zero]
  refine wpFree_one rfl (.float .f32 x) (fun w1 _ => by kernel_rfl) ?_
  simp only [Act.put, List.setIfInBounds_toArray, List.set_cons_succ, List.set_cons_zero]
  refine wpFree_farith rfl rfl rfl rfl rfl (fun r83 h83 f83 => ?_)
  simp only [Act.put, List.setIfInBounds_toArray, List.set_cons_succ, List.set_cons_zero]
  refine wpFree_farith rfl rfl rfl rfl rfl (fun r84 h84 f84 => ?_)
  simp only [Act.put, List.setIfInBounds_toArray, List.set_cons_succ, List.set_cons_zero]
  refine wpFree_one rfl (.float .f32 r84) (fun w1 _ => by kernel_rfl) ?_
  simp only [Act.put, List.setIfInBounds_toArray, List.set_cons_succ, List.set_cons_zero]
  refine wpFree_nil (fun w3 hw3 _ => ?_)
  replace U := hid ((U.out.le (le_drewN _ 1)).le hw3)
  replace F := Frm.one (((F.drewN 1).le hw3).row List.mem_cons_self)
  clear hw3 c0 c1 c2 c3 c4 c5
  have e : can .f32 r84 = outF 2 a b c x 0 s := (by rw [h84.out]; exact fop_congr (h76.out.trans (can_fop _ _ _ _).symm) (h83.out.trans (can_fop _ _ _ _).symm))
  have hf := f84
  replace e := hid e
  go_wp2
  refine region_tail (fun _ _ _ v => v = .float .f32 (kept s)) 6 (by kernel_rfl) (by kernel_rfl) ?_
  simp only [List.take_succ_cons, List.take_zero, List.drop_succ_cons, List.drop_zero]
  refine wpFree_one rfl (.pointer (some ⟨g, 0, none⟩)) (fun w1 _ => by kernel_rfl) ?_
  simp only [Act.put, List.setIfInBounds_toArray, List.set_cons_succ, List.set_cons_zero]
  refine wpFree_one rfl (.float .f32 s) (fun w1 _ => by kernel_rfl) ?_
  simp only [Act.put, List.setIfInBounds_toArray, List.set_cons_succ, List.set_cons_zero]
  refine wpFree_call rfl rfl Try.func89 (by kernel_rfl) (by kernel_rfl) (args := #[.float .f32 s]) (by simp [Act.eval]) (fun _ _ _ _ h => h) (fun w1 _ => (s_Kept s w1 Hs.out).mono ?_) ?_
  · rintro e w2 ⟨rfl, n, rfl⟩
    exact ⟨_, rfl, le_drewN _ n, rfl⟩
  rintro v ⟨_, _, rfl⟩
  simp only [Act.put, List.setIfInBounds_toArray, List.set_cons_succ, List.set_cons_zero]
  refine wpFree_one rfl (.pointer (some ⟨g, 0, none⟩)) (fun w1 _ => by kernel_rfl) ?_
  simp only [Act.put, List.setIfInBounds_toArray, List.set_cons_succ, List.set_cons_zero]
  refine wpFree_one rfl (.pointer (some ⟨g, 4, none⟩)) (fun w1 _ => by kernel_rfl) ?_
  simp only [Act.put, List.setIfInBounds_toArray, List.set_cons_succ, List.set_cons_zero]
  refine wpFree_one rfl (.pointer (some ⟨g, 4, none⟩)) (fun w1 _ => by kernel_rfl) ?_
  simp only [Act.put, List.setIfInBounds_toArray, List.set_cons_succ, List.set_cons_zero]
  refine wpFree_nil (fun w5 hw5 _ => ?_)
  have RR := ((F.drewN 1).le hw5).row List.mem_cons_self
  replace U := hid (((U.out.le (le_drewN _ 1)).le hw5).setCell (a := ⟨g, 4, none⟩) rfl (.float .f32 (kept s)))
  have cc := RR.cell? 4
  have ff := RR.frozen 4
  have RN := RR.set 4 (.float .f32 (kept s))
  replace RN : Row (w5.setCell ⟨g, 4, none⟩ (.float .f32 (kept s))) g 28 (#[.int .i64 2, .float .f32 a, .float .f32 b, .float .f32 c, .float .f32 (kept s), .float .f32 0] : Array Value) := by simpa using RN
  replace RR := hid RR
  clear hw5 F
  have F := Frm.one RN
  clear RN
  have RN := hid (F.row List.mem_cons_self)
  clear F
  go_wp2
  go_ret
  refine ⟨_, rfl, e.out, hf.out, ?_, U.out⟩
  have e0 : (kept s) = st0 2 a b c x 0 s := by rfl
  have e1 : 0 = st1 2 a b c x 0 s := by rfl
  rw [← e0, ← e1]
  exact RN.out
set_option maxRecDepth 100000 in
set_option maxHeartbeats 2000000 in
theorem s_Step3 (a b c x y s g : Nat) (w : World) (R : Row w g 28 (#[.int .i64 3, .float .f32 a, .float .f32 b, .float .f32 c, .float .f32 x, .float .f32 y] : Array Value)) (hx : fits .f32 x) (hs : fits .f32 s) :
    Calls Try.prog 58 #[.pointer (some ⟨g, 0, none⟩), .float .f32 s] w (OutS 3 a b c x y s g 28 (fun u v => (#[.int .i64 3, .float .f32 a, .float .f32 b, .float .f32 c, .float .f32 u, .float .f32 v] : Array Value)) w) := by
  have Hx := hid hx; have Hs := hid hs; clear hx hs
  have F := Frm.one R
  have U := hid (Upd.refl g w)
  obtain ⟨c0, c1, c2, c3, c4, c5⟩ := R.six
  clear R
  go_enter Try.func58, Try.ntmps58
  go_wp2_with (with_reducible refine wpList_farith rfl rfl rfl rfl rfl ?_; intro r n hr hf)
  rename_i r1 n1 h1 f1 r2 n2 h2 f2 KK aa
  clear c0 c1 c2 c3 c4 c5
  have e : can .f32 r = outF 3 a b c x y s := (by rw [hr.out]; exact fop_congr (h2.out.trans ((fop_congr rfl (h1.out.trans (can_fop _ _ _ _).symm)).trans (can_fop _ _ _ _).symm)) rfl)
  replace U := hid (U.out.le (le_drewN _ (n1 + n2 + n)))
  replace F := Frm.one ((F.drewN (n1 + n2 + n)).row List.mem_cons_self)
  replace e := hid e
  refine region_tail (fun _ _ _ v => v = .float .f32 (kept s)) 6 (by kernel_rfl) (by kernel_rfl) ?_
  simp only [List.take_succ_cons, List.take_zero, List.drop_succ_cons, List.drop_zero]
  refine wpFree_one rfl (.pointer (some ⟨g, 0, none⟩)) (fun w1 _ => by kernel_rfl) ?_
  simp only [Act.put, List.setIfInBounds_toArray, List.set_cons_succ, List.set_cons_zero]
  refine wpFree_one rfl (.float .f32 s) (fun w1 _ => by kernel_rfl) ?_
  simp only [Act.put, List.setIfInBounds_toArray, List.set_cons_succ, List.set_cons_zero]
  refine wpFree_call rfl rfl Try.func89 (by kernel_rfl) (by kernel_rfl) (args := #[.float .f32 s]) (by simp [Act.eval]) (fun _ _ _ _ h => h) (fun w1 _ => (s_Kept s w1 Hs.out).mono ?_) ?_
  · rintro e w2 ⟨rfl, n, rfl⟩
    exact ⟨_, rfl, le_drewN _ n, rfl⟩
  rintro v ⟨_, _, rfl⟩
  simp only [Act.put, List.setIfInBounds_toArray, List.set_cons_succ, List.set_cons_zero]
  refine wpFree_one rfl (.pointer (some ⟨g, 0, none⟩)) (fun w1 _ => by kernel_rfl) ?_
  simp only [Act.put, List.setIfInBounds_toArray, List.set_cons_succ, List.set_cons_zero]
  refine wpFree_one rfl (.pointer (some ⟨g, 4, none⟩)) (fun w1 _ => by kernel_rfl) ?_
  simp only [Act.put, List.setIfInBounds_toArray, List.set_cons_succ, List.set_cons_zero]
  refine wpFree_one rfl (.pointer (some ⟨g, 4, none⟩)) (fun w1 _ => by kernel_rfl) ?_
  simp only [Act.put, List.setIfInBounds_toArray, List.set_cons_succ, List.set_cons_zero]
  refine wpFree_nil (fun w5 hw5 _ => ?_)
  have RR := ((F.drewN 1).le hw5).row List.mem_cons_self
  replace U := hid (((U.out.le (le_drewN _ 1)).le hw5).setCell (a := ⟨g, 4, none⟩) rfl (.float .f32 (kept s)))
  have cc := RR.cell? 4
  have ff := RR.frozen 4
  have RN := RR.set 4 (.float .f32 (kept s))
  replace RN : Row (w5.setCell ⟨g, 4, none⟩ (.float .f32 (kept s))) g 28 (#[.int .i64 3, .float .f32 a, .float .f32 b, .float .f32 c, .float .f32 (kept s), .float .f32 y] : Array Value) := by simpa using RN
  replace RR := hid RR
  clear hw5 F
  have F := Frm.one RN
  clear RN
  go_wp2
  refine region_tail (fun _ _ _ v => v = .float .f32 (kept r)) 6 (by kernel_rfl) (by kernel_rfl) ?_
  simp only [List.take_succ_cons, List.take_zero, List.drop_succ_cons, List.drop_zero]
  refine wpFree_one rfl (.pointer (some ⟨g, 0, none⟩)) (fun w1 _ => by kernel_rfl) ?_
  simp only [Act.put, List.setIfInBounds_toArray, List.set_cons_succ, List.set_cons_zero]
  refine wpFree_one rfl (.float .f32 r) (fun w1 _ => by kernel_rfl) ?_
  simp only [Act.put, List.setIfInBounds_toArray, List.set_cons_succ, List.set_cons_zero]
  refine wpFree_call rfl rfl Try.func89 (by kernel_rfl) (by kernel_rfl) (args := #[.float .f32 r]) (by simp [Act.eval]) (fun _ _ _ _ h => h) (fun w1 _ => (s_Kept r w1 hf.out).mono ?_) ?_
  · rintro e w2 ⟨rfl, n, rfl⟩
    exact ⟨_, rfl, le_drewN _ n, rfl⟩
  rintro v ⟨_, _, rfl⟩
  simp only [Act.put, List.setIfInBounds_toArray, List.set_cons_succ, List.set_cons_zero]
  refine wpFree_one rfl (.pointer (some ⟨g, 0, none⟩)) (fun w1 _ => by kernel_rfl) ?_
  simp only [Act.put, List.setIfInBounds_toArray, List.set_cons_succ, List.set_cons_zero]
  refine wpFree_one rfl (.pointer (some ⟨g, 4, none⟩)) (fun w1 _ => by kernel_rfl) ?_
  simp only [Act.put, List.setIfInBounds_toArray, List.set_cons_succ, List.set_cons_zero]
  refine wpFree_one rfl (.pointer (some ⟨g, 4 + 1, none⟩)) (fun w1 _ => by kernel_rfl) ?_
  simp only [Act.put, List.setIfInBounds_toArray, List.set_cons_succ, List.set_cons_zero]
  refine wpFree_nil (fun w5 hw5 _ => ?_)
  have RR := ((F.drewN 1).le hw5).row List.mem_cons_self
  replace U := hid (((U.out.le (le_drewN _ 1)).le hw5).setCell (a := ⟨g, 5, none⟩) rfl (.float .f32 (kept r)))
  have cc := RR.cell? 5
  have ff := RR.frozen 5
  have RN := RR.set 5 (.float .f32 (kept r))
  replace RN : Row (w5.setCell ⟨g, 5, none⟩ (.float .f32 (kept r))) g 28 (#[.int .i64 3, .float .f32 a, .float .f32 b, .float .f32 c, .float .f32 (kept s), .float .f32 (kept r)] : Array Value) := by simpa using RN
  replace RR := hid RR
  clear hw5 F
  have F := Frm.one RN
  clear RN
  have RN := hid (F.row List.mem_cons_self)
  clear F
  go_wp2
  go_ret
  refine ⟨_, rfl, e.out, hf.out, ?_, U.out⟩
  have e0 : (kept s) = st0 3 a b c x y s := by rfl
  have e1 : (kept r) = st1 3 a b c x y s := by exact kept_can (e.out.trans (can_outF _ _ _ _ _ _ _).symm)
  rw [← e0, ← e1]
  exact RN.out
set_option maxRecDepth 100000 in
set_option maxHeartbeats 2000000 in
theorem s_Step4 (a b c x y s g : Nat) (w : World) (R : Row w g 28 (#[.int .i64 4, .float .f32 a, .float .f32 b, .float .f32 c, .float .f32 x, .float .f32 y] : Array Value)) (hx : fits .f32 x) (hs : fits .f32 s) :
    Calls Try.prog 58 #[.pointer (some ⟨g, 0, none⟩), .float .f32 s] w (OutS 4 a b c x y s g 28 (fun u v => (#[.int .i64 4, .float .f32 a, .float .f32 b, .float .f32 c, .float .f32 u, .float .f32 v] : Array Value)) w) := by
  have Hx := hid hx; have Hs := hid hs; clear hx hs
  have F := Frm.one R
  have U := hid (Upd.refl g w)
  obtain ⟨c0, c1, c2, c3, c4, c5⟩ := R.six
  clear R
  go_enter Try.func58, Try.ntmps58
  go_wp2
  refine region_free (fun _ _ _ _ => True) (by kernel_rfl) (by kernel_rfl) ?_
  refine wpFree_one rfl (.pointer (some ⟨g, 0, none⟩)) (fun w1 _ => by kernel_rfl) ?_
  simp only [Act.put, List.setIfInBounds_toArray, List.set_cons_succ, List.set_cons_zero]
  refine wpFree_one rfl (.pointer (some ⟨g, 0, none⟩)) (fun w1 _ => by kernel_rfl) ?_
  simp only [Act.put, List.setIfInBounds_toArray, List.set_cons_succ, List.set_cons_zero]
  refine wpFree_one rfl (.pointer (some ⟨g, 1, none⟩)) (fun w1 _ => by kernel_rfl) ?_
  simp only [Act.put, List.setIfInBounds_toArray, List.set_cons_succ, List.set_cons_zero]
  refine wpFree_one rfl (.pointer (some ⟨g, 1, none⟩)) (fun w1 _ => by kernel_rfl) ?_
  simp only [Act.put, List.setIfInBounds_toArray, List.set_cons_succ, List.set_cons_zero]
  refine wpFree_loadF F rfl rfl rfl rfl List.mem_cons_self rfl Try.underlying22 ?_
  simp only [Act.put, List.setIfInBounds_toArray, List.set_cons_succ, List.set_cons_zero]
  refine wpFree_one rfl (.float .f32 s) (fun w1 _ => by kernel_rfl) ?_
  simp only [Act.put, List.setIfInBounds_toArray, List.set_cons_succ, List.set_cons_zero]
  refine wpFree_farith rfl rfl rfl rfl rfl (fun r124 h124 f124 => ?_)
  simp only [Act.put, List.setIfInBounds_toArray, List.set_cons_succ, List.set_cons_zero]
  refine wpFree_one rfl (.pointer (some ⟨g, 0, none⟩)) (fun w1 _ => by kernel_rfl) ?_
  simp only [Act.put, List.setIfInBounds_toArray, List.set_cons_succ, List.set_cons_zero]
  refine wpFree_one rfl (.pointer (some ⟨g, 0, none⟩)) (fun w1 _ => by kernel_rfl) ?_
  simp only [Act.put, List.setIfInBounds_toArray, List.set_cons_succ, List.set_cons_zero]
  refine wpFree_one rfl (.pointer (some ⟨g, 1, none⟩)) (fun w1 _ => by kernel_rfl) ?_
  simp only [Act.put, List.setIfInBounds_toArray, List.set_cons_succ, List.set_cons_zero]
  refine wpFree_one rfl (.pointer (some ⟨g, 1 + 1, none⟩)) (fun w1 _ => by kernel_rfl) ?_
  simp only [Act.put, List.setIfInBounds_toArray, List.set_cons_succ, List.set_cons_zero]
  refine wpFree_loadF F rfl rfl rfl rfl List.mem_cons_self rfl Try.underlying22 ?_
  simp only [Act.put, List.setIfInBounds_toArray, List.set_cons_succ, List.set_cons_zero]
  refine wpFree_one rfl (.float .f32 x) (fun w1 _ => by kernel_rfl) ?_
  simp only [Act.put, List.setIfInBounds_toArray, List.set_cons_succ, List.set_cons_zero]
  refine wpFree_farith rfl rfl rfl rfl rfl (fun r131 h131 f131 => ?_)
  simp only [Act.put, List.setIfInBounds_toArray, List.set_cons_succ, List.set_cons_zero]
  refine wpFree_farith rfl rfl rfl rfl rfl (fun r132 h132 f132 => ?_)
  simp only [Act.put, List.setIfInBounds_toArray, List.set_cons_succ, List.set_cons_zero]
  refine wpFree_one rfl (.pointer (some ⟨g, 0, none⟩)) (fun w1 _ => by kernel_rfl) ?_
  simp only [Act.put, List.setIfInBounds_toArray, List.set_cons_succ, List.set_cons_zero]
  refine wpFree_one rfl (.pointer (some ⟨g, 0, none⟩)) (fun w1 _ => by kernel_rfl) ?_
  simp only [Act.put, List.setIfInBounds_toArray, List.set_cons_succ, List.set_cons_zero]
  refine wpFree_one rfl (.pointer (some ⟨g, 1, none⟩)) (fun w1 _ => by kernel_rfl) ?_
  simp only [Act.put, List.setIfInBounds_toArray, List.set_cons_succ, List.set_cons_zero]
  refine wpFree_one rfl (.pointer (some ⟨g, 1 + 2, none⟩)) (fun w1 _ => by kernel_rfl) ?_
  simp only [Act.put, List.setIfInBounds_toArray, List.set_cons_succ, List.set_cons_zero]
  refine wpFree_loadF F rfl rfl rfl rfl List.mem_cons_self rfl Try.underlying22 ?_
  simp only [Act.put, List.setIfInBounds_toArray, List.set_cons_succ, List.set_cons_zero]
  refine wpFree_one rfl (.float .f32 y) (fun w1 _ => by kernel_rfl) ?_
  simp only [Act.put, List.setIfInBounds_toArray, List.set_cons_succ, List.set_cons_zero]
  refine wpFree_farith rfl rfl rfl rfl rfl (fun r139 h139 f139 => ?_)
  simp only [Act.put, List.setIfInBounds_toArray, List.set_cons_succ, List.set_cons_zero]
  refine wpFree_farith rfl rfl rfl rfl rfl (fun r140 h140 f140 => ?_)
  simp only [Act.put, List.setIfInBounds_toArray, List.set_cons_succ, List.set_cons_zero]
  refine wpFree_one rfl (.float .f32 r140) (fun w1 _ => by kernel_rfl) ?_
  simp only [Act.put, List.setIfInBounds_toArray, List.set_cons_succ, List.set_cons_zero]
  refine wpFree_nil (fun w3 hw3 _ => ?_)
  replace U := hid ((U.out.le (le_drewN _ 1)).le hw3)
  replace F := Frm.one (((F.drewN 1).le hw3).row List.mem_cons_self)
  clear hw3 c0 c1 c2 c3 c4 c5
  have e : can .f32 r140 = outF 4 a b c x y s := (by rw [h140.out]; exact fop_congr (h132.out.trans ((fop_congr (h124.out.trans (can_fop _ _ _ _).symm) (h131.out.trans (can_fop _ _ _ _).symm)).trans (can_fop _ _ _ _).symm)) (h139.out.trans (can_fop _ _ _ _).symm))
  have hf := f140
  replace e := hid e
  go_wp2
  refine region_tail (fun _ _ _ v => v = .float .f32 (kept x)) 6 (by kernel_rfl) (by kernel_rfl) ?_
  simp only [List.take_succ_cons, List.take_zero, List.drop_succ_cons, List.drop_zero]
  refine wpFree_one rfl (.pointer (some ⟨g, 0, none⟩)) (fun w1 _ => by kernel_rfl) ?_
  simp only [Act.put, List.setIfInBounds_toArray, List.set_cons_succ, List.set_cons_zero]
  refine wpFree_one rfl (.float .f32 x) (fun w1 _ => by kernel_rfl) ?_
  simp only [Act.put, List.setIfInBounds_toArray, List.set_cons_succ, List.set_cons_zero]
  refine wpFree_call rfl rfl Try.func89 (by kernel_rfl) (by kernel_rfl) (args := #[.float .f32 x]) (by simp [Act.eval]) (fun _ _ _ _ h => h) (fun w1 _ => (s_Kept x w1 Hx.out).mono ?_) ?_
  · rintro e w2 ⟨rfl, n, rfl⟩
    exact ⟨_, rfl, le_drewN _ n, rfl⟩
  rintro v ⟨_, _, rfl⟩
  simp only [Act.put, List.setIfInBounds_toArray, List.set_cons_succ, List.set_cons_zero]
  refine wpFree_one rfl (.pointer (some ⟨g, 0, none⟩)) (fun w1 _ => by kernel_rfl) ?_
  simp only [Act.put, List.setIfInBounds_toArray, List.set_cons_succ, List.set_cons_zero]
  refine wpFree_one rfl (.pointer (some ⟨g, 4, none⟩)) (fun w1 _ => by kernel_rfl) ?_
  simp only [Act.put, List.setIfInBounds_toArray, List.set_cons_succ, List.set_cons_zero]
  refine wpFree_one rfl (.pointer (some ⟨g, 4 + 1, none⟩)) (fun w1 _ => by kernel_rfl) ?_
  simp only [Act.put, List.setIfInBounds_toArray, List.set_cons_succ, List.set_cons_zero]
  refine wpFree_nil (fun w5 hw5 _ => ?_)
  have RR := ((F.drewN 1).le hw5).row List.mem_cons_self
  replace U := hid (((U.out.le (le_drewN _ 1)).le hw5).setCell (a := ⟨g, 5, none⟩) rfl (.float .f32 (kept x)))
  have cc := RR.cell? 5
  have ff := RR.frozen 5
  have RN := RR.set 5 (.float .f32 (kept x))
  replace RN : Row (w5.setCell ⟨g, 5, none⟩ (.float .f32 (kept x))) g 28 (#[.int .i64 4, .float .f32 a, .float .f32 b, .float .f32 c, .float .f32 x, .float .f32 (kept x)] : Array Value) := by simpa using RN
  replace RR := hid RR
  clear hw5 F
  have F := Frm.one RN
  clear RN
  go_wp2
  refine region_tail (fun _ _ _ v => v = .float .f32 (kept r140)) 6 (by kernel_rfl) (by kernel_rfl) ?_
  simp only [List.take_succ_cons, List.take_zero, List.drop_succ_cons, List.drop_zero]
  refine wpFree_one rfl (.pointer (some ⟨g, 0, none⟩)) (fun w1 _ => by kernel_rfl) ?_
  simp only [Act.put, List.setIfInBounds_toArray, List.set_cons_succ, List.set_cons_zero]
  refine wpFree_one rfl (.float .f32 r140) (fun w1 _ => by kernel_rfl) ?_
  simp only [Act.put, List.setIfInBounds_toArray, List.set_cons_succ, List.set_cons_zero]
  refine wpFree_call rfl rfl Try.func89 (by kernel_rfl) (by kernel_rfl) (args := #[.float .f32 r140]) (by simp [Act.eval]) (fun _ _ _ _ h => h) (fun w1 _ => (s_Kept r140 w1 hf.out).mono ?_) ?_
  · rintro e w2 ⟨rfl, n, rfl⟩
    exact ⟨_, rfl, le_drewN _ n, rfl⟩
  rintro v ⟨_, _, rfl⟩
  simp only [Act.put, List.setIfInBounds_toArray, List.set_cons_succ, List.set_cons_zero]
  refine wpFree_one rfl (.pointer (some ⟨g, 0, none⟩)) (fun w1 _ => by kernel_rfl) ?_
  simp only [Act.put, List.setIfInBounds_toArray, List.set_cons_succ, List.set_cons_zero]
  refine wpFree_one rfl (.pointer (some ⟨g, 4, none⟩)) (fun w1 _ => by kernel_rfl) ?_
  simp only [Act.put, List.setIfInBounds_toArray, List.set_cons_succ, List.set_cons_zero]
  refine wpFree_one rfl (.pointer (some ⟨g, 4, none⟩)) (fun w1 _ => by kernel_rfl) ?_
  simp only [Act.put, List.setIfInBounds_toArray, List.set_cons_succ, List.set_cons_zero]
  refine wpFree_nil (fun w5 hw5 _ => ?_)
  have RR := ((F.drewN 1).le hw5).row List.mem_cons_self
  replace U := hid (((U.out.le (le_drewN _ 1)).le hw5).setCell (a := ⟨g, 4, none⟩) rfl (.float .f32 (kept r140)))
  have cc := RR.cell? 4
  have ff := RR.frozen 4
  have RN := RR.set 4 (.float .f32 (kept r140))
  replace RN : Row (w5.setCell ⟨g, 4, none⟩ (.float .f32 (kept r140))) g 28 (#[.int .i64 4, .float .f32 a, .float .f32 b, .float .f32 c, .float .f32 (kept r140), .float .f32 (kept x)] : Array Value) := by simpa using RN
  replace RR := hid RR
  clear hw5 F
  have F := Frm.one RN
  clear RN
  have RN := hid (F.row List.mem_cons_self)
  clear F
  go_wp2
  go_ret
  refine ⟨_, rfl, e.out, hf.out, ?_, U.out⟩
  have e0 : (kept r140) = st0 4 a b c x y s := by exact kept_can (e.out.trans (can_outF _ _ _ _ _ _ _).symm)
  have e1 : (kept x) = st1 4 a b c x y s := by rfl
  rw [← e0, ← e1]
  exact RN.out
set_option maxRecDepth 100000 in
set_option maxHeartbeats 2000000 in
theorem s_Step5 (a b c x y s g : Nat) (w : World) (R : Row w g 28 (#[.int .i64 5, .float .f32 a, .float .f32 b, .float .f32 c, .float .f32 x, .float .f32 y] : Array Value)) (hx : fits .f32 x) (hs : fits .f32 s) :
    Calls Try.prog 58 #[.pointer (some ⟨g, 0, none⟩), .float .f32 s] w (OutS 5 a b c x y s g 28 (fun u v => (#[.int .i64 5, .float .f32 a, .float .f32 b, .float .f32 c, .float .f32 u, .float .f32 v] : Array Value)) w) := by
  have Hx := hid hx; have Hs := hid hs; clear hx hs
  have F := Frm.one R
  have U := hid (Upd.refl g w)
  obtain ⟨c0, c1, c2, c3, c4, c5⟩ := R.six
  clear R
  go_enter Try.func58, Try.ntmps58
  go_wp2_with (with_reducible refine wpList_farith rfl rfl rfl rfl rfl ?_; intro r n hr hf)
  rename_i r1 n1 h1 f1 r2 n2 h2 f2 KK aa
  clear c0 c1 c2 c3 c4 c5
  have e : can .f32 r = outF 5 a b c x y s := (by rw [hr.out]; exact fop_congr (h1.out.trans (can_fop _ _ _ _).symm) (h2.out.trans (can_fop _ _ _ _).symm))
  replace U := hid (U.out.le (le_drewN _ (n1 + n2 + n)))
  replace F := Frm.one ((F.drewN (n1 + n2 + n)).row List.mem_cons_self)
  replace e := hid e
  refine region_tail (fun _ _ _ v => v = .float .f32 (kept s)) 6 (by kernel_rfl) (by kernel_rfl) ?_
  simp only [List.take_succ_cons, List.take_zero, List.drop_succ_cons, List.drop_zero]
  refine wpFree_one rfl (.pointer (some ⟨g, 0, none⟩)) (fun w1 _ => by kernel_rfl) ?_
  simp only [Act.put, List.setIfInBounds_toArray, List.set_cons_succ, List.set_cons_zero]
  refine wpFree_one rfl (.float .f32 s) (fun w1 _ => by kernel_rfl) ?_
  simp only [Act.put, List.setIfInBounds_toArray, List.set_cons_succ, List.set_cons_zero]
  refine wpFree_call rfl rfl Try.func89 (by kernel_rfl) (by kernel_rfl) (args := #[.float .f32 s]) (by simp [Act.eval]) (fun _ _ _ _ h => h) (fun w1 _ => (s_Kept s w1 Hs.out).mono ?_) ?_
  · rintro e w2 ⟨rfl, n, rfl⟩
    exact ⟨_, rfl, le_drewN _ n, rfl⟩
  rintro v ⟨_, _, rfl⟩
  simp only [Act.put, List.setIfInBounds_toArray, List.set_cons_succ, List.set_cons_zero]
  refine wpFree_one rfl (.pointer (some ⟨g, 0, none⟩)) (fun w1 _ => by kernel_rfl) ?_
  simp only [Act.put, List.setIfInBounds_toArray, List.set_cons_succ, List.set_cons_zero]
  refine wpFree_one rfl (.pointer (some ⟨g, 4, none⟩)) (fun w1 _ => by kernel_rfl) ?_
  simp only [Act.put, List.setIfInBounds_toArray, List.set_cons_succ, List.set_cons_zero]
  refine wpFree_one rfl (.pointer (some ⟨g, 4, none⟩)) (fun w1 _ => by kernel_rfl) ?_
  simp only [Act.put, List.setIfInBounds_toArray, List.set_cons_succ, List.set_cons_zero]
  refine wpFree_nil (fun w5 hw5 _ => ?_)
  have RR := ((F.drewN 1).le hw5).row List.mem_cons_self
  replace U := hid (((U.out.le (le_drewN _ 1)).le hw5).setCell (a := ⟨g, 4, none⟩) rfl (.float .f32 (kept s)))
  have cc := RR.cell? 4
  have ff := RR.frozen 4
  have RN := RR.set 4 (.float .f32 (kept s))
  replace RN : Row (w5.setCell ⟨g, 4, none⟩ (.float .f32 (kept s))) g 28 (#[.int .i64 5, .float .f32 a, .float .f32 b, .float .f32 c, .float .f32 (kept s), .float .f32 y] : Array Value) := by simpa using RN
  replace RR := hid RR
  clear hw5 F
  have F := Frm.one RN
  clear RN
  go_wp2
  refine region_tail (fun _ _ _ v => v = .float .f32 (kept r)) 6 (by kernel_rfl) (by kernel_rfl) ?_
  simp only [List.take_succ_cons, List.take_zero, List.drop_succ_cons, List.drop_zero]
  refine wpFree_one rfl (.pointer (some ⟨g, 0, none⟩)) (fun w1 _ => by kernel_rfl) ?_
  simp only [Act.put, List.setIfInBounds_toArray, List.set_cons_succ, List.set_cons_zero]
  refine wpFree_one rfl (.float .f32 r) (fun w1 _ => by kernel_rfl) ?_
  simp only [Act.put, List.setIfInBounds_toArray, List.set_cons_succ, List.set_cons_zero]
  refine wpFree_call rfl rfl Try.func89 (by kernel_rfl) (by kernel_rfl) (args := #[.float .f32 r]) (by simp [Act.eval]) (fun _ _ _ _ h => h) (fun w1 _ => (s_Kept r w1 hf.out).mono ?_) ?_
  · rintro e w2 ⟨rfl, n, rfl⟩
    exact ⟨_, rfl, le_drewN _ n, rfl⟩
  rintro v ⟨_, _, rfl⟩
  simp only [Act.put, List.setIfInBounds_toArray, List.set_cons_succ, List.set_cons_zero]
  refine wpFree_one rfl (.pointer (some ⟨g, 0, none⟩)) (fun w1 _ => by kernel_rfl) ?_
  simp only [Act.put, List.setIfInBounds_toArray, List.set_cons_succ, List.set_cons_zero]
  refine wpFree_one rfl (.pointer (some ⟨g, 4, none⟩)) (fun w1 _ => by kernel_rfl) ?_
  simp only [Act.put, List.setIfInBounds_toArray, List.set_cons_succ, List.set_cons_zero]
  refine wpFree_one rfl (.pointer (some ⟨g, 4 + 1, none⟩)) (fun w1 _ => by kernel_rfl) ?_
  simp only [Act.put, List.setIfInBounds_toArray, List.set_cons_succ, List.set_cons_zero]
  refine wpFree_nil (fun w5 hw5 _ => ?_)
  have RR := ((F.drewN 1).le hw5).row List.mem_cons_self
  replace U := hid (((U.out.le (le_drewN _ 1)).le hw5).setCell (a := ⟨g, 5, none⟩) rfl (.float .f32 (kept r)))
  have cc := RR.cell? 5
  have ff := RR.frozen 5
  have RN := RR.set 5 (.float .f32 (kept r))
  replace RN : Row (w5.setCell ⟨g, 5, none⟩ (.float .f32 (kept r))) g 28 (#[.int .i64 5, .float .f32 a, .float .f32 b, .float .f32 c, .float .f32 (kept s), .float .f32 (kept r)] : Array Value) := by simpa using RN
  replace RR := hid RR
  clear hw5 F
  have F := Frm.one RN
  clear RN
  have RN := hid (F.row List.mem_cons_self)
  clear F
  go_wp2
  go_ret
  refine ⟨_, rfl, e.out, hf.out, ?_, U.out⟩
  have e0 : (kept s) = st0 5 a b c x y s := by rfl
  have e1 : (kept r) = st1 5 a b c x y s := by exact kept_can (e.out.trans (can_outF _ _ _ _ _ _ _).symm)
  rw [← e0, ← e1]
  exact RN.out
end Go.Proofs.Ytmacednkpjfokaa

/- 'StepFilter' of both. -/
namespace Go.Fk
open Go Go.RowKit
theorem zero_of_same {y : Nat} (h : sameB y 0 = true) : y = 0 := by
  have e : can .f32 y = can .f32 0 := by
    simp only [sameB, beq_iff_eq] at h
    exact_mod_cast h
  exact (eq_of_can e.symm (by decide)).symm
theorem okF_y {k : Int} {a b c x y : Nat} (h : okF k a b c x y = true) (hk : k = 1 ∨ k = 2) : y = 0 := by
  simp only [okF, Bool.and_eq_true] at h
  have h2 := h.2.2
  rw [show sU k = 1 by simp [sU, hk]] at h2
  simp only [usedB, List.all_eq_true, List.mem_range] at h2
  exact zero_of_same (h2 1 (by omega))
theorem part12 {v0 v1 v2 : Value} : ∀ j, j < [v1, v2].length → (#[v0, v1, v2] : Array Value)[1 + j]? = [v1, v2][j]? := by
  intro j hj
  match j, hj with
  | 0, _ => rfl
  | 1, _ => rfl
/-- What 'StepFilter' gives of a valid filter. -/
def OutSF (k : Int) (a b c x y s : Nat) (w : World) (e : Ending) (w' : World) : Prop := ∃ r, e = .returned (.tuple #[(.agg #[.int .i64 k, .float .f32 a, .float .f32 b, .float .f32 c, .float .f32 (st0 k a b c x y s), .float .f32 (st1 k a b c x y s)]), .float .f32 r, .int .i64 0]) ∧ can .f32 r = outF k a b c x y s ∧ le w w'
theorem fits_st0 {k : Int} {a b c x y s : Nat} (hs : fits .f32 s) (ho : fits .f32 (outF k a b c x y s)) : fits .f32 (st0 k a b c x y s) := by
  unfold st0; split; exact fits_kept ho; exact fits_kept hs
end Go.Fk
namespace Go.Proofs.Ytmacednkpjfokaa
open Go.RowKit Go.Fk
theorem i_step (k : Int) (a b c x y s g : Nat) (w : World) (hk : 1 ≤ k ∧ k ≤ 5) (R : Row w g 88 #[mdl k a b c, .float .f32 x, .float .f32 y]) (hx : fits .f32 x) (hs : fits .f32 s) :
    Calls Try.prog 100 #[.pointer (some ⟨g, 0, none⟩), .float .f32 s] w (OutS k a b c x y s g 88 (fun u v => #[mdl k a b c, .float .f32 u, .float .f32 v]) w) := by
  rcases (show k = 1 ∨ k = 2 ∨ k = 3 ∨ k = 4 ∨ k = 5 by omega) with rfl | rfl | rfl | rfl | rfl
  · simp only [mdl1] at R ⊢; exact i_step1 a b c x y s g w R hx hs
  · simp only [mdl2] at R ⊢; exact i_step2 a b c x y s g w R hx hs
  · simp only [mdl3] at R ⊢; exact i_step3 a b c x y s g w R hx hs
  · simp only [mdl4] at R ⊢; exact i_step4 a b c x y s g w R hx hs
  · simp only [mdl5] at R ⊢; exact i_step5 a b c x y s g w R hx hs
theorem s_Step (k : Int) (a b c x y s g : Nat) (w : World) (hv : okF k a b c x y = true) (R : Row w g 28 (#[.int .i64 k, .float .f32 a, .float .f32 b, .float .f32 c, .float .f32 x, .float .f32 y] : Array Value)) (hx : fits .f32 x) (hs : fits .f32 s) :
    Calls Try.prog 58 #[.pointer (some ⟨g, 0, none⟩), .float .f32 s] w (OutS k a b c x y s g 28 (fun u v => (#[.int .i64 k, .float .f32 a, .float .f32 b, .float .f32 c, .float .f32 u, .float .f32 v] : Array Value)) w) := by
  have hk := okF_kind hv
  rcases (show k = 1 ∨ k = 2 ∨ k = 3 ∨ k = 4 ∨ k = 5 by omega) with rfl | rfl | rfl | rfl | rfl
  · exact s_Step1 a b c x y s g w R hx hs (okF_y hv (.inl rfl))
  · exact s_Step2 a b c x y s g w R hx hs (okF_y hv (.inr rfl))
  · exact s_Step3 a b c x y s g w R hx hs
  · exact s_Step4 a b c x y s g w R hx hs
  · exact s_Step5 a b c x y s g w R hx hs
end Go.Proofs.Ytmacednkpjfokaa

/- Equality of arrays of floats. Nothing here names a program. -/
namespace Go.Fk
open Go Go.RowKit
theorem run_all_loop {P : Program} (w : World) (c : Nat → Bool) (g : Nat → Option Bool × Unit → Sem (ForInStep (Option Bool × Unit))) : ∀ (l : List Nat),
    (∀ i, i ∈ l → ∀ s, (g i s).run P w = .ok (if c i then ForInStep.yield (none, ()) else ForInStep.done (some false, ())) w) →
    (forIn l ((none, ()) : Option Bool × Unit) g).run P w = .ok (if l.all c then (none, ()) else (some false, ())) w := by
  intro l
  induction l with
  | nil => intro _; rfl
  | cons i l ih =>
    intro h
    rw [List.forIn_cons, Sem.run_bind, h i (by simp) (none, ()), Result.andThen_ok]
    cases hc : c i
    · simp [hc]
    · simp only [if_true, hc, List.all_cons, Bool.true_and]
      exact ih (fun j hj => h j (by simp [hj]))

theorem run_equalIn_farr {P : Program} (w : World) (d n : Nat) {t e : TypeId} {k : FloatKind} (x y : Nat → Nat) (h : P.underlying t = some (.array n e)) (he : P.underlying e = some (.float k)) (hs : (P.info? e).map (·.size) = some 1) :
    (Op.equalIn (d + 2) t (.agg (ftab k x n)) (.agg (ftab k y n))).run P w = .ok ((List.range n).all (fun j => k.format.order (x j) (y j) == some .eq)) w := by
  cases hq : P.info? e with
  | none => simp [hq] at hs
  | some i =>
    have hsz : i.size = 1 := by simpa [hq] using hs
    unfold Op.equalIn
    simp only [Sem.run_bind, run_underlying h, Result.andThen_ok, sizeOf, typeInfo, hq, hsz, Nat.mul_one, run_program, Sem.run_pure, Std.Legacy.Range.forIn_eq_forIn_range']
    have key := run_all_loop (P := P) w (fun j => k.format.order (x j) (y j) == some .eq) (fun i _ => (do
            let a ← part e (ftab k x n) i
            let b ← part e (ftab k y n) i
            let r ← Op.equalIn (d + 1) e a b
            if (!r) = true then pure (ForInStep.done (some false, ())) else pure (ForInStep.yield (none, ())) : Sem (ForInStep (Option Bool × Unit)))) (List.range' 0 n) (by
      intro j hj s
      have hjn : j < n := by simpa using hj
      have p1 : ∀ z : Nat → Nat, (part e (ftab k z n) j).run P w = .ok (.float k (z j)) w := by
        intro z
        simp [part, isAgg, run_underlying he, get_ftab k z n j hjn]
      have p2 : (Op.equalIn (d + 1) e (.float k (x j)) (.float k (y j))).run P w = .ok (k.format.order (x j) (y j) == some .eq) w := by
        simp [Op.equalIn, run_underlying he, Op.floatEq]
      simp only [Sem.run_bind, p1, p2, Result.andThen_ok]
      cases (k.format.order (x j) (y j) == some .eq) <;> simp)
    have hr : [:n].size = n := by simp [Std.Legacy.Range.size]
    rw [hr, key, Result.andThen_ok, List.range_eq_range']
    cases (List.range' 0 n).all (fun j => k.format.order (x j) (y j) == some .eq) <;> simp
/-- '==' on arrays of floats. -/
theorem run_eql_farr {P : Program} (w : World) (n : Nat) {t e : TypeId} {k : FloatKind} (x y : Nat → Nat) (h : P.underlying t = some (.array n e)) (he : P.underlying e = some (.float k)) (hs : (P.info? e).map (·.size) = some 1) :
    (binOp .eql t (.agg (ftab k x n)) (.agg (ftab k y n))).run P w = .ok (.bool ((List.range n).all (fun j => k.format.order (x j) (y j) == some .eq))) w := by
  rw [run_eql_struct, run_equalIn_farr w 9998 n x y h he hs]; rfl
end Go.Fk

/- Stillness: 'IsStill', 'StepsToStill' of both. -/
namespace Go.Fk
open Go Go.RowKit
def zeroF (x : Nat) : Bool := FloatKind.f32.format.order x 0 == some .eq
def stillB (x y : Nat) : Bool := zeroF x && zeroF y
theorem stillB_arr (x y : Nat) : (List.range 2).all (fun j => FloatKind.f32.format.order (duo x y j) 0 == some .eq) = stillB x y := by
  simp [stillB, zeroF, duo, List.range_succ]
end Go.Fk
namespace Go.Proofs.Ytmacednkpjfokaa
open Go.RowKit Go.Fk
theorem i_isStill (v : Value) (x y g : Nat) (w : World) (R : Row w g 88 #[v, .float .f32 x, .float .f32 y]) :
    Calls Try.prog 103 #[.pointer (some ⟨g, 0, none⟩)] w fun e w' => e = .returned (.bool (stillB x y)) ∧ w = w' := by
  have heq : ∀ w, (binOp .eql 24 (.agg #[.float .f32 x, .float .f32 y]) (.agg #[.float .f32 0, .float .f32 0])).run Try.prog w = .ok (.bool (stillB x y)) w := fun w => by
    have h := run_eql_farr (P := Try.prog) w 2 (duo x y) (fun _ => 0) Try.underlying24 Try.underlying22 (by kernel_rfl)
    rw [stillB_arr] at h; exact h
  have hgd : Try.prog.eqGuardType Try.prog.depth 24 = false := by kernel_rfl
  have F := Frm.one R
  clear R
  go_enter Try.func103, Try.ntmps103
  go_wp2_with ((with_reducible refine wpList_loadPartFr F [.float .f32 x, .float .f32 y] rfl rfl rfl List.mem_cons_self Try.underlying24 rfl part12 info2 (by simp) ?_))
  go_ret
  exact ⟨rfl, rfl⟩
theorem s_l02StillAt (x y g f : Nat) (w : World) (c4 : w.cell? ⟨g, f + 4, none⟩ = some (.float .f32 x)) (c5 : w.cell? ⟨g, f + 5, none⟩ = some (.float .f32 y)) :
    Calls Try.prog 57 #[.pointer (some ⟨g, f, none⟩)] w fun e w' => e = .returned (.bool (stillB x y)) ∧ w = w' := by
  have c5' : w.cell? ⟨g, f + 4 + 1, none⟩ = some (.float .f32 y) := c5
  cases h1 : zeroF x <;> cases h2 : zeroF y
  all_goals
    rw [show stillB x y = (zeroF x && zeroF y) from rfl, h1, h2]
    unfold zeroF at h1 h2
    go_enter Try.func57, Try.ntmps57
    go_wp2
    go_ret
    exact ⟨rfl, rfl⟩
theorem s_l02Still (k : Int) (a b c x y g : Nat) (w : World) (R : Row w g 28 (#[.int .i64 k, .float .f32 a, .float .f32 b, .float .f32 c, .float .f32 x, .float .f32 y] : Array Value)) :
    Calls Try.prog 57 #[.pointer (some ⟨g, 0, none⟩)] w fun e w' => e = .returned (.bool (stillB x y)) ∧ w = w' :=
  s_l02StillAt x y g 0 w R.six.2.2.2.2.1 R.six.2.2.2.2.2
end Go.Proofs.Ytmacednkpjfokaa

/- How states go on, plainly. Nothing here names a program. -/
namespace Go.Fk
open Go Go.RowKit
theorem fits_fop (op : BinOp) (k : FloatKind) (x y : Nat) : fits k (fop op k x y) := by
  unfold fop
  split
  · rename_i r h
    unfold can; split
    · cases k <;> simp [fits, Lit.wf, qnan]
    · exact floatBits_wf h
  · cases k <;> simp [fits, Lit.wf, qnan]
theorem fits_outF (k : Int) (a b c x y s : Nat) : fits .f32 (outF k a b c x y s) := by
  unfold outF; split; exact fits_fop _ _ _ _; split; exact fits_fop _ _ _ _; split <;> exact fits_fop _ _ _ _
theorem fits_st1 {k : Int} {a b c x y s : Nat} (hx : fits .f32 x) : fits .f32 (st1 k a b c x y s) := by
  unfold st1; split; exact fits_zero; split; exact fits_kept hx; exact fits_kept (fits_outF _ _ _ _ _ _ _)
theorem fin_kept (v : Nat) : fin (kept v) = true := by
  unfold kept; split
  · rename_i h
    unfold flush; split
    · decide
    · exact h
  · decide
theorem usedB_three {a b c u : Nat} : usedB (tri a b c) 3 u = ((if 0 < u then fin a else sameB a 0) && (if 1 < u then fin b else sameB b 0) && (if 2 < u then fin c else sameB c 0)) := by
  simp [usedB, tri, List.range_succ, Bool.and_assoc]
theorem usedB_two {x y u : Nat} : usedB (duo x y) 2 u = ((if 0 < u then fin x else sameB x 0) && (if 1 < u then fin y else sameB y 0)) := by
  simp [usedB, duo, List.range_succ]
theorem same00 : sameB 0 0 = true := by decide
theorem okF_step {k : Int} {a b c x y s : Nat} (h : okF k a b c x y = true) : okF k a b c (st0 k a b c x y s) (st1 k a b c x y s) = true := by
  simp only [okF, Bool.and_eq_true] at h ⊢
  refine ⟨h.1, h.2.1, ?_⟩
  rw [usedB_two]
  have h0 : fin (st0 k a b c x y s) = true := by unfold st0; split <;> exact fin_kept _
  by_cases hk : k = 1 ∨ k = 2
  · have : sU k = 1 := by simp [sU, hk]
    have h1 : st1 k a b c x y s = 0 := by simp [st1, hk]
    rw [this, h1, h0]; simp [same00]
  · have : sU k = 2 := by simp [sU, hk]
    have h1 : fin (st1 k a b c x y s) = true := by unfold st1; rw [if_neg hk]; split <;> exact fin_kept _
    rw [this, h0, h1]; simp
/-- The states of a filter that gets zeros. -/
def stN (k : Int) (a b c x y : Nat) : Nat → Nat × Nat
  | 0 => (x, y)
  | n + 1 => (st0 k a b c (stN k a b c x y n).1 (stN k a b c x y n).2 0, st1 k a b c (stN k a b c x y n).1 (stN k a b c x y n).2 0)
theorem okF_stN {k : Int} {a b c x y : Nat} (h : okF k a b c x y = true) (n : Nat) : okF k a b c (stN k a b c x y n).1 (stN k a b c x y n).2 = true := by
  induction n with
  | zero => exact h
  | succ n ih => exact okF_step ih
theorem fits_stN {k : Int} {a b c x y : Nat} (hx : fits .f32 x) (hy : fits .f32 y) (n : Nat) : fits .f32 (stN k a b c x y n).1 ∧ fits .f32 (stN k a b c x y n).2 := by
  induction n with
  | zero => exact ⟨hx, hy⟩
  | succ n ih => exact ⟨fits_st0 fits_zero (fits_outF _ _ _ _ _ _ _), fits_st1 ih.1⟩
def stillN (k : Int) (a b c x y n : Nat) : Bool := stillB (stN k a b c x y n).1 (stN k a b c x y n).2
/-- What 'StepsToStill' gives. -/
def ResST (k : Int) (a b c x y K : Nat) (n code : Int) : Prop :=
  (code = 0 ∧ ∃ m : Nat, n = m ∧ m ≤ K ∧ stillN k a b c x y m = true ∧ ∀ i, i < m → stillN k a b c x y i = false) ∨ (code = 7 ∧ n = 0 ∧ ∀ i, i ≤ K → stillN k a b c x y i = false)
theorem ResST.one {k : Int} {a b c x y K : Nat} {n d n' d' : Int} (h : ResST k a b c x y K n d) (h' : ResST k a b c x y K n' d') : n = n' ∧ d = d' := by
  rcases h with ⟨rfl, m, rfl, h1, h2, h3⟩ | ⟨rfl, rfl, h1⟩ <;> rcases h' with ⟨rfl, m', rfl, h1', h2', h3'⟩ | ⟨rfl, rfl, h1'⟩
  · rcases Nat.lt_trichotomy m m' with h | h | h
    · rw [h3' m h] at h2; cases h2
    · subst h; exact ⟨rfl, rfl⟩
    · rw [h3 m' h] at h2'; cases h2'
  · rw [h1' m h1] at h2; cases h2
  · rw [h1 m' h1'] at h2'; cases h2'
  · exact ⟨rfl, rfl⟩
def OutST (k : Int) (a b c x y K : Nat) (w : World) (e : Ending) (w' : World) : Prop := ∃ n d, e = .returned (.tuple #[.int .i64 n, .int .i64 d]) ∧ ResST k a b c x y K n d ∧ le w w'
end Go.Fk

/- Filling a list, one by one. Nothing here names a program. -/
namespace Go.Fk
open Go Go.RowKit
/-- So many outputs, then the inputs. -/
def upto (j : Nat) (h z : Nat → Nat) : Nat → Nat := fun i => if i < j then h i else z i
theorem upto_zero (h z : Nat → Nat) : upto 0 h z = z := by funext i; simp [upto]
theorem upto_set (j : Nat) (h z : Nat → Nat) (r : Nat) : (fun i => if i = j then r else upto j h z i) = upto (j + 1) (fun i => if i = j then r else h i) z := by
  funext i
  unfold upto
  by_cases e : i = j
  · subst e; simp
  · by_cases l : i < j
    · simp [e, l, show i < j + 1 by omega]
    · simp [e, l, show ¬ i < j + 1 by omega]
theorem upto_full (h z : Nat → Nat) : ftab .f32 (upto 16 h z) 16 = ftab .f32 h 16 := ftab_congr (fun j hj => if_pos hj)
end Go.Fk

/- What filters make of samples, plainly. -/
namespace Go.Fk
open Go Go.RowKit
/-- The states of a filter that gets samples. -/
def runS (k : Int) (a b c x y : Nat) (z : Nat → Nat) : Nat → Nat × Nat
  | 0 => (x, y)
  | n + 1 => (st0 k a b c (runS k a b c x y z n).1 (runS k a b c x y z n).2 (z n), st1 k a b c (runS k a b c x y z n).1 (runS k a b c x y z n).2 (z n))
theorem okF_runS {k : Int} {a b c x y : Nat} (z : Nat → Nat) (h : okF k a b c x y = true) (n : Nat) : okF k a b c (runS k a b c x y z n).1 (runS k a b c x y z n).2 = true := by
  induction n with
  | zero => exact h
  | succ n ih => exact okF_step ih
theorem fits_runS {k : Int} {a b c x y : Nat} {z : Nat → Nat} {N : Nat} (hx : fits .f32 x) (hy : fits .f32 y) (hz : ∀ j, j < N → fits .f32 (z j)) (n : Nat) (hn : n ≤ N) : fits .f32 (runS k a b c x y z n).1 ∧ fits .f32 (runS k a b c x y z n).2 := by
  induction n with
  | zero => exact ⟨hx, hy⟩
  | succ n ih => exact ⟨fits_st0 (hz n (by omega)) (fits_outF _ _ _ _ _ _ _), fits_st1 (ih (by omega)).1⟩
/-- What a filter makes of the n-th sample. -/
def runO (k : Int) (a b c x y : Nat) (z : Nat → Nat) (n : Nat) : Nat := outF k a b c (runS k a b c x y z n).1 (runS k a b c x y z n).2 (z n)
def OutRF (k : Int) (a b c x y : Nat) (z : Nat → Nat) (w : World) (e : Ending) (w' : World) : Prop := ∃ h : Nat → Nat, e = .returned (.tuple #[(.agg #[.int .i64 k, .float .f32 a, .float .f32 b, .float .f32 c, .float .f32 (runS k a b c x y z 16).1, .float .f32 (runS k a b c x y z 16).2]), .agg (ftab .f32 h 16), .int .i64 0]) ∧ (∀ j, j < 16 → can .f32 (h j) = runO k a b c x y z j) ∧ le w w'
end Go.Fk

/- 'StepsToStill' of both. -/
namespace Go.Proofs.Ytmacednkpjfokaa
open Go.RowKit Go.Fk
set_option maxHeartbeats 2000000 in
theorem i_leastSteps (k : Int) (a b c x y K g : Nat) (w : World) (hk : 1 ≤ k ∧ k ≤ 5) (hK : K ≤ 100000) (hx : fits .f32 x) (hy : fits .f32 y) (R : Row w g 88 #[mdl k a b c, .float .f32 x, .float .f32 y]) :
    Calls Try.prog 59 #[.iface 82 (.pointer (some ⟨g, 0, none⟩)), .int .i64 K, .int .i64 100000] w fun e w' => ∃ n d, e = .returned (.tuple #[.int .i64 n, .int .i64 d]) ∧ ResST k a b c x y K n d ∧ Upd g w w' := by
  have HK := hid hk
  have HN := hid (fun n => fits_stN (k := k) (a := a) (b := b) (c := c) hx hy n)
  have hK1 : (K : Int) ≤ 100000 := by omega
  have hK0 : 0 ≤ (K : Int) := by omega
  have HR := hid R; clear R hx hy hk
  go_enter Try.func59, Try.ntmps59
  go_wp2_with fail
  go_loopw [18] (fun i wr => ∃ j : Nat, j ≤ K + 1 ∧ i = .int .i64 j ∧ Hid (∀ m, m < j → stillN k a b c x y m = false) ∧ Hid (Row wr g 88 #[mdl k a b c, .float .f32 (stN k a b c x y j).1, .float .f32 (stN k a b c x y j).2]) ∧ Hid (Upd g w wr)) (fun i _ => (K + 1) - (intOf i).toNat)
  case atStart => exact ⟨0, by omega, rfl, fun m hm => absurd hm (by omega), HR.out, Upd.refl g w⟩
  case round =>
    obtain ⟨j, hj, rfl, HJ, RJ, UJ⟩ := hrel
    by_cases hlt : j < K + 1
    · have hlt' : (j : Int) < (K : Int) + 1 := by omega
      cases hs : stillB (stN k a b c x y j).1 (stN k a b c x y j).2
      · have hS := hid (fun w R => i_isStill (mdl k a b c) (stN k a b c x y j).1 (stN k a b c x y j).2 g w R)
        rw [hs] at hS
        replace hs := hid hs
        go_wp2_with (first | (go_at_call 103; ((with_reducible refine (hS.out _ RJ.out).mono ?_); rintro e w3 ⟨rfl, rfl⟩)) | (go_at_call 100; ((with_reducible refine (i_step _ _ _ _ _ _ _ _ _ HK.out RJ.out (HN.out _).1 fits_zero).mono ?_); rintro e w4 ⟨r, rfl, hr, fr, hR, hU⟩; replace RJ := hid hR; replace UJ := hid (UJ.out.trans hU); clear hR hU hr fr)))
        go_roundw
        case rel => exact ⟨j + 1, by omega, by go_num, fun m hm => by rcases Nat.lt_or_ge m j with h | h; exact HJ.out m h; rw [show m = j by omega]; exact hs.out, RJ.out, UJ.out⟩
        case measure => simp [intOf]; omega
      · have hS := hid (fun w R => i_isStill (mdl k a b c) (stN k a b c x y j).1 (stN k a b c x y j).2 g w R)
        rw [hs] at hS
        replace hs := hid hs
        go_wp2_with (first | (go_at_call 103; ((with_reducible refine (hS.out _ RJ.out).mono ?_); rintro e w3 ⟨rfl, rfl⟩)))
        go_ret2
        exact ⟨_, _, rfl, .inl ⟨rfl, j, rfl, by omega, hs.out, HJ.out⟩, UJ.out⟩
    · have hlt' : ¬ (j : Int) < (K : Int) + 1 := by omega
      obtain rfl : j = K + 1 := by omega
      go_wp2
      go_ret2
      exact ⟨_, _, rfl, .inr ⟨rfl, rfl, fun i hi => HJ.out i (by omega)⟩, UJ.out⟩
theorem i_leastSteps_out (v : Value) (m : Int) (w : World) (hm : m < 0 ∨ 100000 < m) :
    Calls Try.prog 59 #[v, .int .i64 m, .int .i64 100000] w fun e w' => e = .returned (.tuple #[.int .i64 0, .int .i64 2]) ∧ w = w' := by
  rcases (show m < 0 ∨ (¬ m < 0 ∧ 100000 < m) by omega) with h | ⟨h, h'⟩
  all_goals
    clear hm
    go_enter Try.func59, Try.ntmps59
    go_wp2
    go_ret2
    exact ⟨rfl, rfl⟩
set_option maxHeartbeats 2000000 in
theorem i_Steps_yes (k : Int) (a b c x y K : Nat) (w : World) (hv : okF k a b c x y = true) (hK : K ≤ 100000) (hf : fits .f32 a ∧ fits .f32 b ∧ fits .f32 c ∧ fits .f32 x ∧ fits .f32 y) :
    Calls Try.prog 20 #[(.agg #[.int .i64 k, .float .f32 a, .float .f32 b, .float .f32 c, .float .f32 x, .float .f32 y]), .int .i64 K] w (OutST k a b c x y K w) := by
  have Hf := hid hf; clear hf
  have hV := hid (fun w => i_ValidFilter k a b c x y w Hf.out)
  have HK := hid (okF_kind hv)
  rw [hv] at hV
  clear hv
  have HL := hid (fun (w : World) (g : Nat) (R : Row w g 88 #[mdl k a b c, .float .f32 x, .float .f32 y]) => i_leastSteps k a b c x y K g w HK.out hK Hf.out.2.2.2.1 Hf.out.2.2.2.2 R)
  have F := (Frm.nil w).box 28 (#[.int .i64 k, .float .f32 a, .float .f32 b, .float .f32 c, .float .f32 x, .float .f32 y] : Array Value)
  go_enter Try.func20, Try.ntmps20
  go_wp2_with (first | ((with_reducible refine at_load rfl ?_); first | (with_reducible refine wpList_loadFr F rfl rfl rfl (by first | exact List.mem_cons_self | exact List.mem_cons_of_mem _ (List.mem_cons_self) | exact List.mem_cons_of_mem _ (List.mem_cons_of_mem _ (List.mem_cons_self)) | exact List.mem_cons_of_mem _ (List.mem_cons_of_mem _ (List.mem_cons_of_mem _ (List.mem_cons_self))) | exact List.mem_cons_of_mem _ (List.mem_cons_of_mem _ (List.mem_cons_of_mem _ (List.mem_cons_of_mem _ (List.mem_cons_self)))) | exact List.mem_cons_of_mem _ (List.mem_cons_of_mem _ (List.mem_cons_of_mem _ (List.mem_cons_of_mem _ (List.mem_cons_of_mem _ (List.mem_cons_self))))) | exact List.mem_cons_of_mem _ (List.mem_cons_of_mem _ (List.mem_cons_of_mem _ (List.mem_cons_of_mem _ (List.mem_cons_of_mem _ (List.mem_cons_of_mem _ (List.mem_cons_self))))))) Try.underlying28 rfl infoFil (by simp [size_ftab]) ?_) | (with_reducible refine wpList_loadFr (F.box _ _) rfl rfl rfl (by first | exact List.mem_cons_self | exact List.mem_cons_of_mem _ (List.mem_cons_self) | exact List.mem_cons_of_mem _ (List.mem_cons_of_mem _ (List.mem_cons_self)) | exact List.mem_cons_of_mem _ (List.mem_cons_of_mem _ (List.mem_cons_of_mem _ (List.mem_cons_self))) | exact List.mem_cons_of_mem _ (List.mem_cons_of_mem _ (List.mem_cons_of_mem _ (List.mem_cons_of_mem _ (List.mem_cons_self)))) | exact List.mem_cons_of_mem _ (List.mem_cons_of_mem _ (List.mem_cons_of_mem _ (List.mem_cons_of_mem _ (List.mem_cons_of_mem _ (List.mem_cons_self))))) | exact List.mem_cons_of_mem _ (List.mem_cons_of_mem _ (List.mem_cons_of_mem _ (List.mem_cons_of_mem _ (List.mem_cons_of_mem _ (List.mem_cons_of_mem _ (List.mem_cons_self))))))) Try.underlying28 rfl infoFil (by simp [size_ftab]) ?_)) | (go_at_call 51; ((with_reducible refine (hV.out _).mono ?_); rintro e w1 ⟨rfl, hb1⟩; replace F := F.le hb1)) | (go_at_call 52; ((with_reducible refine (i_newRunner _ _ _ _ _ _ _ HK.out).mono ?_); rintro e w2 ⟨g, rfl, hg, hR, hl⟩; have hge := hid (Nat.le_trans F.below.size hg); have hle2 := hid (le_trans F.below hl); replace F := hid hR; clear hR hl hg)) | (go_at_call 59; ((with_reducible refine (HL.out _ _ F.out).mono ?_); rintro e w3 ⟨n, d, rfl, hres, hU⟩; replace hres := hid hres; replace hU := hid hU)))
  go_ret2
  exact ⟨_, _, rfl, hres.out, Below.trans hle2.out (hU.out.below hge.out hle2.out.size)⟩
set_option maxHeartbeats 2000000 in
theorem s_Steps_yes (k : Int) (a b c x y K : Nat) (w : World) (hv : okF k a b c x y = true) (hK : K ≤ 100000) (hx : fits .f32 x) (hy : fits .f32 y) :
    Calls Try.prog 19 #[(.agg #[.int .i64 k, .float .f32 a, .float .f32 b, .float .f32 c, .float .f32 x, .float .f32 y]), .int .i64 K] w (OutST k a b c x y K w) := by
  have hV := hid (fun g w (R : Row w g 28 (#[.int .i64 k, .float .f32 a, .float .f32 b, .float .f32 c, .float .f32 x, .float .f32 y] : Array Value)) => s_Ok k a b c x y g w R)
  have HV := hid (fun n => okF_stN hv n)
  have HN := hid (fun n => fits_stN (k := k) (a := a) (b := b) (c := c) hx hy n)
  rw [hv] at hV
  clear hv hx hy
  have hK1 : (K : Int) ≤ 100000 := by omega
  have hK0 : 0 ≤ (K : Int) := by omega
  have hIn : Hid (∀ w, Calls Try.prog 56 #[.int .i64 K, .int .i64 0, .int .i64 100000] w fun e w' => e = .returned (.bool true) ∧ w = w') := fun w => by
    have h := s_In K 0 100000 w
    rwa [show (decide ((0 : Int) ≤ K) && decide ((K : Int) ≤ 100000)) = true by simp only [Bool.and_eq_true, decide_eq_true_eq]; omega] at h
  have F := (Frm.nil w).box 28 (#[.int .i64 k, .float .f32 a, .float .f32 b, .float .f32 c, .float .f32 x, .float .f32 y] : Array Value)
  go_enter Try.func19, Try.ntmps19
  go_wp2_with (first | (go_at_call 47; ((with_reducible refine (hV.out _ _ (F.row List.mem_cons_self)).mono ?_); rintro e w1 ⟨rfl, n1, rfl⟩; replace F := F.drewN n1)) | (go_at_call 56; ((with_reducible refine (hIn.out _).mono ?_); rintro e w1 ⟨rfl, rfl⟩)))
  replace F := hid F
  go_loopw [6] (fun i wr => ∃ j : Nat, j ≤ K + 1 ∧ i = .int .i64 j ∧ Hid (∀ m, m < j → stillN k a b c x y m = false) ∧ Hid (Frm w wr [(w.heap.size, 28, (#[.int .i64 k, .float .f32 a, .float .f32 b, .float .f32 c, .float .f32 (stN k a b c x y j).1, .float .f32 (stN k a b c x y j).2] : Array Value))])) (fun i _ => (K + 1) - (intOf i).toNat)
  case atStart => exact ⟨0, by omega, rfl, fun m hm => absurd hm (by omega), F⟩
  case round =>
    obtain ⟨j, hj, rfl, HJ, FJ⟩ := hrel
    clear F
    by_cases hlt : j ≤ K
    · have hjK : (j : Int) ≤ K := by omega
      cases hs : stillB (stN k a b c x y j).1 (stN k a b c x y j).2
      · have hS := hid (fun w R => s_l02Still k a b c (stN k a b c x y j).1 (stN k a b c x y j).2 w.heap.size w R)
        have hS := hid (fun w g R => s_l02Still k a b c (stN k a b c x y j).1 (stN k a b c x y j).2 g w R)
        rw [hs] at hS
        replace hs := hid hs
        go_wp2_with (first | (go_at_call 57; ((with_reducible refine (hS.out _ _ (FJ.out.row List.mem_cons_self)).mono ?_); rintro e w3 ⟨rfl, rfl⟩)) | (go_at_call 58; ((with_reducible refine (s_Step _ _ _ _ _ _ _ _ _ (HV.out _) (FJ.out.row List.mem_cons_self) (HN.out _).1 fits_zero).mono ?_); rintro e w3 ⟨r, rfl, _, _, hR, hU⟩; replace FJ := hid (FJ.out.upd hR hU (Nat.le_refl _) (L' := []) (by simp)); clear hR hU)))
        go_roundw
        case rel => exact ⟨j + 1, by omega, by go_num, fun m hm => by rcases Nat.lt_or_ge m j with h | h; exact HJ.out m h; rw [show m = j by omega]; exact hs.out, FJ⟩
        case measure => simp [intOf]; omega
      · have hS := hid (fun w g R => s_l02Still k a b c (stN k a b c x y j).1 (stN k a b c x y j).2 g w R)
        rw [hs] at hS
        replace hs := hid hs
        go_wp2_with (first | (go_at_call 57; ((with_reducible refine (hS.out _ _ (FJ.out.row List.mem_cons_self)).mono ?_); rintro e w3 ⟨rfl, rfl⟩)))
        go_ret2
        exact ⟨_, _, rfl, .inl ⟨rfl, j, rfl, by omega, hs.out, HJ.out⟩, FJ.out.below⟩
    · have hjK : ¬ (j : Int) ≤ K := by omega
      obtain rfl : j = K + 1 := by omega
      go_wp2
      go_ret2
      exact ⟨_, _, rfl, .inr ⟨rfl, rfl, fun i hi => HJ.out i (by omega)⟩, FJ.out.below⟩
set_option maxHeartbeats 1000000 in
theorem i_Steps_no (k : Int) (a b c x y : Nat) (m : Int) (w : World) (hv : okF k a b c x y = false) (hf : fits .f32 a ∧ fits .f32 b ∧ fits .f32 c ∧ fits .f32 x ∧ fits .f32 y) :
    Calls Try.prog 20 #[(.agg #[.int .i64 k, .float .f32 a, .float .f32 b, .float .f32 c, .float .f32 x, .float .f32 y]), .int .i64 m] w fun e w' => e = .returned (.tuple #[.int .i64 0, .int .i64 1]) ∧ le w w' := by
  have Hf := hid hf; clear hf
  have hV := hid (fun w => i_ValidFilter k a b c x y w Hf.out)
  rw [hv] at hV
  clear hv
  have F := (Frm.nil w).box 28 (#[.int .i64 k, .float .f32 a, .float .f32 b, .float .f32 c, .float .f32 x, .float .f32 y] : Array Value)
  go_enter Try.func20, Try.ntmps20
  go_wp2_with (first | ((with_reducible refine at_load rfl ?_); first | (with_reducible refine wpList_loadFr F rfl rfl rfl (by first | exact List.mem_cons_self | exact List.mem_cons_of_mem _ (List.mem_cons_self) | exact List.mem_cons_of_mem _ (List.mem_cons_of_mem _ (List.mem_cons_self)) | exact List.mem_cons_of_mem _ (List.mem_cons_of_mem _ (List.mem_cons_of_mem _ (List.mem_cons_self))) | exact List.mem_cons_of_mem _ (List.mem_cons_of_mem _ (List.mem_cons_of_mem _ (List.mem_cons_of_mem _ (List.mem_cons_self)))) | exact List.mem_cons_of_mem _ (List.mem_cons_of_mem _ (List.mem_cons_of_mem _ (List.mem_cons_of_mem _ (List.mem_cons_of_mem _ (List.mem_cons_self))))) | exact List.mem_cons_of_mem _ (List.mem_cons_of_mem _ (List.mem_cons_of_mem _ (List.mem_cons_of_mem _ (List.mem_cons_of_mem _ (List.mem_cons_of_mem _ (List.mem_cons_self))))))) Try.underlying28 rfl infoFil (by simp [size_ftab]) ?_) | (with_reducible refine wpList_loadFr (F.box _ _) rfl rfl rfl (by first | exact List.mem_cons_self | exact List.mem_cons_of_mem _ (List.mem_cons_self) | exact List.mem_cons_of_mem _ (List.mem_cons_of_mem _ (List.mem_cons_self)) | exact List.mem_cons_of_mem _ (List.mem_cons_of_mem _ (List.mem_cons_of_mem _ (List.mem_cons_self))) | exact List.mem_cons_of_mem _ (List.mem_cons_of_mem _ (List.mem_cons_of_mem _ (List.mem_cons_of_mem _ (List.mem_cons_self)))) | exact List.mem_cons_of_mem _ (List.mem_cons_of_mem _ (List.mem_cons_of_mem _ (List.mem_cons_of_mem _ (List.mem_cons_of_mem _ (List.mem_cons_self))))) | exact List.mem_cons_of_mem _ (List.mem_cons_of_mem _ (List.mem_cons_of_mem _ (List.mem_cons_of_mem _ (List.mem_cons_of_mem _ (List.mem_cons_of_mem _ (List.mem_cons_self))))))) Try.underlying28 rfl infoFil (by simp [size_ftab]) ?_)) | (go_at_call 51; ((with_reducible refine (hV.out _).mono ?_); rintro e w1 ⟨rfl, hb1⟩; replace F := F.le hb1)))
  go_ret2
  exact ⟨rfl, F.below⟩
set_option maxHeartbeats 1000000 in
theorem i_Steps_out (k : Int) (a b c x y : Nat) (m : Int) (w : World) (hv : okF k a b c x y = true) (hm : m < 0 ∨ 100000 < m) (hf : fits .f32 a ∧ fits .f32 b ∧ fits .f32 c ∧ fits .f32 x ∧ fits .f32 y) :
    Calls Try.prog 20 #[(.agg #[.int .i64 k, .float .f32 a, .float .f32 b, .float .f32 c, .float .f32 x, .float .f32 y]), .int .i64 m] w fun e w' => e = .returned (.tuple #[.int .i64 0, .int .i64 2]) ∧ le w w' := by
  have Hf := hid hf; clear hf
  have hV := hid (fun w => i_ValidFilter k a b c x y w Hf.out)
  have hk := okF_kind hv
  rw [hv] at hV
  clear hv
  have F := (Frm.nil w).box 28 (#[.int .i64 k, .float .f32 a, .float .f32 b, .float .f32 c, .float .f32 x, .float .f32 y] : Array Value)
  have HK := hid hk
  have HL := hid (fun (v : Value) (w : World) => i_leastSteps_out v m w hm)
  clear hm hk
  go_enter Try.func20, Try.ntmps20
  go_wp2_with (first | ((with_reducible refine at_load rfl ?_); first | (with_reducible refine wpList_loadFr F rfl rfl rfl (by first | exact List.mem_cons_self | exact List.mem_cons_of_mem _ (List.mem_cons_self) | exact List.mem_cons_of_mem _ (List.mem_cons_of_mem _ (List.mem_cons_self)) | exact List.mem_cons_of_mem _ (List.mem_cons_of_mem _ (List.mem_cons_of_mem _ (List.mem_cons_self))) | exact List.mem_cons_of_mem _ (List.mem_cons_of_mem _ (List.mem_cons_of_mem _ (List.mem_cons_of_mem _ (List.mem_cons_self)))) | exact List.mem_cons_of_mem _ (List.mem_cons_of_mem _ (List.mem_cons_of_mem _ (List.mem_cons_of_mem _ (List.mem_cons_of_mem _ (List.mem_cons_self))))) | exact List.mem_cons_of_mem _ (List.mem_cons_of_mem _ (List.mem_cons_of_mem _ (List.mem_cons_of_mem _ (List.mem_cons_of_mem _ (List.mem_cons_of_mem _ (List.mem_cons_self))))))) Try.underlying28 rfl infoFil (by simp [size_ftab]) ?_) | (with_reducible refine wpList_loadFr (F.box _ _) rfl rfl rfl (by first | exact List.mem_cons_self | exact List.mem_cons_of_mem _ (List.mem_cons_self) | exact List.mem_cons_of_mem _ (List.mem_cons_of_mem _ (List.mem_cons_self)) | exact List.mem_cons_of_mem _ (List.mem_cons_of_mem _ (List.mem_cons_of_mem _ (List.mem_cons_self))) | exact List.mem_cons_of_mem _ (List.mem_cons_of_mem _ (List.mem_cons_of_mem _ (List.mem_cons_of_mem _ (List.mem_cons_self)))) | exact List.mem_cons_of_mem _ (List.mem_cons_of_mem _ (List.mem_cons_of_mem _ (List.mem_cons_of_mem _ (List.mem_cons_of_mem _ (List.mem_cons_self))))) | exact List.mem_cons_of_mem _ (List.mem_cons_of_mem _ (List.mem_cons_of_mem _ (List.mem_cons_of_mem _ (List.mem_cons_of_mem _ (List.mem_cons_of_mem _ (List.mem_cons_self))))))) Try.underlying28 rfl infoFil (by simp [size_ftab]) ?_)) | (go_at_call 51; ((with_reducible refine (hV.out _).mono ?_); rintro e w1 ⟨rfl, hb1⟩; replace F := F.le hb1)) | (go_at_call 52; ((with_reducible refine (i_newRunner _ _ _ _ _ _ _ HK.out).mono ?_); rintro e w2 ⟨g, rfl, hg, hR, hl⟩; replace F := F.le hl; clear hR hl hg)) | (go_at_call 59; ((with_reducible refine (HL.out _ _).mono ?_); rintro e w3 ⟨rfl, rfl⟩)))
  go_ret2
  exact ⟨rfl, F.below⟩
set_option maxHeartbeats 1000000 in
theorem s_Steps_no (k : Int) (a b c x y : Nat) (m : Int) (w : World) (hv : okF k a b c x y = false) :
    Calls Try.prog 19 #[(.agg #[.int .i64 k, .float .f32 a, .float .f32 b, .float .f32 c, .float .f32 x, .float .f32 y]), .int .i64 m] w fun e w' => e = .returned (.tuple #[.int .i64 0, .int .i64 1]) ∧ le w w' := by
  have hV := hid (fun g w (R : Row w g 28 (#[.int .i64 k, .float .f32 a, .float .f32 b, .float .f32 c, .float .f32 x, .float .f32 y] : Array Value)) => s_Ok k a b c x y g w R)
  rw [hv] at hV
  clear hv
  have F := (Frm.nil w).box 28 (#[.int .i64 k, .float .f32 a, .float .f32 b, .float .f32 c, .float .f32 x, .float .f32 y] : Array Value)
  go_enter Try.func19, Try.ntmps19
  go_wp2_with (first | (go_at_call 47; ((with_reducible refine (hV.out _ _ (F.row List.mem_cons_self)).mono ?_); rintro e w1 ⟨rfl, n1, rfl⟩; replace F := F.drewN n1)))
  go_ret2
  exact ⟨rfl, F.below⟩
set_option maxHeartbeats 1000000 in
theorem s_Steps_out (k : Int) (a b c x y : Nat) (m : Int) (w : World) (hv : okF k a b c x y = true) (hm : m < 0 ∨ 100000 < m) :
    Calls Try.prog 19 #[(.agg #[.int .i64 k, .float .f32 a, .float .f32 b, .float .f32 c, .float .f32 x, .float .f32 y]), .int .i64 m] w fun e w' => e = .returned (.tuple #[.int .i64 0, .int .i64 2]) ∧ le w w' := by
  have hV := hid (fun g w (R : Row w g 28 (#[.int .i64 k, .float .f32 a, .float .f32 b, .float .f32 c, .float .f32 x, .float .f32 y] : Array Value)) => s_Ok k a b c x y g w R)
  rw [hv] at hV
  clear hv
  have hIn : Hid (∀ w, Calls Try.prog 56 #[.int .i64 m, .int .i64 0, .int .i64 100000] w fun e w' => e = .returned (.bool false) ∧ w = w') := fun w => by
    have h := s_In m 0 100000 w
    rwa [show (decide ((0 : Int) ≤ m) && decide (m ≤ 100000)) = false by simp only [Bool.and_eq_false_iff, decide_eq_false_iff_not]; omega] at h
  have F := (Frm.nil w).box 28 (#[.int .i64 k, .float .f32 a, .float .f32 b, .float .f32 c, .float .f32 x, .float .f32 y] : Array Value)
  clear hm
  go_enter Try.func19, Try.ntmps19
  go_wp2_with (first | (go_at_call 47; ((with_reducible refine (hV.out _ _ (F.row List.mem_cons_self)).mono ?_); rintro e w1 ⟨rfl, n1, rfl⟩; replace F := F.drewN n1)) | (go_at_call 56; ((with_reducible refine (hIn.out _).mono ?_); rintro e w1 ⟨rfl, rfl⟩)))
  go_ret2
  exact ⟨rfl, F.below⟩
end Go.Proofs.Ytmacednkpjfokaa

/- Slices of floats in the laws' helpers: 'szFloat32S', 'toFloat32S', 'eqFloat32S'. -/
namespace Go.Fk
open Go Go.RowKit
theorem made_tab (n : Nat) : madeCells #[Value.float .f32 0] n = ftab .f32 (fun _ => 0) n := by
  apply Array.ext
  · simp [size_madeCells, size_ftab]
  · intro i h1 h2
    simp [madeCells, ftab, tab, Nat.mod_one]
theorem cell_lt {w : World} {p : Addr} {v : Value} (h : w.cell? p = some v) : p.block < w.heap.size := by
  apply Nat.lt_of_not_le
  intro hle
  have : w.heap[p.block]? = none := Array.getElem?_eq_none hle
  simp [World.cell?, this] at h
end Go.Fk
namespace Go.Proofs.Ytmacednkpjfokaa
open Go.RowKit Go.Fk
theorem szS_no (v : Value) (x : Nat → Nat) (n : Nat) (m : Int) (w : World) (hv : SlIn w v x n) (h0 : 0 ≤ m) (h1 : m ≤ 1048576) (hn : n ≤ 9223372036854775807) (hm : m - (n : Int) < 0) :
    Calls Try.prog 90 #[v, .int .i64 m] w fun e w' => e = .returned (.int .i64 (-1)) ∧ w = w' := by
  rcases hv with ⟨rfl, rfl⟩ | ⟨a, cap, rfl, hc, hg, hx⟩
  · exact absurd hm (by omega)
  · have HX := hid hx; clear hx
    go_enter Try.func90, Try.ntmps90
    go_wp2
    go_ret
    exact ⟨rfl, rfl⟩
theorem szS_yes (v : Value) (x : Nat → Nat) (n : Nat) (m : Int) (w : World) (hv : SlIn w v x n) (h0 : 0 ≤ m) (h1 : m ≤ 1048576) (hn : n ≤ 9223372036854775807) (hm : 0 ≤ m - (n : Int)) :
    Calls Try.prog 90 #[v, .int .i64 m] w fun e w' => e = .returned (.int .i64 (m - n)) ∧ w = w' := by
  rcases hv with ⟨rfl, rfl⟩ | ⟨a, cap, rfl, hc, hg, hx⟩
  · go_enter Try.func90, Try.ntmps90
    go_wp2
    go_ret
    exact ⟨ret_i (by omega), rfl⟩
  · have HX := hid hx; clear hx
    go_enter Try.func90, Try.ntmps90
    go_wp2
    go_ret
    exact ⟨rfl, rfl⟩
theorem info36 : ∃ i, Try.prog.info? 22 = some i ∧ i.zero = some (.float .f32 0) ∧ i.size = 1 ∧ i.bytes = 4 := by
  have h : (Try.prog.info? 22).map (fun i => (i.zero, i.size, i.bytes)) = some (some (.float .f32 0), 1, 4) := by kernel_rfl
  cases e : Try.prog.info? 22 with
  | none => rw [e] at h; cases h
  | some i =>
    rw [e] at h
    simp only [Option.map_some, Option.some.injEq, Prod.mk.injEq] at h
    exact ⟨i, rfl, h.1, h.2.1, h.2.2⟩
theorem makeF (n : Nat) (hn : n ≤ 1048576) (w : World) : (Instr.makeSlice 40 (.int .i64 (n : Int)) (.int .i64 (n : Int))).run Try.prog w = .ok (.slice (some ⟨w.heap.size, 0, none⟩) n n) (w.alloc (.cells (ftab .f32 (fun _ => 0) n) 22)) := by
  obtain ⟨i, h1, h2, h3, h4⟩ := info36
  rw [← made_tab]
  exact run_make_row (P := Try.prog) 40 22 i (.float .f32 0) (by rw [Try.underlying40]) h1 h2 h3 rfl .i64 .i64 n (by rw [h4]; omega) (by omega) w
set_option maxHeartbeats 1000000 in
theorem toS_some (a : Addr) (cap : Nat) (x : Nat → Nat) (n : Nat) (w : World) (hc : n ≤ cap) (hx : ∀ i, i < n → w.cell? (a.add i) = some (.float .f32 (x i))) (hn : n ≤ 1048576) :
    Calls Try.prog 29 #[.slice (some a) n cap] w fun e w' => e = .returned (.slice (some ⟨w.heap.size, 0, none⟩) n n) ∧ Row w' w.heap.size 22 (ftab .f32 x n) ∧ le w w' := by
  have HX := hid hx; clear hx
  have HM := fun w => makeF n hn w
  go_enter Try.func29, Try.ntmps29
  go_wp2
  go_loopw [4] (fun i wr => ∃ k : Nat, k ≤ n ∧ i = .int .i64 k ∧ Hid (Row wr w.heap.size 22 (ftab .f32 (fun j => if j < k then x j else 0) n)) ∧ Hid (le w wr)) (fun i _ => n - (intOf i).toNat)
  case atStart =>
    exact ⟨0, by omega, rfl, Row.new w _ _, le_alloc w _⟩
  case round =>
    obtain ⟨k, hk, rfl, HO, HB⟩ := hrel
    by_cases hlt : k < n
    · rename_i wr _
      have c1 : wr.cell? (a.add k) = some (.float .f32 (x k)) := (Below.cell HB.out (cell_lt (HX.out k hlt))).trans (HX.out k hlt)
      have c2 := HO.out.ftab hlt
      have f2 := HO.out.frozen k
      go_wp2
      go_roundw
      case rel =>
        refine ⟨k + 1, by omega, by go_num, ?_, Below.setCell HB.out (Nat.le_refl _) _⟩
        have h := HO.out.set k (.float .f32 (x k))
        rw [set_ftab] at h
        rw [show (fun j => if j < k + 1 then x j else 0) = (fun j => if j = k then x k else if j < k then x j else 0) from ?_]
        · exact h
        · funext j
          by_cases e : j = k
          · subst e; simp
          · simp [e, show (j < k + 1) = (j < k) by simp; omega]
      case measure => simp [intOf]; omega
    · obtain rfl : k = n := by omega
      have hO := HO.out
      rw [show ftab .f32 (fun j => if j < k then x j else 0) k = ftab .f32 x k from ftab_congr (fun j hj => if_pos hj)] at hO
      have HO := hid hO
      clear hO
      go_wp2
      go_ret
      exact ⟨rfl, HO.out, HB.out⟩
theorem toS_nil (x : Nat → Nat) (w : World) :
    Calls Try.prog 29 #[.slice none 0 0] w fun e w' => e = .returned (.slice (some ⟨w.heap.size, 0, none⟩) 0 0) ∧ Row w' w.heap.size 22 (ftab .f32 x 0) ∧ le w w' := by
  have HM := fun w => makeF 0 (by omega) w
  simp only [Int.natCast_zero] at HM
  have HR : ∀ w : World, Hid (Row (w.alloc (.cells (ftab .f32 (fun _ => 0) 0) 22)) w.heap.size 22 (ftab .f32 x 0)) := fun w => Row.new w _ _
  have HR := HR w
  have HL := hid (le_alloc w (.cells (ftab .f32 (fun _ => 0) 0) 22))
  go_enter Try.func29, Try.ntmps29
  go_wp2
  go_loopw [4] (fun i wr => i = .int .i64 0 ∧ wr = w.alloc (.cells (ftab .f32 (fun _ => 0) 0) 22)) (fun i _ => 0)
  case atStart => exact ⟨rfl, rfl⟩
  case round =>
    obtain ⟨rfl, rfl⟩ := hrel
    go_wp2
    go_ret
    exact ⟨rfl, HR.out, HL.out⟩
theorem toS (v : Value) (x : Nat → Nat) (n : Nat) (w : World) (hv : SlIn w v x n) (hn : n ≤ 1048576) :
    Calls Try.prog 29 #[v] w fun e w' => e = .returned (.slice (some ⟨w.heap.size, 0, none⟩) n n) ∧ Row w' w.heap.size 22 (ftab .f32 x n) ∧ le w w' := by
  rcases hv with ⟨rfl, rfl⟩ | ⟨a, cap, rfl, hc, hg, hx⟩
  · exact toS_nil x w
  · exact toS_some a cap x n w hc (fun i hi => (hx i hi).1) hn
set_option maxHeartbeats 1000000 in
theorem eqS_yes (g o cap g' o' cap' : Nat) (x y : Nat → Nat) (n : Nat) (w : World) (hn : n ≤ 1048576) (hc : n ≤ cap) (hc' : n ≤ cap') (hx : ∀ i, i < n → w.cell? ⟨g, o + i, none⟩ = some (.float .f32 (x i))) (hy : ∀ i, i < n → w.cell? ⟨g', o' + i, none⟩ = some (.float .f32 (y i))) (h : ∀ j, j < n → can .f32 (x j) = can .f32 (y j)) :
    Calls Try.prog 31 #[.slice (some ⟨g, o, none⟩) n cap, .slice (some ⟨g', o', none⟩) n cap'] w fun e w' => e = .returned (.bool true) ∧ ∃ m, w' = w.drewN m := by
  have H := hid h; clear h
  have HX := hid hx; have HY := hid hy; clear hx hy
  go_enter Try.func31, Try.ntmps31
  go_wp2
  go_loopw [5] (fun i wr => ∃ k : Nat, k ≤ n ∧ i = .int .i64 k ∧ ∃ m, wr = w.drewN m) (fun i _ => n - (intOf i).toNat)
  case atStart => exact ⟨0, by omega, rfl, 0, rfl⟩
  case round =>
    obtain ⟨k, hk, rfl, m, rfl⟩ := hrel
    by_cases hlt : k < n
    · have c1 := HX.out k hlt
      have c2 := HY.out k hlt
      have hxy := hid (H.out k hlt)
      generalize x k = p at *
      generalize y k = q at *
      go_wp2_with fail
      refine wp_region_loose (fun _ _ v => v = .bool true) (by kernel_rfl) (by kernel_rfl) ?_
      repeat (first | (with_reducible refine wpLoose_widen rfl rfl rfl Try.underlying22 Try.underlying63 ?_; intro r hr hf; simp only [Act.put, List.setIfInBounds_toArray, List.set_cons_succ, List.set_cons_zero]) | (refine wpLoose_quiet rfl ?_; go_big_quiet_step (fail); refine wpQuiet_nil ?_))
      refine wpLoose_any rfl (· = .bool true) (fun m0 => ?_) ?_
      · go_simp
        have hr1 := ‹Hid (can .f64 _ = can .f64 (widen p))›
        refine (sameFloat_yes _ _ _ (hr1.out.trans ((congrArg (can .f64) (widen_congr hxy.out)).trans hr.out.symm))).mono ?_
        rintro e w2 ⟨rfl, m2, rfl⟩
        exact ⟨_, rfl, rfl, m0 + m2, by go_simp; rw [Nat.add_assoc]⟩
      · rintro v rfl
        simp only [Act.put, List.setIfInBounds_toArray, List.set_cons_succ, List.set_cons_zero]
        repeat (refine wpLoose_quiet rfl ?_; go_big_quiet_step (fail); refine wpQuiet_nil ?_)
        refine wpLoose_nil (fun m1 => ?_)
        go_wp2
        go_roundw
        case rel => exact ⟨k + 1, by omega, by go_num, _, rfl⟩
        case measure => simp [intOf]; omega
    · obtain rfl : k = n := by omega
      go_wp2
      go_ret
      exact ⟨rfl, _, rfl⟩
end Go.Proofs.Ytmacednkpjfokaa

/- Rings: 'NewRing' of both. -/
namespace Go.Fk
open Go Go.RowKit
/-- The cells of a ring. -/
def ringC (s : Value) (at' : Int) : Array Value := #[s, .int .i64 at']
def OutR (n : Nat) (w : World) (e : Ending) (w' : World) : Prop := ∃ b, e = .returned (.tuple #[.agg #[.slice (some ⟨b, 0, none⟩) n n, .int .i64 0], .int .i64 0]) ∧ w.heap.size ≤ b ∧ le w w' ∧ Row w' b 22 (ftab .f32 (fun _ => 0) n)
def OutR0 (w : World) (e : Ending) (w' : World) : Prop := e = .returned (.tuple #[.agg #[.slice none 0 0, .int .i64 0], .int .i64 2]) ∧ le w w'
end Go.Fk
namespace Go.Proofs.Ytmacednkpjfokaa
open Go.RowKit Go.Fk
theorem infoRing : (Try.prog.info? 46).map (·.size) = some 2 := by kernel_rfl
end Go.Proofs.Ytmacednkpjfokaa

/- The value of a float as a whole number of its smallest units; order, and the way to integers, by it. Nothing here names a program. -/
namespace Go.Fk
open Go Go.RowKit

def unitOf : FloatKind → Nat
  | .f32 => 149
  | .f64 => 1074
/-- Where an infinity is put. -/
def farE : Nat := 3000
theorem farE_ge : 2200 ≤ farE := by decide
def far : Nat := 2 ^ farE
theorem far_pos : 0 < far := Nat.two_pow_pos _
/-- How many smallest units a word stands for; an infinity stands far away. -/
def val (k : FloatKind) (b : Nat) : Int := match k.format.read b with
  | .number s m e => Ieee.signed s m (e + unitOf k).toNat
  | .infinity s => if s then -(far : Int) else far
  | .nan _ _ => 0

theorem signed_eq (s : Bool) (m up : Nat) : Ieee.signed s m up = (if s then -(m : Int) else (m : Int)) * 2 ^ up := by
  unfold Ieee.signed
  rw [Nat.shiftLeft_eq]
  cases s <;> simp [Int.neg_mul]

theorem least_eq (k : FloatKind) : k.format.leastPlace = -(unitOf k : Int) := by cases k <;> decide
theorem read_place {k : FloatKind} {b : Nat} {s : Bool} {m : Nat} {e : Int} (h : k.format.read b = .number s m e) : -(unitOf k : Int) ≤ e := by
  have e4 := least_eq k
  unfold Ieee.Format.read at h
  dsimp only at h
  split at h
  · simp only [Ieee.Datum.number.injEq] at h; omega
  · split at h
    · simp only [Ieee.Datum.number.injEq] at h; omega
    · split at h <;> cases h

theorem val_small {k : FloatKind} {b : Nat} {s : Bool} {m : Nat} {e : Int} (h : k.format.read b = .number s m e) : -(far : Int) < val k b ∧ val k b < far := by
  have hv : val k b = Ieee.signed s m (e + unitOf k).toNat := by simp only [val, h]
  have hp := read_place h
  have key : m * 2 ^ (e + unitOf k).toNat < far := by
    unfold far
    by_cases m0 : m = 0
    · subst m0; rw [Nat.zero_mul]; exact Nat.two_pow_pos _
    · have hm : e + m.log2 + 1 ≤ 1024 := by
        cases k
        · have := lt32 h m0; omega
        · exact lt64 h m0
      have hu : unitOf k ≤ 1074 := by cases k <;> decide
      calc m * 2 ^ (e + unitOf k).toNat < 2 ^ (m.log2 + 1) * 2 ^ (e + unitOf k).toNat := Nat.mul_lt_mul_of_pos_right Nat.lt_log2_self (Nat.two_pow_pos _)
        _ = 2 ^ (m.log2 + 1 + (e + unitOf k).toNat) := by rw [← Nat.pow_add]
        _ ≤ 2 ^ farE := Nat.pow_le_pow_right (by omega) (by have := farE_ge; omega)
  have hc : ((m * 2 ^ (e + unitOf k).toNat : Nat) : Int) < (far : Int) := Int.ofNat_lt.2 key
  have hn : (0 : Int) ≤ ((m * 2 ^ (e + unitOf k).toNat : Nat) : Int) := Int.natCast_nonneg _
  have hv2 : val k b = if s then -((m * 2 ^ (e + unitOf k).toNat : Nat) : Int) else ((m * 2 ^ (e + unitOf k).toNat : Nat) : Int) := by
    rw [hv]; unfold Ieee.signed; rw [Nat.shiftLeft_eq]
  generalize ((m * 2 ^ (e + unitOf k).toNat : Nat) : Int) = v at *
  generalize (far : Int) = big at *
  rw [hv2]
  cases s <;> simp <;> omega

theorem compare_mul (a b c : Int) (hc : 0 < c) : compare (a * c) (b * c) = compare a b := by
  rcases Int.lt_trichotomy a b with h | h | h
  · rw [Int.compare_eq_lt.2 h, Int.compare_eq_lt.2 (Int.mul_lt_mul_of_pos_right h hc)]
  · subst h; rw [Int.compare_eq_eq.2 rfl, Int.compare_eq_eq.2 rfl]
  · rw [Int.compare_eq_gt.2 h, Int.compare_eq_gt.2 (Int.mul_lt_mul_of_pos_right h hc)]

theorem order_val {k : FloatKind} {x y : Nat} (hx : isNan k x = false) (hy : isNan k y = false) : k.format.order x y = some (compare (val k x) (val k y)) := by
  have big : (0 : Int) < (far : Int) := Int.ofNat_lt.2 far_pos
  unfold isNan at hx hy
  unfold Ieee.Format.order
  cases hrx : k.format.read x with
  | nan s t => rw [hrx] at hx; simp [Ieee.Datum.isNaN] at hx
  | infinity s =>
    have vx : val k x = if s then -(far : Int) else far := by simp only [val, hrx]
    cases hry : k.format.read y with
    | nan s t => rw [hry] at hy; simp [Ieee.Datum.isNaN] at hy
    | infinity t =>
      have vy : val k y = if t then -(far : Int) else far := by simp only [val, hry]
      rw [vx, vy]
      generalize (far : Int) = b at *
      simp only [Ieee.Datum.order, Option.some.injEq]
      cases s <;> cases t <;> simp only [if_true, Bool.false_eq_true, if_false]
      · rw [Int.compare_eq_eq.2 rfl]; rfl
      · rw [Int.compare_eq_gt.2 (by omega)]; rfl
      · rw [Int.compare_eq_lt.2 (by omega)]; rfl
      · rw [Int.compare_eq_eq.2 rfl]; rfl
    | number t n j =>
      have hv := val_small hry
      rw [vx]
      generalize (far : Int) = b at *
      simp only [Ieee.Datum.order, Option.some.injEq]
      cases s <;> simp
      · exact (Int.compare_eq_gt.2 (by omega)).symm
      · exact (Int.compare_eq_lt.2 (by omega)).symm
  | number s m i =>
    cases hry : k.format.read y with
    | nan s t => rw [hry] at hy; simp [Ieee.Datum.isNaN] at hy
    | infinity t =>
      have vy : val k y = if t then -(far : Int) else far := by simp only [val, hry]
      have hv := val_small hrx
      rw [vy]
      generalize (far : Int) = b at *
      simp only [Ieee.Datum.order, Option.some.injEq]
      cases t <;> simp
      · exact (Int.compare_eq_lt.2 (by omega)).symm
      · exact (Int.compare_eq_gt.2 (by omega)).symm
    | number t n j =>
      have pi := read_place hrx
      have pj := read_place hry
      simp only [Ieee.Datum.order, val, hrx, hry, Option.some.injEq]
      have e1 : Ieee.signed s m (i + unitOf k).toNat = Ieee.signed s m (i - min i j).toNat * 2 ^ (min i j + unitOf k).toNat := by
        rw [signed_eq, signed_eq, Int.mul_assoc, ← Int.pow_add]
        congr 2; omega
      have e2 : Ieee.signed t n (j + unitOf k).toNat = Ieee.signed t n (j - min i j).toNat * 2 ^ (min i j + unitOf k).toNat := by
        rw [signed_eq, signed_eq, Int.mul_assoc, ← Int.pow_add]
        congr 2; omega
      rw [e1, e2, compare_mul _ _ _ (Int.pow_pos (by omega))]

/-- Cut towards zero, a number is its units divided by those of 1. -/
theorem toInt_val {k : FloatKind} {b : Nat} {s : Bool} {m : Nat} {e : Int} (h : k.format.read b = .number s m e) :
    (k.decode b).toInt .zero = some ((val k b).tdiv (2 ^ unitOf k)) := by
  have hp := read_place h
  simp only [FloatKind.decode, h, val, Ieee.Datum.toInt, Ieee.Datum.integral, Option.some.injEq]
  have hcut : ∀ n d, Ieee.Toward.zero.cut s n d = n / 2 ^ d := by
    intro n d
    simp only [Ieee.Toward.cut, Bool.toNat_false, Nat.add_zero, Nat.one_shiftLeft]
    by_cases hd : d ≤ n.log2 + 2
    · rw [Nat.min_eq_left hd]
    · rw [Nat.min_eq_right (by omega)]
      have h1 : n < 2 ^ (n.log2 + 1) := Nat.lt_log2_self
      have h2 : 2 ^ (n.log2 + 1) ≤ 2 ^ (n.log2 + 2) := Nat.pow_le_pow_right (by omega) (by omega)
      have h3 : 2 ^ (n.log2 + 1) ≤ 2 ^ d := Nat.pow_le_pow_right (by omega) (by omega)
      rw [Nat.div_eq_of_lt (by omega), Nat.div_eq_of_lt (by omega)]
  rw [hcut]
  have e1 : m <<< e.toNat / 2 ^ (-e).toNat = m * 2 ^ (e + unitOf k).toNat / 2 ^ unitOf k := by
    rw [Nat.shiftLeft_eq]
    by_cases he : 0 ≤ e
    · rw [show (-e).toNat = 0 by omega, show (e + unitOf k).toNat = e.toNat + unitOf k by omega, Nat.pow_add, ← Nat.mul_assoc, Nat.mul_div_cancel _ (Nat.two_pow_pos _)]
      simp
    · rw [show e.toNat = 0 by omega]
      have : unitOf k = (-e).toNat + (e + unitOf k).toNat := by omega
      generalize hu : (e + unitOf k).toNat = u at *
      rw [this, Nat.pow_add, Nat.mul_div_mul_right _ _ (Nat.two_pow_pos _)]
      simp
  have e2 : ∀ X : Nat, Ieee.signed s X 0 = if s then -(X : Int) else (X : Int) := by intro X; unfold Ieee.signed; simp
  rw [e1, e2]
  have e3 : Ieee.signed s m (e + unitOf k).toNat = if s then -((m * 2 ^ (e + unitOf k).toNat : Nat) : Int) else ((m * 2 ^ (e + unitOf k).toNat : Nat) : Int) := by
    unfold Ieee.signed; rw [Nat.shiftLeft_eq]
  rw [e3]
  generalize m * 2 ^ (e + unitOf k).toNat = X
  have e4 : ((2 : Int) ^ unitOf k) = ((2 ^ unitOf k : Nat) : Int) := (Int.natCast_pow 2 _).symm
  rw [e4]
  cases s
  · simp only [Bool.false_eq_true, if_false]
    exact (Int.ofNat_tdiv _ _).symm
  · simp only [if_true, Int.neg_tdiv]
    rw [← Int.ofNat_tdiv]
end Go.Fk

/- Floats made whole (math.RoundToEven and its kin), up to the bits of NaN; that rounding gives no NaN; floats to integers by value. Nothing here names a program. -/
namespace Go.Fk
open Go Go.RowKit

theorem infRung_word (k : FloatKind) (s : Bool) {r : Nat} (h : r ≤ k.format.infRung) : isNan k (k.format.word s r) = false := by
  have hs : k.format.infRung < k.format.signWeight := Ieee.Format.infRung_lt _
  cases k
  · have e2 : Ieee.single.infRung = 2139095040 := by decide
    have e1 : Ieee.single.signWeight = 2147483648 := by decide
    have hw := word_mod Ieee.single s (r := r) (Nat.lt_of_le_of_lt h hs)
    rw [e1] at hw
    have hw' : FloatKind.f32.format.word s r % 2147483648 = r := hw
    have h' : r ≤ 2139095040 := Nat.le_trans h (Nat.le_of_eq e2)
    rw [isNan_f32, decide_eq_false_iff_not]; omega
  · have e2 : Ieee.double.infRung = 9218868437227405312 := by decide
    have e1 : Ieee.double.signWeight = 9223372036854775808 := by decide
    have hw := word_mod Ieee.double s (r := r) (Nat.lt_of_le_of_lt h hs)
    rw [e1] at hw
    have hw' : FloatKind.f64.format.word s r % 9223372036854775808 = r := hw
    have h' : r ≤ 9218868437227405312 := Nat.le_trans h (Nat.le_of_eq e2)
    rw [isNan_f64, decide_eq_false_iff_not]; omega
theorem isNan_nearest (k : FloatKind) (s : Bool) (m : Nat) (e : Int) : isNan k (k.format.nearest s m e) = false := by
  unfold Ieee.Format.nearest
  split
  · exact infRung_word k s (Nat.zero_le _)
  · exact infRung_word k s (Nat.min_le_right _ _)
theorem isNan_encode (k : FloatKind) {d : Ieee.Datum} (h : d.isNaN = false) : isNan k (k.encode d) = false := by
  cases d with
  | number s m e => exact isNan_nearest k s m e
  | infinity s => exact infRung_word k s (Nat.le_refl _)
  | nan s t => simp [Ieee.Datum.isNaN] at h

theorem isNan_widen (b : Nat) : isNan .f64 (widen b) = isNan .f32 b := by
  cases hr : FloatKind.f32.format.read b with
  | nan s t => simp only [widen, hr, isNan_qnan]; simp [isNan, hr, Ieee.Datum.isNaN]
  | infinity s => simp only [widen, hr]; rw [isNan_encode _ rfl]; simp [isNan, hr, Ieee.Datum.isNaN]
  | number s m e => simp only [widen, hr]; rw [isNan_encode _ rfl]; simp [isNan, hr, Ieee.Datum.isNaN]

/-- A number made whole, up to the bits of NaN. -/
def integ (way : Ieee.Toward) (b : Nat) : Nat := match FloatKind.f64.decode b with
  | .nan _ _ => qnan .f64
  | d => FloatKind.f64.encode (d.integral way)
theorem integ_can (way : Ieee.Toward) (b : Nat) : integ way (can .f64 b) = integ way b := by
  cases h : isNan .f64 b
  · rw [can_of_not h]
  · rw [can_of_nan h]
    obtain ⟨s, t, hr⟩ := read_nan h
    obtain ⟨s', t', hr'⟩ := read_nan (isNan_qnan .f64)
    simp only [integ, FloatKind.decode, hr, hr']
theorem isNan_integ (way : Ieee.Toward) (b : Nat) : isNan .f64 (integ way b) = isNan .f64 b := by
  cases hr : FloatKind.f64.format.read b with
  | nan s t => simp only [integ, FloatKind.decode, hr, isNan_qnan]; simp [isNan, hr, Ieee.Datum.isNaN]
  | infinity s => simp only [integ, FloatKind.decode, hr]; rw [isNan_encode _ rfl]; simp [isNan, hr, Ieee.Datum.isNaN]
  | number s m e => simp only [integ, FloatKind.decode, hr]; rw [isNan_encode _ rfl]; simp [isNan, hr, Ieee.Datum.isNaN]

/-- A quiet NaN is one. -/
theorem isNan_quiet (s : Bool) (b t : Nat) (h : FloatKind.f64.format.read b = .nan s t) :
    isNan .f64 (FloatKind.f64.encode (.nan s (FloatKind.f64.format.quiet t))) = true := by
  have e1 : Ieee.double.signWeight = 9223372036854775808 := by decide
  have e2 : Ieee.double.infRung = 9218868437227405312 := by decide
  have e3 : Ieee.double.binade = 4503599627370496 := by decide
  have hq : (t ||| 2251799813685248) % 4503599627370496 ≠ 0 := by
    intro h0
    have h1 : ((t ||| 2251799813685248) % 2 ^ 52).testBit 51 = false := by rw [show (2 : Nat) ^ 52 = 4503599627370496 by decide, h0]; simp
    rw [Nat.testBit_mod_two_pow, Nat.testBit_or, show (2251799813685248 : Nat) = 2 ^ 51 by decide, Nat.testBit_two_pow_self] at h1
    simp at h1
  rw [isNan_f64]
  simp only [FloatKind.encode, Ieee.Format.write, FloatKind.format, Ieee.Format.quiet, e2, e3]
  rw [show (2 : Nat) ^ (Ieee.double.fractionBits - 1) = 2251799813685248 by decide]
  have hlt : (t ||| 2251799813685248) % 4503599627370496 < 4503599627370496 := Nat.mod_lt _ (by omega)
  generalize (t ||| 2251799813685248) % 4503599627370496 = q at *
  have hw := word_mod Ieee.double s (r := 9218868437227405312 + q) (by rw [e1]; omega)
  rw [e1] at hw
  rw [hw, decide_eq_true_iff]
  omega

theorem toIntegral_eq (name : String) (way : Ieee.Toward) (x : Nat) : Extern.MathFloor.toIntegral name way #[.float .f64 x] = ((match FloatKind.f64.decode x with
    | .nan s t =>
      if FloatKind.f64.format.quiet t = t then pure (Value.float .f64 x) else do
      let kept ← choose (.extern "math.Floor,Ceil,Trunc,RoundToEven.signallingNaN kept" 2)
      pure (Value.float .f64 (if kept == 1 then x else FloatKind.f64.encode (.nan s (FloatKind.f64.format.quiet t))))
    | d => pure (Value.float .f64 (FloatKind.f64.encode (d.integral way)))) : Sem Value) := rfl

theorem run_integral {P : Program} (name : String) (way : Ieee.Toward) (w : World) (b : Nat) (hb : fits .f64 b) :
    ∃ r n, (Extern.MathFloor.toIntegral name way #[.float .f64 b]).run P w = .ok (.float .f64 r) (w.drewN n) ∧ can .f64 r = can .f64 (integ way b) ∧ fits .f64 r := by
  cases hr : FloatKind.f64.format.read b with
  | nan s t =>
    have hn : isNan .f64 b = true := by simp [isNan, hr, Ieee.Datum.isNaN]
    have hi : integ way b = qnan .f64 := by simp only [integ, FloatKind.decode, hr]
    have hd : FloatKind.f64.decode b = .nan s t := hr
    by_cases hq : FloatKind.f64.format.quiet t = t
    · refine ⟨b, 0, ?_, by rw [hi, can_qnan, can_of_nan hn], hb⟩
      simp [toIntegral_eq, hd, hq]; rfl
    · by_cases hk : ((Question.extern "math.Floor,Ceil,Trunc,RoundToEven.signallingNaN kept" 2).cut (w.tape w.drawn (.extern "math.Floor,Ceil,Trunc,RoundToEven.signallingNaN kept" 2)) == 1) = true
      · refine ⟨b, 1, ?_, by rw [hi, can_qnan, can_of_nan hn], hb⟩
        simp only [beq_iff_eq] at hk
        simp [toIntegral_eq, hd, hq, Question.forced, hk]; rfl
      · refine ⟨FloatKind.f64.encode (.nan s (FloatKind.f64.format.quiet t)), 1, ?_, by rw [hi, can_qnan, can_of_nan (isNan_quiet s b t hr)], encode_wf _ _⟩
        simp only [beq_iff_eq] at hk
        simp [toIntegral_eq, hd, hq, Question.forced, hk]; rfl
  | infinity s =>
    have hd : FloatKind.f64.decode b = .infinity s := hr
    refine ⟨FloatKind.f64.encode (Ieee.Datum.integral way (.infinity s)), 0, ?_, by simp only [integ, hd], encode_wf _ _⟩
    simp [toIntegral_eq, hd]; rfl
  | number s m e =>
    have hd : FloatKind.f64.decode b = .number s m e := hr
    refine ⟨FloatKind.f64.encode (Ieee.Datum.integral way (.number s m e)), 0, ?_, by simp only [integ, hd], encode_wf _ _⟩
    simp [toIntegral_eq, hd]; rfl

/-- THE WALK's LAW for a call of a function without a body that gives a float. -/
theorem wpList_extern {P : Program} {w : World} {ops : Array Oper} {rest : List Oper} {o : Oper} {a : Act} {Q : Exit → Act → World → Prop}
    (hg : o.guard = none) {f : FuncId} {x : Operand} {ts : Array TypeId} (hop : o.op = Op.call { callee := Callee.value (Operand.func f), args := #[x], argTypes := ts })
    {k' : FloatKind} {q : Nat} (hx : a.eval x = .float k' q) (Res : Nat → Prop) {k : FloatKind}
    (hrun : ∀ w, ∃ r n, (callFunc f #[.float k' q]).run P w = .ok (.value (.float k r)) (w.drewN n) ∧ Res r)
    (hK : ∀ r n, Hid (Res r) → wpList P ops Q rest (a.put o.dst (.float k r)) (w.drewN n)) : wpList P ops Q (o :: rest) a w := by
  refine wpList_plain hg fun K hK' => ?_
  obtain ⟨r, n, hr, hres⟩ := hrun w
  unfold Oper.wp
  have hf : a.eval (Operand.func f) = .func (.func f) #[] #[] := rfl
  simp [execOp, hop, hx, hf, resolve, invoke, Deferred.ofValue, hr, Result.andThen]
  exact hK' _ _ (hK r n hres)

/-- A wide float to an integer of 16 bits. -/
theorem floatToInt_val {b : Nat} {k : IntKind} (hn : isNan .f64 b = false) (hlo : k.min * 2 ^ unitOf .f64 ≤ val .f64 b) (hhi : val .f64 b ≤ k.max * 2 ^ unitOf .f64)
    (hsmall : k.max * 2 ^ unitOf .f64 < far) (hsmall' : -(far : Int) < k.min * 2 ^ unitOf .f64) :
    floatToIntVal .f64 b k = some ((val .f64 b).tdiv (2 ^ unitOf .f64)) := by
  cases hr : FloatKind.f64.format.read b with
  | nan s t => simp [isNan, hr, Ieee.Datum.isNaN] at hn
  | infinity s =>
    have hv : val .f64 b = if s then -(far : Int) else far := by simp only [val, hr]
    rw [hv] at hlo hhi
    cases s <;> simp at hlo hhi <;> omega
  | number s m e =>
    have ht := toInt_val hr
    unfold floatToIntVal
    rw [ht]
    have hU : (0 : Int) < 2 ^ unitOf .f64 := Int.pow_pos (by omega)
    generalize (2 : Int) ^ unitOf .f64 = U at *
    generalize val .f64 b = v at *
    have h1 : k.min ≤ v.tdiv U := by
      have : k.min = (k.min * U).tdiv U := (Int.mul_tdiv_cancel _ (by omega)).symm
      rw [this]; exact Int.tdiv_le_tdiv hU hlo
    have h2 : v.tdiv U ≤ k.max := by
      have : k.max = (k.max * U).tdiv U := (Int.mul_tdiv_cancel _ (by omega)).symm
      rw [this]; exact Int.tdiv_le_tdiv hU hhi
    simp only [h1, h2, and_self, if_true]
end Go.Fk

/- Rings: what the laws do with them, marks and all. -/
namespace Go.Fk
open Go Go.RowKit
theorem isNan_int (z : Int) : isNan .f32 (floatOfInt .f32 z) = false := by
  unfold floatOfInt
  exact isNan_encode .f32 rfl
theorem same_int (z : Int) : (FloatKind.f32.format.order (floatOfInt .f32 z) (floatOfInt .f32 z) != some .eq) = false := by
  rw [order_ne, isNan_int]
/-- What a mark leaves. -/
def markW (m : Int) (j : Nat) : Nat := floatOfInt .f32 (m + j)
end Go.Fk
namespace Go.Proofs.Ytmacednkpjfokaa
open Go.RowKit Go.Fk
set_option maxHeartbeats 1000000 in
theorem markS (b n : Nat) (t : TypeId) (x : Nat → Nat) (w : World) (hn : n ≤ 1048576) (hr : Row w b t (ftab .f32 x n)) :
    Calls Try.prog 32 #[.slice (some ⟨b, 0, none⟩) n n, .int .i64 1] w fun e w' => e = .returned (.int .i64 (1 + n)) ∧ Row w' b t (ftab .f32 (markW 1) n) ∧ Upd b w w' := by
  have HR := hid hr; clear hr
  go_enter Try.func32, Try.ntmps32
  go_wp2
  go_loopw [1, 5] (fun m i wr => ∃ k : Nat, k ≤ n ∧ i = .int .i64 k ∧ m = .int .i64 (1 + k) ∧ Hid (Row wr b t (ftab .f32 (fun j => if j < k then markW 1 j else x j) n)) ∧ Hid (Upd b w wr)) (fun _ i _ => n - (intOf i).toNat)
  case atStart => exact ⟨0, by omega, rfl, rfl, HR, Upd.refl _ _⟩
  case round =>
    obtain ⟨k, hk, rfl, rfl, HO, HU⟩ := hrel
    by_cases hlt : k < n
    · have c2 := HO.out.ftab hlt
      have f2 := HO.out.frozen k
      go_wp2
      go_roundw
      case rel =>
        refine ⟨k + 1, by omega, by go_num, by go_num, ?_, Upd.setCell HU.out rfl _⟩
        have h := HO.out.set k (.float .f32 (markW 1 k))
        rw [set_ftab] at h
        rw [show (fun j => if j < k + 1 then markW 1 j else x j) = (fun j => if j = k then markW 1 k else if j < k then markW 1 j else x j) from ?_]
        · exact h
        · funext j
          by_cases e : j = k
          · subst e; simp
          · simp [e, show (j < k + 1) = (j < k) by simp; omega]
      case measure => simp [intOf]; omega
    · obtain rfl : k = n := by omega
      have hO := HO.out
      rw [show ftab .f32 (fun j => if j < k then markW 1 j else x j) k = ftab .f32 (markW 1) k from ftab_congr (fun j hj => if_pos hj)] at hO
      have HO := hid hO
      clear hO
      go_wp2
      go_ret
      exact ⟨rfl, HO.out, HU.out⟩
set_option maxHeartbeats 1000000 in
theorem heldS (b n : Nat) (t : TypeId) (w : World) (hn : n ≤ 1048576) (hr : Row w b t (ftab .f32 (markW 1) n)) :
    Calls Try.prog 38 #[.slice (some ⟨b, 0, none⟩) n n, .int .i64 1] w fun e w' => e = .returned (.int .i64 (1 + n)) ∧ w = w' := by
  have HR := hid hr; clear hr
  go_enter Try.func38, Try.ntmps38
  go_wp2
  go_loop [1, 5] (fun m i => ∃ k : Nat, k ≤ n ∧ i = .int .i64 k ∧ m = .int .i64 (1 + k)) (fun _ i => n - (intOf i).toNat)
  case atStart => exact ⟨0, by omega, rfl, rfl⟩
  case round =>
    obtain ⟨k, hk, rfl, rfl⟩ := hrel
    by_cases hlt : k < n
    · have c2 : w.cell? ⟨b, k, none⟩ = some (.float .f32 (floatOfInt .f32 (1 + k))) := HR.out.ftab hlt
      have e2 := same_int (1 + k)
      go_wp2
      go_round
      case rel => exact ⟨k + 1, by omega, by go_num, by go_num⟩
      case measure => simp [intOf]; omega
    · obtain rfl : k = n := by omega
      go_wp2
      go_ret
      exact ⟨rfl, rfl⟩
theorem markRing_any (b n : Nat) (t : TypeId) (x : Nat → Nat) (k : Int) (w : World) (hn : n ≤ 1048576) (hr : Row w b t (ftab .f32 x n)) :
    Calls Try.prog 72 #[.agg #[.slice (some ⟨b, 0, none⟩) n n, .int .i64 k], .int .i64 1] w fun e w' => e = .returned (.int .i64 (1 + n)) ∧ Row w' b t (ftab .f32 (markW 1) n) ∧ Upd b w w' := by
  have HR := hid hr; clear hr
  go_enter Try.func72, Try.ntmps72
  go_wp2_with (go_at_call 32; ((with_reducible refine (markS b n t x _ hn (HR.out.le (le_alloc _ _))).mono ?_); rintro e w2 ⟨rfl, hR, hU⟩; have HR2 := hid hR; have HU := hid (Upd.trans (Upd.of_le (le_alloc _ _)) hU); clear hR hU))
  go_ret
  exact ⟨rfl, HR2.out, HU.out⟩
theorem heldRing_any (b n : Nat) (t : TypeId) (k : Int) (w : World) (hn : n ≤ 1048576) (hr : Row w b t (ftab .f32 (markW 1) n)) :
    Calls Try.prog 73 #[.agg #[.slice (some ⟨b, 0, none⟩) n n, .int .i64 k], .int .i64 1] w fun e w' => e = .returned (.int .i64 (1 + n)) ∧ le w w' := by
  have HR := hid hr; clear hr
  have HL := hid (le_alloc w (.cells #[.slice (some ⟨b, 0, none⟩) n n, .int .i64 k] 46))
  go_enter Try.func73, Try.ntmps73
  go_wp2_with (go_at_call 38; ((with_reducible refine (heldS b n t _ hn (HR.out.le (le_alloc _ _))).mono ?_); rintro e w2 ⟨rfl, rfl⟩))
  go_ret
  exact ⟨rfl, HL.out⟩
theorem eqRing_yes (b b' n : Nat) (t t' : TypeId) (x y : Nat → Nat) (k : Int) (w : World) (hn : n ≤ 1048576) (hr : Row w b t (ftab .f32 x n)) (hr' : Row w b' t' (ftab .f32 y n)) (h : ∀ j, j < n → can .f32 (x j) = can .f32 (y j)) :
    Calls Try.prog 71 #[.agg #[.slice (some ⟨b, 0, none⟩) n n, .int .i64 k], .agg #[.slice (some ⟨b', 0, none⟩) n n, .int .i64 k]] w fun e w' => e = .returned (.bool true) ∧ le w w' := by
  have HR := hid hr; have HR' := hid hr'; have H := hid h; clear hr hr' h
  have F := ((Frm.nil w).box 46 #[.slice (some ⟨b, 0, none⟩) n n, .int .i64 k]).box 46 #[.slice (some ⟨b', 0, none⟩) n n, .int .i64 k]
  have HL := hid F.below
  have HX := hid (fun (i : Nat) (hi : i < n) => (((HR.out.alloc (.cells #[.slice (some ⟨b, 0, none⟩) n n, .int .i64 k] 46)).alloc (.cells #[.slice (some ⟨b', 0, none⟩) n n, .int .i64 k] 46)).ftab hi))
  have HY := hid (fun (i : Nat) (hi : i < n) => (((HR'.out.alloc (.cells #[.slice (some ⟨b, 0, none⟩) n n, .int .i64 k] 46)).alloc (.cells #[.slice (some ⟨b', 0, none⟩) n n, .int .i64 k] 46)).ftab hi))
  clear F
  go_enter Try.func71, Try.ntmps71
  go_wp2_with (go_at_call 31; ((with_reducible refine (eqS_yes b 0 n b' 0 n x y n _ hn (Nat.le_refl _) (Nat.le_refl _) (fun i hi => by rw [Nat.zero_add]; exact HX.out i hi) (fun i hi => by rw [Nat.zero_add]; exact HY.out i hi) H.out).mono ?_); rintro e w2 ⟨rfl, m, rfl⟩))
  go_ret
  exact ⟨rfl, le_trans HL.out (le_drewN _ _)⟩
theorem markS_nil (w : World) : Calls Try.prog 32 #[.slice none 0 0, .int .i64 1] w fun e w' => e = .returned (.int .i64 1) ∧ w = w' := by
  go_enter Try.func32, Try.ntmps32
  go_wp2
  go_loop [1, 5] (fun m i => m = .int .i64 1 ∧ i = .int .i64 0) (fun _ _ => 0)
  case atStart => exact ⟨rfl, rfl⟩
  case round =>
    obtain ⟨rfl, rfl⟩ := hrel
    go_wp2
    go_ret
    exact ⟨rfl, rfl⟩
theorem heldS_nil (w : World) : Calls Try.prog 38 #[.slice none 0 0, .int .i64 1] w fun e w' => e = .returned (.int .i64 1) ∧ w = w' := by
  go_enter Try.func38, Try.ntmps38
  go_wp2
  go_loop [1, 5] (fun m i => m = .int .i64 1 ∧ i = .int .i64 0) (fun _ _ => 0)
  case atStart => exact ⟨rfl, rfl⟩
  case round =>
    obtain ⟨rfl, rfl⟩ := hrel
    go_wp2
    go_ret
    exact ⟨rfl, rfl⟩
theorem eqS_nil (w : World) : Calls Try.prog 31 #[.slice none 0 0, .slice none 0 0] w fun e w' => e = .returned (.bool true) ∧ w = w' := by
  go_enter Try.func31, Try.ntmps31
  go_wp2
  go_loop [5] (fun i => i = .int .i64 0) (fun _ => 0)
  case atStart => rfl
  case round =>
    obtain rfl := hrel
    go_wp2
    go_ret
    exact ⟨rfl, rfl⟩
theorem markRing_nil (k : Int) (w : World) : Calls Try.prog 72 #[.agg #[.slice none 0 0, .int .i64 k], .int .i64 1] w fun e w' => e = .returned (.int .i64 1) ∧ le w w' := by
  have HL := hid (le_alloc w (.cells #[.slice none 0 0, .int .i64 k] 46))
  go_enter Try.func72, Try.ntmps72
  go_wp2_with (go_at_call 32; ((with_reducible refine (markS_nil _).mono ?_); rintro e w2 ⟨rfl, rfl⟩))
  go_ret
  exact ⟨rfl, HL.out⟩
theorem heldRing_nil (k : Int) (w : World) : Calls Try.prog 73 #[.agg #[.slice none 0 0, .int .i64 k], .int .i64 1] w fun e w' => e = .returned (.int .i64 1) ∧ le w w' := by
  have HL := hid (le_alloc w (.cells #[.slice none 0 0, .int .i64 k] 46))
  go_enter Try.func73, Try.ntmps73
  go_wp2_with (go_at_call 38; ((with_reducible refine (heldS_nil _).mono ?_); rintro e w2 ⟨rfl, rfl⟩))
  go_ret
  exact ⟨rfl, HL.out⟩
theorem eqRing_nil (k : Int) (w : World) : Calls Try.prog 71 #[.agg #[.slice none 0 0, .int .i64 k], .agg #[.slice none 0 0, .int .i64 k]] w fun e w' => e = .returned (.bool true) ∧ le w w' := by
  have F := ((Frm.nil w).box 46 #[.slice none 0 0, .int .i64 k]).box 46 #[.slice none 0 0, .int .i64 k]
  have HL := hid F.below
  clear F
  go_enter Try.func71, Try.ntmps71
  go_wp2_with (go_at_call 31; ((with_reducible refine (eqS_nil _).mono ?_); rintro e w2 ⟨rfl, rfl⟩))
  go_ret
  exact ⟨rfl, HL.out⟩
end Go.Proofs.Ytmacednkpjfokaa

/- Slices of floats in the laws' helpers: 'szFloat32S', 'toFloat32S', 'eqFloat32S', 'markFloat32S', 'heldFloat32S', over facts of memory. -/
namespace Go.Fk
open Go Go.RowKit
theorem can_int (z : Int) : can .f32 (floatOfInt .f32 z) = floatOfInt .f32 z := can_of_not (isNan_int z)
theorem RdS.slIn {w : World} {B : Nat} {v : Value} {x : Nat → Nat} {n : Nat} (h : RdS w B v x n) : ∃ y, SlIn w v y n ∧ ∀ i, i < n → can .f32 (y i) = x i := by
  rcases h with ⟨rfl, rfl⟩ | ⟨a, cap, rfl, h2, h3, h4⟩
  · exact ⟨fun _ => 0, .inl ⟨rfl, rfl⟩, fun i hi => absurd hi (by omega)⟩
  · have : ∀ i, ∃ y, i < n → w.cell? (a.add i) = some (.float .f32 y) ∧ fits .f32 y ∧ can .f32 y = x i := fun i => by
      by_cases hi : i < n
      · obtain ⟨_, y, e⟩ := h4 i hi; exact ⟨y, fun _ => e⟩
      · exact ⟨0, fun h => absurd h hi⟩
    obtain ⟨y, hy⟩ := Classical.skolem.1 this
    exact ⟨y, .inr ⟨a, cap, rfl, h2, h3, fun i hi => ⟨(hy i hi).1, (hy i hi).2.1⟩⟩, fun i hi => (hy i hi).2.2⟩
theorem same_of_can {y : Nat} {z : Int} (h : can .f32 y = floatOfInt .f32 z) : y = floatOfInt .f32 z :=
  (eq_of_can ((can_int z).trans h.symm) (isNan_int z)).symm
end Go.Fk
namespace Go.Proofs.Ytmacednkpjfokaa
open Go.RowKit Go.Fk
theorem toR (B : Nat) (v : Value) (x : Nat → Nat) (n : Nat) (w : World) (hv : RdS w B v x n) (hn : n ≤ 1048576) :
    Calls Try.prog 29 #[v] w fun e w' => ∃ s, e = .returned s ∧ OwnS w' w.heap.size w'.heap.size s x n ∧ le w w' := by
  obtain ⟨y, hy, hc⟩ := hv.slIn
  have hf : ∀ i, i < n → fits .f32 (y i) := by
    rcases hy with ⟨_, rfl⟩ | ⟨a, cap, _, _, _, h4⟩
    · intro i hi; omega
    · intro i hi; exact (h4 i hi).2
  refine (toS v y n w hy hn).mono ?_
  rintro e w' ⟨rfl, hr, hl⟩
  exact ⟨_, rfl, .inr ⟨_, 0, n, _, rfl, Nat.le_refl _, by unfold maxLen; omega, Nat.le_refl _, hr.lt, hr, fun i hi => ⟨y i, by rw [Nat.zero_add]; exact get_ftab _ _ _ _ hi, hf i hi, hc i hi⟩⟩, hl⟩
set_option maxHeartbeats 1000000 in
theorem eqR (B B' : Nat) (s s' : Value) (x : Nat → Nat) (n : Nat) (w : World) (hn : n ≤ 1048576) (hs : RdS w B s x n) (hs' : RdS w B' s' x n) :
    Calls Try.prog 31 #[s, s'] w fun e w' => e = .returned (.bool true) ∧ ∃ m, w' = w.drewN m := by
  by_cases h0 : n = 0
  · subst h0
    rcases hs with ⟨rfl, _⟩ | ⟨a, cap, rfl, hc, hg, hx⟩ <;> rcases hs' with ⟨rfl, _⟩ | ⟨a', cap', rfl, hc', hg', hx'⟩
    all_goals
      try clear hx
      try clear hx'
      go_enter Try.func31, Try.ntmps31
      go_wp2
      go_loop [5] (fun i => i = .int .i64 0) (fun _ => 0)
      case atStart => rfl
      case round =>
        obtain rfl := hrel
        go_wp2
        go_ret
        exact ⟨rfl, 0, rfl⟩
  rcases hs with ⟨_, h⟩ | ⟨a, cap, rfl, hc, hg, hx⟩
  · exact absurd h h0
  rcases hs' with ⟨_, h⟩ | ⟨a', cap', rfl, hc', hg', hx'⟩
  · exact absurd h h0
  have HX := hid hx; have HY := hid hx'; clear hx hx' h0
  go_enter Try.func31, Try.ntmps31
  go_wp2
  go_loopw [5] (fun i wr => ∃ k : Nat, k ≤ n ∧ i = .int .i64 k ∧ ∃ m, wr = w.drewN m) (fun i _ => n - (intOf i).toNat)
  case atStart => exact ⟨0, by omega, rfl, 0, rfl⟩
  case round =>
    obtain ⟨k, hk, rfl, m, rfl⟩ := hrel
    by_cases hlt : k < n
    · obtain ⟨_, p, c1, _, e1⟩ := HX.out k hlt
      obtain ⟨_, q, c2, _, e2⟩ := HY.out k hlt
      have hxy := hid (e1.trans e2.symm)
      clear e1 e2
      go_wp2_with fail
      refine wp_region_loose (fun _ _ v => v = .bool true) (by kernel_rfl) (by kernel_rfl) ?_
      repeat (first | (with_reducible refine wpLoose_widen rfl rfl rfl Try.underlying22 Try.underlying63 ?_; intro r hr hf; simp only [Act.put, List.setIfInBounds_toArray, List.set_cons_succ, List.set_cons_zero]) | (refine wpLoose_quiet rfl ?_; go_big_quiet_step (fail); refine wpQuiet_nil ?_))
      refine wpLoose_any rfl (· = .bool true) (fun m0 => ?_) ?_
      · go_simp
        have hr1 := ‹Hid (can .f64 _ = can .f64 (widen p))›
        refine (sameFloat_yes _ _ _ (hr1.out.trans ((congrArg (can .f64) (widen_congr hxy.out)).trans hr.out.symm))).mono ?_
        rintro e w2 ⟨rfl, m2, rfl⟩
        exact ⟨_, rfl, rfl, m0 + m2, by go_simp; rw [Nat.add_assoc]⟩
      · rintro v rfl
        simp only [Act.put, List.setIfInBounds_toArray, List.set_cons_succ, List.set_cons_zero]
        repeat (refine wpLoose_quiet rfl ?_; go_big_quiet_step (fail); refine wpQuiet_nil ?_)
        refine wpLoose_nil (fun m1 => ?_)
        go_wp2
        go_roundw
        case rel => exact ⟨k + 1, by omega, by go_num, _, rfl⟩
        case measure => simp [intOf]; omega
    · obtain rfl : k = n := by omega
      go_wp2
      go_ret
      exact ⟨rfl, _, rfl⟩
set_option maxHeartbeats 1000000 in
theorem markR (lo hi : Nat) (s : Value) (x : Nat → Nat) (n : Nat) (z : Int) (w : World) (hn : n ≤ 1048576) (hz : 0 ≤ z) (hz2 : z ≤ 1073741824) (hs : OwnS w lo hi s x n) :
    Calls Try.prog 32 #[s, .int .i64 z] w fun e w' => e = .returned (.int .i64 (z + n)) ∧ OwnS w' lo hi s (markW z) n ∧ Chg (rng lo hi) w w' ∧ w'.heap.size = w.heap.size := by
  rcases hs with ⟨rfl, rfl⟩ | ⟨b, o, cap, cs, rfl, hc, hg, hb, hb', hr, hx⟩
  · go_enter Try.func32, Try.ntmps32
    go_wp2
    go_loop [1, 5] (fun m i => m = .int .i64 z ∧ i = .int .i64 0) (fun _ _ => 0)
    case atStart => exact ⟨rfl, rfl⟩
    case round =>
      obtain ⟨rfl, rfl⟩ := hrel
      go_wp2
      go_ret
      exact ⟨ret_i (by simp), .inl ⟨rfl, rfl⟩, Chg.refl _ _, rfl⟩
  · have HR := hid hr; have HX := hid hx; clear hr hx
    go_enter Try.func32, Try.ntmps32
    go_wp2
    go_loopw [1, 5] (fun m i wr => ∃ k : Nat, k ≤ n ∧ i = .int .i64 k ∧ m = .int .i64 (z + k) ∧ Hid (∃ ds, Row wr b 22 ds ∧ ∀ j, j < n → ∃ y, ds[o + j]? = some (.float .f32 y) ∧ fits .f32 y ∧ (j < k → can .f32 y = markW z j)) ∧ Hid (Chg (rng lo hi) w wr ∧ wr.heap.size = w.heap.size)) (fun _ i _ => n - (intOf i).toNat)
    case atStart => exact ⟨0, by omega, rfl, by simp, ⟨cs, HR.out, fun j hj => by obtain ⟨y, e1, e2, _⟩ := HX.out j hj; exact ⟨y, e1, e2, fun h => absurd h (by omega)⟩⟩, Chg.refl _ _, rfl⟩
    case round =>
      obtain ⟨k, hk, rfl, rfl, HO, HU⟩ := hrel
      by_cases hlt : k < n
      · rename_i wr _
        obtain ⟨ds, hd, hy⟩ := HO.out
        obtain ⟨y0, c0, _⟩ := hy k hlt
        have c2 : wr.cell? ⟨b, o + k, none⟩ = some (.float .f32 y0) := (hd.cell? (o + k)).trans c0
        have f2 := hd.frozen (o + k)
        have HD := hid hd; have HY := hid hy; have HC := hid c0
        clear hd hy c0 HO
        go_wp2
        go_roundw
        case rel =>
          refine ⟨k + 1, by omega, by go_num, by go_num, ⟨_, HD.out.set (o + k) (.float .f32 (markW z k)), fun j hj => ?_⟩, Chg.setCell HU.out.1 ⟨hb, hb'⟩ _, by simpa using HU.out.2⟩
          by_cases e : j = k
          · subst e
            refine ⟨markW z j, ?_, ?_, fun _ => ?_⟩
            · rw [Array.getElem?_setIfInBounds_self_of_lt (Array.getElem?_eq_some_iff.1 HC.out).1]
            · exact floatOfInt_wf .f32 _
            · exact can_int _
          · obtain ⟨y, e1, e2, e3⟩ := HY.out j hj
            exact ⟨y, by rw [Array.getElem?_setIfInBounds_ne (by omega)]; exact e1, e2, fun h => e3 (by omega)⟩
        case measure => simp [intOf]; omega
      · obtain rfl : k = n := by omega
        go_wp2
        go_ret
        obtain ⟨ds, hd, hy⟩ := HO.out
        exact ⟨rfl, .inr ⟨b, o, cap, ds, rfl, hc, hg, hb, hb', hd, fun j hj => by obtain ⟨y, e1, e2, e3⟩ := hy j hj; exact ⟨y, e1, e2, e3 hj⟩⟩, HU.out.1, HU.out.2⟩
set_option maxHeartbeats 1000000 in
theorem heldR (B : Nat) (s : Value) (n : Nat) (z : Int) (w : World) (hn : n ≤ 1048576) (hz : 0 ≤ z) (hz2 : z ≤ 1073741824) (hs : RdS w B s (markW z) n) :
    Calls Try.prog 38 #[s, .int .i64 z] w fun e w' => e = .returned (.int .i64 (z + n)) ∧ w = w' := by
  rcases hs with ⟨rfl, rfl⟩ | ⟨a, cap, rfl, hc, hg, hx⟩
  · go_enter Try.func38, Try.ntmps38
    go_wp2
    go_loop [1, 5] (fun m i => m = .int .i64 z ∧ i = .int .i64 0) (fun _ _ => 0)
    case atStart => exact ⟨rfl, rfl⟩
    case round =>
      obtain ⟨rfl, rfl⟩ := hrel
      go_wp2
      go_ret
      exact ⟨ret_i (by simp), rfl⟩
  · have HX := hid hx; clear hx
    go_enter Try.func38, Try.ntmps38
    go_wp2
    go_loop [1, 5] (fun m i => ∃ k : Nat, k ≤ n ∧ i = .int .i64 k ∧ m = .int .i64 (z + k)) (fun _ i => n - (intOf i).toNat)
    case atStart => exact ⟨0, by omega, rfl, by simp⟩
    case round =>
      obtain ⟨k, hk, rfl, rfl⟩ := hrel
      by_cases hlt : k < n
      · obtain ⟨_, y, c2, _, hm⟩ := HX.out k hlt
        obtain rfl : y = floatOfInt .f32 (z + k) := same_of_can hm
        clear hm
        have e2 := same_int (z + k)
        go_wp2
        go_round
        case rel => exact ⟨k + 1, by omega, by go_num, by go_num⟩
        case measure => simp [intOf]; omega
      · obtain rfl : k = n := by omega
        go_wp2
        go_ret
        exact ⟨rfl, rfl⟩
end Go.Proofs.Ytmacednkpjfokaa
