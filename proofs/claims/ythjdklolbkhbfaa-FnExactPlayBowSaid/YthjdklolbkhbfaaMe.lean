/- Texts of the walk, laid in one file. -/
import Derived.Laws.StructEq
import Derived.Deep.RegionWith
import Derived.Test.YthjdklolbkhbfaaMd
set_option linter.unusedVariables false
set_option linter.unusedSimpArgs false
/- Steps of filters: the plain functions; 'next' of each kind; 'step' of a runner; 'l02Step' of the model. -/
namespace Go.Fk
open Go Go.RowKit
/-- What a filter makes of a sample. -/
def outF (k : Int) (a b c x y s : Nat) : Nat :=
  if k = 1 ∨ k = 2 then fop .add .f32 (fop .mul .f32 a s) (fop .mul .f32 b x)
  else if k = 3 then fop .add .f32 (fop .mul .f32 a (fop .sub .f32 s y)) x
  else if k = 4 then fop .sub .f32 (fop .sub .f32 (fop .mul .f32 a s) (fop .mul .f32 b x)) (fop .mul .f32 c y)
  else fop .add .f32 (fop .sub .f32 s x) (fop .mul .f32 a y)
/-- The state behind it. -/
def st0 (k : Int) (a b c x y s : Nat) : Nat := if k = 1 ∨ k = 4 then kept (outF k a b c x y s) else kept s
def st1 (k : Int) (a b c x y s : Nat) : Nat := if k = 1 ∨ k = 2 then 0 else if k = 4 then kept x else kept (outF k a b c x y s)
theorem kept_zero : kept 0 = 0 := by decide
theorem can_outF (k : Int) (a b c x y s : Nat) : can .f32 (outF k a b c x y s) = outF k a b c x y s := by
  unfold outF; split; exact can_fop _ _ _ _; split; exact can_fop _ _ _ _; split <;> exact can_fop _ _ _ _
/-- What 'next' gives. -/
def OutN (k : Int) (a b c x y s : Nat) (w : World) (e : Ending) (w' : World) : Prop := ∃ r p q, e = .returned (.tuple #[.float .f32 r, .agg #[.float .f32 p, .float .f32 q]]) ∧ can .f32 r = outF k a b c x y s ∧ kept p = st0 k a b c x y s ∧ kept q = st1 k a b c x y s ∧ fits .f32 p ∧ fits .f32 q ∧ fits .f32 r ∧ le w w'
theorem fits_zero : fits .f32 0 := by simp [fits, Lit.wf]
theorem Row.store2 {W : World} {g : Nat} {t : TypeId} {o0 o1 v0 v1 : Value} (h : Row W g t #[o0, o1]) : Row ((W.setCell ⟨g, 0, none⟩ v0).setCell ⟨g, 1, none⟩ v1) g t #[v0, v1] := by
  have := (h.set 0 v0).set 1 v1
  simpa using this
/-- What a step gives: block g holds the new state. -/
def OutS (k : Int) (a b c x y s : Nat) (g : Nat) (t : TypeId) (cs : Nat → Nat → Array Value) (w : World) (e : Ending) (w' : World) : Prop := ∃ r, e = .returned (.float .f32 r) ∧ can .f32 r = outF k a b c x y s ∧ fits .f32 r ∧ Row w' g t (cs (st0 k a b c x y s) (st1 k a b c x y s)) ∧ Upd g w w'
end Go.Fk
namespace Go.Proofs.Ythjdklolbkhbfaa
open Go.RowKit Go.Fk
theorem i_next1 (a b c x y s : Nat) (w : World) (hx : fits .f32 x) (hs : fits .f32 s) : Calls Try.prog 113 #[.agg #[.float .f32 a, .float .f32 b, .float .f32 c], .agg #[.float .f32 x, .float .f32 y], .float .f32 s] w (OutN 1 a b c x y s w) := by
  have Hx := hid hx; have Hs := hid hs; clear hx hs
  go_enter Try.func113, Try.ntmps113
  go_wp2_with (with_reducible refine wpList_farith rfl rfl rfl rfl rfl ?_; intro r n hr hf)
  rename_i r1 n1 h1 f1 r2 n2 h2 f2
  have e : can .f32 r = outF 1 a b c x y s := (by rw [hr.out]; exact fop_congr (h1.out.trans (can_fop _ _ _ _).symm) (h2.out.trans (can_fop _ _ _ _).symm))
  refine bodyPost_ret (results_row2r rfl _ _ _ _ _ rfl (Row.store2 ((Row.new' _ _ _ (by simp)).drewN _)) Try.underlying27 rfl info2) rfl ?_
  exact ⟨_, _, _, rfl, e, kept_can (e.trans (can_outF _ _ _ _ _ _ _).symm), kept_zero, hf.out, fits_zero, hf.out, by unfold le; repeat' (first | (with_reducible exact Below.refl _ _) | (with_reducible assumption) | (with_reducible refine below_drewN ?_ _) | (with_reducible refine Below.alloc ?_ ?_ _) | (with_reducible refine Below.drew ?_) | (with_reducible refine Below.setCell ?_ ?_ _) | go_size)⟩
theorem i_next2 (a b c x y s : Nat) (w : World) (hx : fits .f32 x) (hs : fits .f32 s) : Calls Try.prog 114 #[.agg #[.float .f32 a, .float .f32 b, .float .f32 c], .agg #[.float .f32 x, .float .f32 y], .float .f32 s] w (OutN 2 a b c x y s w) := by
  have Hx := hid hx; have Hs := hid hs; clear hx hs
  go_enter Try.func114, Try.ntmps114
  go_wp2_with (with_reducible refine wpList_farith rfl rfl rfl rfl rfl ?_; intro r n hr hf)
  rename_i r1 n1 h1 f1 r2 n2 h2 f2
  have e : can .f32 r = outF 2 a b c x y s := (by rw [hr.out]; exact fop_congr (h1.out.trans (can_fop _ _ _ _).symm) (h2.out.trans (can_fop _ _ _ _).symm))
  refine bodyPost_ret (results_row2r rfl _ _ _ _ _ rfl (Row.store2 ((Row.new' _ _ _ (by simp)).drewN _)) Try.underlying27 rfl info2) rfl ?_
  exact ⟨_, _, _, rfl, e, rfl, kept_zero, Hs.out, fits_zero, hf.out, by unfold le; repeat' (first | (with_reducible exact Below.refl _ _) | (with_reducible assumption) | (with_reducible refine below_drewN ?_ _) | (with_reducible refine Below.alloc ?_ ?_ _) | (with_reducible refine Below.drew ?_) | (with_reducible refine Below.setCell ?_ ?_ _) | go_size)⟩
theorem i_next3 (a b c x y s : Nat) (w : World) (hx : fits .f32 x) (hs : fits .f32 s) : Calls Try.prog 115 #[.agg #[.float .f32 a, .float .f32 b, .float .f32 c], .agg #[.float .f32 x, .float .f32 y], .float .f32 s] w (OutN 3 a b c x y s w) := by
  have Hx := hid hx; have Hs := hid hs; clear hx hs
  go_enter Try.func115, Try.ntmps115
  go_wp2_with (with_reducible refine wpList_farith rfl rfl rfl rfl rfl ?_; intro r n hr hf)
  rename_i r1 n1 h1 f1 r2 n2 h2 f2
  have e : can .f32 r = outF 3 a b c x y s := (by rw [hr.out]; exact fop_congr (h2.out.trans ((fop_congr rfl (h1.out.trans (can_fop _ _ _ _).symm)).trans (can_fop _ _ _ _).symm)) rfl)
  refine bodyPost_ret (results_row2r rfl _ _ _ _ _ rfl (Row.store2 ((Row.new' _ _ _ (by simp)).drewN _)) Try.underlying27 rfl info2) rfl ?_
  exact ⟨_, _, _, rfl, e, rfl, kept_can (e.trans (can_outF _ _ _ _ _ _ _).symm), Hs.out, hf.out, hf.out, by unfold le; repeat' (first | (with_reducible exact Below.refl _ _) | (with_reducible assumption) | (with_reducible refine below_drewN ?_ _) | (with_reducible refine Below.alloc ?_ ?_ _) | (with_reducible refine Below.drew ?_) | (with_reducible refine Below.setCell ?_ ?_ _) | go_size)⟩
theorem i_next4 (a b c x y s : Nat) (w : World) (hx : fits .f32 x) (hs : fits .f32 s) : Calls Try.prog 116 #[.agg #[.float .f32 a, .float .f32 b, .float .f32 c], .agg #[.float .f32 x, .float .f32 y], .float .f32 s] w (OutN 4 a b c x y s w) := by
  have Hx := hid hx; have Hs := hid hs; clear hx hs
  go_enter Try.func116, Try.ntmps116
  go_wp2_with (with_reducible refine wpList_farith rfl rfl rfl rfl rfl ?_; intro r n hr hf)
  rename_i r1 n1 h1 f1 r2 n2 h2 f2 r3 n3 h3 f3 r4 n4 h4 f4 KK aa
  have e : can .f32 r = outF 4 a b c x y s := (by rw [hr.out]; exact fop_congr (h3.out.trans ((fop_congr (h1.out.trans (can_fop _ _ _ _).symm) (h2.out.trans (can_fop _ _ _ _).symm)).trans (can_fop _ _ _ _).symm)) (h4.out.trans (can_fop _ _ _ _).symm))
  have F := ((((Frm.nil w).box 138 #[.float .f32 a, .float .f32 b, .float .f32 c]).box 27 #[.float .f32 x, .float .f32 y]).box 27 #[.float .f32 0, .float .f32 0])
  simp only [World.size_alloc] at F
  refine region_tail (fun _ _ _ _ => True) 6 (by kernel_rfl) (by kernel_rfl) ?_
  simp only [List.take_succ_cons, List.take_zero, List.drop_succ_cons, List.drop_zero]
  refine wpFree_one rfl (.float .f32 r) (fun w1 _ => by kernel_rfl) ?_
  simp only [Act.put, List.setIfInBounds_toArray, List.set_cons_succ, List.set_cons_zero]
  refine wpFree_one rfl (.float .f32 r) (fun w1 _ => by kernel_rfl) ?_
  simp only [Act.put, List.setIfInBounds_toArray, List.set_cons_succ, List.set_cons_zero]
  refine wpFree_one rfl (.pointer (some ⟨w.heap.size + 1, 0, none⟩)) (fun w1 _ => by kernel_rfl) ?_
  simp only [Act.put, List.setIfInBounds_toArray, List.set_cons_succ, List.set_cons_zero]
  refine wpFree_loadF (F.drewN _) rfl rfl rfl rfl (k := .f32) (v := x) (List.mem_cons_of_mem _ List.mem_cons_self) rfl Try.underlying25 ?_
  simp only [Act.put, List.setIfInBounds_toArray, List.set_cons_succ, List.set_cons_zero]
  refine wpFree_one rfl (.agg #[.float .f32 r, .float .f32 x]) (fun w1 _ => by kernel_rfl) ?_
  simp only [Act.put, List.setIfInBounds_toArray, List.set_cons_succ, List.set_cons_zero]
  refine wpFree_one rfl (.float .f32 r) (fun w1 _ => by kernel_rfl) ?_
  simp only [Act.put, List.setIfInBounds_toArray, List.set_cons_succ, List.set_cons_zero]
  refine wpFree_nil (fun w3 hw3 hF => ?_)
  have F3 := ((F.drewN _).drewN 1).le hw3
  have hz : w.heap.size ≤ w.heap.size + 1 + 1 := by omega
  have RR := F3.row (g := w.heap.size + 1 + 1) (t := 27) (cs := #[.float .f32 0, .float .f32 0]) List.mem_cons_self
  refine wpList_storeD rfl rfl rfl (cells := #[.float .f32 r, .float .f32 x]) rfl RR info2 rfl (by simp [Value.oneCell']) (fun w' KW => ?_)
  have R' := hid KW.row
  have L' := hid (KW.below _ _ F3.below hz)
  clear F F3 RR KW hw3 hF hz
  replace e := hid e
  go_wp2
  refine bodyPost_ret (results_row2r rfl _ _ _ _ _ rfl R'.out Try.underlying27 rfl info2) rfl ?_
  exact ⟨_, _, _, rfl, e.out, kept_can (e.out.trans (can_outF _ _ _ _ _ _ _).symm), rfl, hf.out, Hx.out, hf.out, L'.out⟩
theorem i_next5 (a b c x y s : Nat) (w : World) (hx : fits .f32 x) (hs : fits .f32 s) : Calls Try.prog 117 #[.agg #[.float .f32 a, .float .f32 b, .float .f32 c], .agg #[.float .f32 x, .float .f32 y], .float .f32 s] w (OutN 5 a b c x y s w) := by
  have Hx := hid hx; have Hs := hid hs; clear hx hs
  go_enter Try.func117, Try.ntmps117
  go_wp2_with (with_reducible refine wpList_farith rfl rfl rfl rfl rfl ?_; intro r n hr hf)
  rename_i r1 n1 h1 f1 r2 n2 h2 f2
  have e : can .f32 r = outF 5 a b c x y s := (by rw [hr.out]; exact fop_congr (h1.out.trans (can_fop _ _ _ _).symm) (h2.out.trans (can_fop _ _ _ _).symm))
  refine bodyPost_ret (results_row2r rfl _ _ _ _ _ rfl (Row.store2 ((Row.new' _ _ _ (by simp)).drewN _)) Try.underlying27 rfl info2) rfl ?_
  exact ⟨_, _, _, rfl, e, rfl, kept_can (e.trans (can_outF _ _ _ _ _ _ _).symm), Hs.out, hf.out, hf.out, by unfold le; repeat' (first | (with_reducible exact Below.refl _ _) | (with_reducible assumption) | (with_reducible refine below_drewN ?_ _) | (with_reducible refine Below.alloc ?_ ?_ _) | (with_reducible refine Below.drew ?_) | (with_reducible refine Below.setCell ?_ ?_ _) | go_size)⟩
theorem alloc2 (w : World) : (Instr.alloc 27 true (.tuple #[])).run Try.prog w = .ok (.pointer (some ⟨w.heap.size, 0, none⟩)) (w.alloc (.cells #[.float .f32 0, .float .f32 0] 27)) := by kernel_rfl
set_option maxHeartbeats 2000000 in
theorem i_step1 (a b c x y s g : Nat) (w : World) (R : Row w g 103 #[.iface 135 (.agg #[.float .f32 a, .float .f32 b, .float .f32 c]), .float .f32 x, .float .f32 y]) (hx : fits .f32 x) (hs : fits .f32 s) :
    Calls Try.prog 53 #[.pointer (some ⟨g, 0, none⟩), .float .f32 s] w (OutS 1 a b c x y s g 103 (fun u v => #[.iface 135 (.agg #[.float .f32 a, .float .f32 b, .float .f32 c]), .float .f32 u, .float .f32 v]) w) := by
  have Hx := hid hx; have Hs := hid hs; clear hx hs
  have F := Frm.one R
  clear R
  go_enter Try.func53, Try.ntmps53
  go_upto_region 1 with (fail)
  refine region_tail (fun f args _ v => ∃ r p q, v = .tuple #[.float .f32 r, .agg #[.float .f32 p, .float .f32 q]] ∧ can .f32 r = outF 1 a b c x y s ∧ kept p = st0 1 a b c x y s ∧ kept q = st1 1 a b c x y s ∧ fits .f32 p ∧ fits .f32 q ∧ fits .f32 r) 17 (by kernel_rfl) (by kernel_rfl) ?_
  simp only [List.take_succ_cons, List.take_zero, List.drop_succ_cons, List.drop_zero]
  refine wpFree_one rfl (.pointer (some ⟨g, 0, none⟩)) (fun w1 _ => by kernel_rfl) ?_
  simp only [Act.put, List.setIfInBounds_toArray, List.set_cons_succ, List.set_cons_zero]
  refine wpFree_one rfl (.pointer (some ⟨g, 0, none⟩)) (fun w1 _ => by kernel_rfl) ?_
  simp only [Act.put, List.setIfInBounds_toArray, List.set_cons_succ, List.set_cons_zero]
  refine wpFree_one rfl (.pointer (some ⟨g, 0, none⟩)) (fun w1 _ => by kernel_rfl) ?_
  simp only [Act.put, List.setIfInBounds_toArray, List.set_cons_succ, List.set_cons_zero]
  refine wpFree_loadV F rfl rfl rfl rfl List.mem_cons_self rfl (fun w1 => by kernel_rfl) ?_
  simp only [Act.put, List.setIfInBounds_toArray, List.set_cons_succ, List.set_cons_zero]
  refine wpFree_one rfl (.pointer (some ⟨g, 0, none⟩)) (fun w1 _ => by kernel_rfl) ?_
  simp only [Act.put, List.setIfInBounds_toArray, List.set_cons_succ, List.set_cons_zero]
  refine wpFree_one rfl (.pointer (some ⟨g, 0, none⟩)) (fun w1 _ => by kernel_rfl) ?_
  simp only [Act.put, List.setIfInBounds_toArray, List.set_cons_succ, List.set_cons_zero]
  refine wpFree_one rfl (.pointer (some ⟨g, 1, none⟩)) (fun w1 _ => by kernel_rfl) ?_
  simp only [Act.put, List.setIfInBounds_toArray, List.set_cons_succ, List.set_cons_zero]
  refine wpFree_loadPart F rfl rfl rfl rfl (List.mem_cons_self) Try.underlying27 rfl [.float .f32 x, .float .f32 y] (fun j hj => by match j, hj with | 0, _ => rfl | 1, _ => rfl) info2 ?_
  simp only [Act.put, List.setIfInBounds_toArray, List.set_cons_succ, List.set_cons_zero]
  refine wpFree_one rfl (.float .f32 s) (fun w1 _ => by kernel_rfl) ?_
  simp only [Act.put, List.setIfInBounds_toArray, List.set_cons_succ, List.set_cons_zero]
  refine wpFree_one rfl (.iface 135 (.agg #[.float .f32 a, .float .f32 b, .float .f32 c])) (fun w1 _ => by kernel_rfl) ?_
  simp only [Act.put, List.setIfInBounds_toArray, List.set_cons_succ, List.set_cons_zero]
  refine wpFree_one rfl (.iface 135 (.agg #[.float .f32 a, .float .f32 b, .float .f32 c])) (fun w1 _ => by kernel_rfl) ?_
  simp only [Act.put, List.setIfInBounds_toArray, List.set_cons_succ, List.set_cons_zero]
  refine wpFree_callR rfl 113 #[.agg #[.float .f32 a, .float .f32 b, .float .f32 c], .agg #[.float .f32 x, .float .f32 y], .float .f32 s] (fun w1 => by kernel_rfl) (fun _ _ _ _ h => h) (fun w1 _ => (i_next1 a b c x y s w1 Hx.out Hs.out).mono ?_) ?_
  · rintro e w2 ⟨r, p, q, rfl, h1, h2, h3, h4, h5, h6, hl⟩
    exact ⟨_, rfl, hl, r, p, q, rfl, h1, h2, h3, h4, h5, h6⟩
  rintro v ⟨_, _, r, p, q, rfl, h1, h2, h3, h4, h5, h6⟩
  replace h1 := hid h1; replace h2 := hid h2; replace h3 := hid h3; replace h4 := hid h4; replace h5 := hid h5; replace h6 := hid h6
  simp only [Act.put, List.setIfInBounds_toArray, List.set_cons_succ, List.set_cons_zero]
  refine wpFree_one rfl (.tuple #[.float .f32 r, .agg #[.float .f32 p, .float .f32 q]]) (fun w1 _ => by kernel_rfl) ?_
  simp only [Act.put, List.setIfInBounds_toArray, List.set_cons_succ, List.set_cons_zero]
  refine wpFree_one rfl (.float .f32 r) (fun w1 _ => by kernel_rfl) ?_
  simp only [Act.put, List.setIfInBounds_toArray, List.set_cons_succ, List.set_cons_zero]
  refine wpFree_one rfl (.agg #[.float .f32 p, .float .f32 q]) (fun w1 _ => by kernel_rfl) ?_
  simp only [Act.put, List.setIfInBounds_toArray, List.set_cons_succ, List.set_cons_zero]
  refine wpFree_alloc rfl rfl #[.float .f32 0, .float .f32 0] alloc2 (fun g2 hg2 => ?_)
  simp only [Act.put, List.setIfInBounds_toArray, List.set_cons_succ, List.set_cons_zero]
  refine wpFree_one rfl (.float .f32 r) (fun w1 _ => by kernel_rfl) ?_
  simp only [Act.put, List.setIfInBounds_toArray, List.set_cons_succ, List.set_cons_zero]
  refine wpFree_nil (fun w3 hw3 hF => ?_)
  obtain ⟨_, b', hbb, _, hrow⟩ := hF
  obtain rfl : g2 = b' := by simpa using hbb
  have hlt : g < w.heap.size := F.lt List.mem_cons_self
  have hz : w.heap.size ≤ g2 := by simpa using hg2
  have hne : g ≠ g2 := by omega
  refine wpList_storeD rfl rfl rfl (cells := #[.float .f32 p, .float .f32 q]) rfl hrow info2 rfl (by simp [Value.oneCell']) (fun w4 KW => ?_)
  have R2 := KW.row
  have RG := KW.other _ _ _ hne (((F.drewN 1).le hw3).row List.mem_cons_self)
  have U := Upd.of_le (g := g) (KW.below _ _ (le_trans (le_drewN w 1) hw3) hz)
  replace hne := hid hne
  clear hbb hrow hw3 hg2 F KW hlt hz
  replace U := hid U
  replace RG := hid RG
  go_wp2_with (with_reducible refine wpList_loadDn rfl rfl rfl R2 Try.underlying27 rfl info2 (by simp) ?_)
  replace R2 := hid R2
  go_loopw [25] (fun i wr => ∃ j : Nat, j ≤ 2 ∧ i = .int .i64 j ∧ Hid (Row wr g 103 #[.iface 135 (.agg #[.float .f32 a, .float .f32 b, .float .f32 c]), .float .f32 (if j = 0 then x else st0 1 a b c x y s), .float .f32 (if j < 2 then y else st1 1 a b c x y s)]) ∧ Hid (Upd g w wr)) (fun i _ => 2 - (intOf i).toNat)
  case atStart => exact ⟨0, by omega, rfl, RG, U⟩
  case round =>
    obtain ⟨j, hj, rfl, RJ, UJ⟩ := hrel
    rcases (show j = 0 ∨ j = 1 ∨ j = 2 by omega) with rfl | rfl | rfl
    · simp only [if_true, if_pos (show (0 : Nat) < 2 by decide)] at RJ
      clear RG U
      have ix : ∀ w, (Instr.index 27 (.agg #[.float .f32 p, .float .f32 q]) (.int .i64 0)).run Try.prog w = .ok (.float .f32 p) w := fun w => by kernel_rfl
      rw [show ((0 : Nat) : Int) = 0 from rfl]
      go_wp2
      clear ix
      refine region_tail (fun _ _ _ v => v = .float .f32 (kept p)) 7 (by kernel_rfl) (by kernel_rfl) ?_
      simp only [List.take_succ_cons, List.take_zero, List.drop_succ_cons, List.drop_zero]
      refine wpFree_one rfl (.pointer (some ⟨g, 0, none⟩)) (fun w1 _ => by kernel_rfl) ?_
      simp only [Act.put, List.setIfInBounds_toArray, List.set_cons_succ, List.set_cons_zero]
      refine wpFree_one rfl (.int .i64 0) (fun w1 _ => by kernel_rfl) ?_
      simp only [Act.put, List.setIfInBounds_toArray, List.set_cons_succ, List.set_cons_zero]
      refine wpFree_one rfl (.float .f32 p) (fun w1 _ => by kernel_rfl) ?_
      simp only [Act.put, List.setIfInBounds_toArray, List.set_cons_succ, List.set_cons_zero]
      refine wpFree_call rfl rfl Try.func77 (by kernel_rfl) (by kernel_rfl) (args := #[.float .f32 p]) (by simp [Act.eval]) (fun _ _ _ _ h => h) (fun w1 _ => (i_kept p w1 h4.out).mono ?_) ?_
      · rintro e w2 ⟨rfl, rfl⟩
        exact ⟨_, rfl, le_refl _, rfl⟩
      rintro v ⟨_, _, rfl⟩
      simp only [Act.put, List.setIfInBounds_toArray, List.set_cons_succ, List.set_cons_zero]
      refine wpFree_one rfl (.pointer (some ⟨g, 0, none⟩)) (fun w1 _ => by kernel_rfl) ?_
      simp only [Act.put, List.setIfInBounds_toArray, List.set_cons_succ, List.set_cons_zero]
      refine wpFree_one rfl (.pointer (some ⟨g, 1, none⟩)) (fun w1 _ => by kernel_rfl) ?_
      simp only [Act.put, List.setIfInBounds_toArray, List.set_cons_succ, List.set_cons_zero]
      refine wpFree_one rfl (.pointer (some ⟨g, 1 + 0, none⟩)) (fun w1 _ => by kernel_rfl) ?_
      simp only [Act.put, List.setIfInBounds_toArray, List.set_cons_succ, List.set_cons_zero]
      refine wpFree_nil (fun w5 hw5 _ => ?_)
      have RR := (RJ.out.drewN 1).le hw5
      have UU := hid ((UJ.out.le (le_drewN _ 1)).le hw5)
      have cc := RR.cell? (1 + 0)
      have ff := RR.frozen (1 + 0)
      replace RR := hid RR
      clear hw5
      go_wp2
      go_roundw
      case rel => exact ⟨0 + 1, by omega, by go_num, by have := RR.out.set (1 + 0) (.float .f32 (kept p)); rw [h2.out] at this; show Row _ _ _ _; rw [h2.out]; simpa using this, UU.out.setCell rfl _⟩
      case measure => simp [intOf]
    · simp only [if_neg (show ¬ (1 : Nat) = 0 by decide), if_pos (show (1 : Nat) < 2 by decide)] at RJ
      clear RG U
      have ix : ∀ w, (Instr.index 27 (.agg #[.float .f32 p, .float .f32 q]) (.int .i64 1)).run Try.prog w = .ok (.float .f32 q) w := fun w => by kernel_rfl
      rw [show ((1 : Nat) : Int) = 1 from rfl]
      go_wp2
      clear ix
      refine region_tail (fun _ _ _ v => v = .float .f32 (kept q)) 7 (by kernel_rfl) (by kernel_rfl) ?_
      simp only [List.take_succ_cons, List.take_zero, List.drop_succ_cons, List.drop_zero]
      refine wpFree_one rfl (.pointer (some ⟨g, 0, none⟩)) (fun w1 _ => by kernel_rfl) ?_
      simp only [Act.put, List.setIfInBounds_toArray, List.set_cons_succ, List.set_cons_zero]
      refine wpFree_one rfl (.int .i64 1) (fun w1 _ => by kernel_rfl) ?_
      simp only [Act.put, List.setIfInBounds_toArray, List.set_cons_succ, List.set_cons_zero]
      refine wpFree_one rfl (.float .f32 q) (fun w1 _ => by kernel_rfl) ?_
      simp only [Act.put, List.setIfInBounds_toArray, List.set_cons_succ, List.set_cons_zero]
      refine wpFree_call rfl rfl Try.func77 (by kernel_rfl) (by kernel_rfl) (args := #[.float .f32 q]) (by simp [Act.eval]) (fun _ _ _ _ h => h) (fun w1 _ => (i_kept q w1 h5.out).mono ?_) ?_
      · rintro e w2 ⟨rfl, rfl⟩
        exact ⟨_, rfl, le_refl _, rfl⟩
      rintro v ⟨_, _, rfl⟩
      simp only [Act.put, List.setIfInBounds_toArray, List.set_cons_succ, List.set_cons_zero]
      refine wpFree_one rfl (.pointer (some ⟨g, 0, none⟩)) (fun w1 _ => by kernel_rfl) ?_
      simp only [Act.put, List.setIfInBounds_toArray, List.set_cons_succ, List.set_cons_zero]
      refine wpFree_one rfl (.pointer (some ⟨g, 1, none⟩)) (fun w1 _ => by kernel_rfl) ?_
      simp only [Act.put, List.setIfInBounds_toArray, List.set_cons_succ, List.set_cons_zero]
      refine wpFree_one rfl (.pointer (some ⟨g, 1 + 1, none⟩)) (fun w1 _ => by kernel_rfl) ?_
      simp only [Act.put, List.setIfInBounds_toArray, List.set_cons_succ, List.set_cons_zero]
      refine wpFree_nil (fun w5 hw5 _ => ?_)
      have RR := (RJ.out.drewN 1).le hw5
      have UU := hid ((UJ.out.le (le_drewN _ 1)).le hw5)
      have cc := RR.cell? (1 + 1)
      have ff := RR.frozen (1 + 1)
      replace RR := hid RR
      clear hw5
      go_wp2
      go_roundw
      case rel => exact ⟨1 + 1, by omega, by go_num, by have := RR.out.set (1 + 1) (.float .f32 (kept q)); rw [h3.out] at this; show Row _ _ _ _; rw [h3.out]; simpa using this, UU.out.setCell rfl _⟩
      case measure => simp [intOf]
    · simp only [if_neg (show ¬ (2 : Nat) = 0 by decide), if_neg (show ¬ (2 : Nat) < 2 by decide)] at RJ
      clear RG U
      go_wp2
      go_ret
      exact ⟨_, rfl, h1.out, h6.out, RJ.out, UJ.out⟩
set_option maxHeartbeats 2000000 in
theorem i_step2 (a b c x y s g : Nat) (w : World) (R : Row w g 103 #[.iface 136 (.agg #[.float .f32 a, .float .f32 b, .float .f32 c]), .float .f32 x, .float .f32 y]) (hx : fits .f32 x) (hs : fits .f32 s) :
    Calls Try.prog 53 #[.pointer (some ⟨g, 0, none⟩), .float .f32 s] w (OutS 2 a b c x y s g 103 (fun u v => #[.iface 136 (.agg #[.float .f32 a, .float .f32 b, .float .f32 c]), .float .f32 u, .float .f32 v]) w) := by
  have Hx := hid hx; have Hs := hid hs; clear hx hs
  have F := Frm.one R
  clear R
  go_enter Try.func53, Try.ntmps53
  go_upto_region 1 with (fail)
  refine region_tail (fun f args _ v => ∃ r p q, v = .tuple #[.float .f32 r, .agg #[.float .f32 p, .float .f32 q]] ∧ can .f32 r = outF 2 a b c x y s ∧ kept p = st0 2 a b c x y s ∧ kept q = st1 2 a b c x y s ∧ fits .f32 p ∧ fits .f32 q ∧ fits .f32 r) 17 (by kernel_rfl) (by kernel_rfl) ?_
  simp only [List.take_succ_cons, List.take_zero, List.drop_succ_cons, List.drop_zero]
  refine wpFree_one rfl (.pointer (some ⟨g, 0, none⟩)) (fun w1 _ => by kernel_rfl) ?_
  simp only [Act.put, List.setIfInBounds_toArray, List.set_cons_succ, List.set_cons_zero]
  refine wpFree_one rfl (.pointer (some ⟨g, 0, none⟩)) (fun w1 _ => by kernel_rfl) ?_
  simp only [Act.put, List.setIfInBounds_toArray, List.set_cons_succ, List.set_cons_zero]
  refine wpFree_one rfl (.pointer (some ⟨g, 0, none⟩)) (fun w1 _ => by kernel_rfl) ?_
  simp only [Act.put, List.setIfInBounds_toArray, List.set_cons_succ, List.set_cons_zero]
  refine wpFree_loadV F rfl rfl rfl rfl List.mem_cons_self rfl (fun w1 => by kernel_rfl) ?_
  simp only [Act.put, List.setIfInBounds_toArray, List.set_cons_succ, List.set_cons_zero]
  refine wpFree_one rfl (.pointer (some ⟨g, 0, none⟩)) (fun w1 _ => by kernel_rfl) ?_
  simp only [Act.put, List.setIfInBounds_toArray, List.set_cons_succ, List.set_cons_zero]
  refine wpFree_one rfl (.pointer (some ⟨g, 0, none⟩)) (fun w1 _ => by kernel_rfl) ?_
  simp only [Act.put, List.setIfInBounds_toArray, List.set_cons_succ, List.set_cons_zero]
  refine wpFree_one rfl (.pointer (some ⟨g, 1, none⟩)) (fun w1 _ => by kernel_rfl) ?_
  simp only [Act.put, List.setIfInBounds_toArray, List.set_cons_succ, List.set_cons_zero]
  refine wpFree_loadPart F rfl rfl rfl rfl (List.mem_cons_self) Try.underlying27 rfl [.float .f32 x, .float .f32 y] (fun j hj => by match j, hj with | 0, _ => rfl | 1, _ => rfl) info2 ?_
  simp only [Act.put, List.setIfInBounds_toArray, List.set_cons_succ, List.set_cons_zero]
  refine wpFree_one rfl (.float .f32 s) (fun w1 _ => by kernel_rfl) ?_
  simp only [Act.put, List.setIfInBounds_toArray, List.set_cons_succ, List.set_cons_zero]
  refine wpFree_one rfl (.iface 136 (.agg #[.float .f32 a, .float .f32 b, .float .f32 c])) (fun w1 _ => by kernel_rfl) ?_
  simp only [Act.put, List.setIfInBounds_toArray, List.set_cons_succ, List.set_cons_zero]
  refine wpFree_one rfl (.iface 136 (.agg #[.float .f32 a, .float .f32 b, .float .f32 c])) (fun w1 _ => by kernel_rfl) ?_
  simp only [Act.put, List.setIfInBounds_toArray, List.set_cons_succ, List.set_cons_zero]
  refine wpFree_callR rfl 114 #[.agg #[.float .f32 a, .float .f32 b, .float .f32 c], .agg #[.float .f32 x, .float .f32 y], .float .f32 s] (fun w1 => by kernel_rfl) (fun _ _ _ _ h => h) (fun w1 _ => (i_next2 a b c x y s w1 Hx.out Hs.out).mono ?_) ?_
  · rintro e w2 ⟨r, p, q, rfl, h1, h2, h3, h4, h5, h6, hl⟩
    exact ⟨_, rfl, hl, r, p, q, rfl, h1, h2, h3, h4, h5, h6⟩
  rintro v ⟨_, _, r, p, q, rfl, h1, h2, h3, h4, h5, h6⟩
  replace h1 := hid h1; replace h2 := hid h2; replace h3 := hid h3; replace h4 := hid h4; replace h5 := hid h5; replace h6 := hid h6
  simp only [Act.put, List.setIfInBounds_toArray, List.set_cons_succ, List.set_cons_zero]
  refine wpFree_one rfl (.tuple #[.float .f32 r, .agg #[.float .f32 p, .float .f32 q]]) (fun w1 _ => by kernel_rfl) ?_
  simp only [Act.put, List.setIfInBounds_toArray, List.set_cons_succ, List.set_cons_zero]
  refine wpFree_one rfl (.float .f32 r) (fun w1 _ => by kernel_rfl) ?_
  simp only [Act.put, List.setIfInBounds_toArray, List.set_cons_succ, List.set_cons_zero]
  refine wpFree_one rfl (.agg #[.float .f32 p, .float .f32 q]) (fun w1 _ => by kernel_rfl) ?_
  simp only [Act.put, List.setIfInBounds_toArray, List.set_cons_succ, List.set_cons_zero]
  refine wpFree_alloc rfl rfl #[.float .f32 0, .float .f32 0] alloc2 (fun g2 hg2 => ?_)
  simp only [Act.put, List.setIfInBounds_toArray, List.set_cons_succ, List.set_cons_zero]
  refine wpFree_one rfl (.float .f32 r) (fun w1 _ => by kernel_rfl) ?_
  simp only [Act.put, List.setIfInBounds_toArray, List.set_cons_succ, List.set_cons_zero]
  refine wpFree_nil (fun w3 hw3 hF => ?_)
  obtain ⟨_, b', hbb, _, hrow⟩ := hF
  obtain rfl : g2 = b' := by simpa using hbb
  have hlt : g < w.heap.size := F.lt List.mem_cons_self
  have hz : w.heap.size ≤ g2 := by simpa using hg2
  have hne : g ≠ g2 := by omega
  refine wpList_storeD rfl rfl rfl (cells := #[.float .f32 p, .float .f32 q]) rfl hrow info2 rfl (by simp [Value.oneCell']) (fun w4 KW => ?_)
  have R2 := KW.row
  have RG := KW.other _ _ _ hne (((F.drewN 1).le hw3).row List.mem_cons_self)
  have U := Upd.of_le (g := g) (KW.below _ _ (le_trans (le_drewN w 1) hw3) hz)
  replace hne := hid hne
  clear hbb hrow hw3 hg2 F KW hlt hz
  replace U := hid U
  replace RG := hid RG
  go_wp2_with (with_reducible refine wpList_loadDn rfl rfl rfl R2 Try.underlying27 rfl info2 (by simp) ?_)
  replace R2 := hid R2
  go_loopw [25] (fun i wr => ∃ j : Nat, j ≤ 2 ∧ i = .int .i64 j ∧ Hid (Row wr g 103 #[.iface 136 (.agg #[.float .f32 a, .float .f32 b, .float .f32 c]), .float .f32 (if j = 0 then x else st0 2 a b c x y s), .float .f32 (if j < 2 then y else st1 2 a b c x y s)]) ∧ Hid (Upd g w wr)) (fun i _ => 2 - (intOf i).toNat)
  case atStart => exact ⟨0, by omega, rfl, RG, U⟩
  case round =>
    obtain ⟨j, hj, rfl, RJ, UJ⟩ := hrel
    rcases (show j = 0 ∨ j = 1 ∨ j = 2 by omega) with rfl | rfl | rfl
    · simp only [if_true, if_pos (show (0 : Nat) < 2 by decide)] at RJ
      clear RG U
      have ix : ∀ w, (Instr.index 27 (.agg #[.float .f32 p, .float .f32 q]) (.int .i64 0)).run Try.prog w = .ok (.float .f32 p) w := fun w => by kernel_rfl
      rw [show ((0 : Nat) : Int) = 0 from rfl]
      go_wp2
      clear ix
      refine region_tail (fun _ _ _ v => v = .float .f32 (kept p)) 7 (by kernel_rfl) (by kernel_rfl) ?_
      simp only [List.take_succ_cons, List.take_zero, List.drop_succ_cons, List.drop_zero]
      refine wpFree_one rfl (.pointer (some ⟨g, 0, none⟩)) (fun w1 _ => by kernel_rfl) ?_
      simp only [Act.put, List.setIfInBounds_toArray, List.set_cons_succ, List.set_cons_zero]
      refine wpFree_one rfl (.int .i64 0) (fun w1 _ => by kernel_rfl) ?_
      simp only [Act.put, List.setIfInBounds_toArray, List.set_cons_succ, List.set_cons_zero]
      refine wpFree_one rfl (.float .f32 p) (fun w1 _ => by kernel_rfl) ?_
      simp only [Act.put, List.setIfInBounds_toArray, List.set_cons_succ, List.set_cons_zero]
      refine wpFree_call rfl rfl Try.func77 (by kernel_rfl) (by kernel_rfl) (args := #[.float .f32 p]) (by simp [Act.eval]) (fun _ _ _ _ h => h) (fun w1 _ => (i_kept p w1 h4.out).mono ?_) ?_
      · rintro e w2 ⟨rfl, rfl⟩
        exact ⟨_, rfl, le_refl _, rfl⟩
      rintro v ⟨_, _, rfl⟩
      simp only [Act.put, List.setIfInBounds_toArray, List.set_cons_succ, List.set_cons_zero]
      refine wpFree_one rfl (.pointer (some ⟨g, 0, none⟩)) (fun w1 _ => by kernel_rfl) ?_
      simp only [Act.put, List.setIfInBounds_toArray, List.set_cons_succ, List.set_cons_zero]
      refine wpFree_one rfl (.pointer (some ⟨g, 1, none⟩)) (fun w1 _ => by kernel_rfl) ?_
      simp only [Act.put, List.setIfInBounds_toArray, List.set_cons_succ, List.set_cons_zero]
      refine wpFree_one rfl (.pointer (some ⟨g, 1 + 0, none⟩)) (fun w1 _ => by kernel_rfl) ?_
      simp only [Act.put, List.setIfInBounds_toArray, List.set_cons_succ, List.set_cons_zero]
      refine wpFree_nil (fun w5 hw5 _ => ?_)
      have RR := (RJ.out.drewN 1).le hw5
      have UU := hid ((UJ.out.le (le_drewN _ 1)).le hw5)
      have cc := RR.cell? (1 + 0)
      have ff := RR.frozen (1 + 0)
      replace RR := hid RR
      clear hw5
      go_wp2
      go_roundw
      case rel => exact ⟨0 + 1, by omega, by go_num, by have := RR.out.set (1 + 0) (.float .f32 (kept p)); rw [h2.out] at this; show Row _ _ _ _; rw [h2.out]; simpa using this, UU.out.setCell rfl _⟩
      case measure => simp [intOf]
    · simp only [if_neg (show ¬ (1 : Nat) = 0 by decide), if_pos (show (1 : Nat) < 2 by decide)] at RJ
      clear RG U
      have ix : ∀ w, (Instr.index 27 (.agg #[.float .f32 p, .float .f32 q]) (.int .i64 1)).run Try.prog w = .ok (.float .f32 q) w := fun w => by kernel_rfl
      rw [show ((1 : Nat) : Int) = 1 from rfl]
      go_wp2
      clear ix
      refine region_tail (fun _ _ _ v => v = .float .f32 (kept q)) 7 (by kernel_rfl) (by kernel_rfl) ?_
      simp only [List.take_succ_cons, List.take_zero, List.drop_succ_cons, List.drop_zero]
      refine wpFree_one rfl (.pointer (some ⟨g, 0, none⟩)) (fun w1 _ => by kernel_rfl) ?_
      simp only [Act.put, List.setIfInBounds_toArray, List.set_cons_succ, List.set_cons_zero]
      refine wpFree_one rfl (.int .i64 1) (fun w1 _ => by kernel_rfl) ?_
      simp only [Act.put, List.setIfInBounds_toArray, List.set_cons_succ, List.set_cons_zero]
      refine wpFree_one rfl (.float .f32 q) (fun w1 _ => by kernel_rfl) ?_
      simp only [Act.put, List.setIfInBounds_toArray, List.set_cons_succ, List.set_cons_zero]
      refine wpFree_call rfl rfl Try.func77 (by kernel_rfl) (by kernel_rfl) (args := #[.float .f32 q]) (by simp [Act.eval]) (fun _ _ _ _ h => h) (fun w1 _ => (i_kept q w1 h5.out).mono ?_) ?_
      · rintro e w2 ⟨rfl, rfl⟩
        exact ⟨_, rfl, le_refl _, rfl⟩
      rintro v ⟨_, _, rfl⟩
      simp only [Act.put, List.setIfInBounds_toArray, List.set_cons_succ, List.set_cons_zero]
      refine wpFree_one rfl (.pointer (some ⟨g, 0, none⟩)) (fun w1 _ => by kernel_rfl) ?_
      simp only [Act.put, List.setIfInBounds_toArray, List.set_cons_succ, List.set_cons_zero]
      refine wpFree_one rfl (.pointer (some ⟨g, 1, none⟩)) (fun w1 _ => by kernel_rfl) ?_
      simp only [Act.put, List.setIfInBounds_toArray, List.set_cons_succ, List.set_cons_zero]
      refine wpFree_one rfl (.pointer (some ⟨g, 1 + 1, none⟩)) (fun w1 _ => by kernel_rfl) ?_
      simp only [Act.put, List.setIfInBounds_toArray, List.set_cons_succ, List.set_cons_zero]
      refine wpFree_nil (fun w5 hw5 _ => ?_)
      have RR := (RJ.out.drewN 1).le hw5
      have UU := hid ((UJ.out.le (le_drewN _ 1)).le hw5)
      have cc := RR.cell? (1 + 1)
      have ff := RR.frozen (1 + 1)
      replace RR := hid RR
      clear hw5
      go_wp2
      go_roundw
      case rel => exact ⟨1 + 1, by omega, by go_num, by have := RR.out.set (1 + 1) (.float .f32 (kept q)); rw [h3.out] at this; show Row _ _ _ _; rw [h3.out]; simpa using this, UU.out.setCell rfl _⟩
      case measure => simp [intOf]
    · simp only [if_neg (show ¬ (2 : Nat) = 0 by decide), if_neg (show ¬ (2 : Nat) < 2 by decide)] at RJ
      clear RG U
      go_wp2
      go_ret
      exact ⟨_, rfl, h1.out, h6.out, RJ.out, UJ.out⟩
set_option maxHeartbeats 2000000 in
theorem i_step3 (a b c x y s g : Nat) (w : World) (R : Row w g 103 #[.iface 137 (.agg #[.float .f32 a, .float .f32 b, .float .f32 c]), .float .f32 x, .float .f32 y]) (hx : fits .f32 x) (hs : fits .f32 s) :
    Calls Try.prog 53 #[.pointer (some ⟨g, 0, none⟩), .float .f32 s] w (OutS 3 a b c x y s g 103 (fun u v => #[.iface 137 (.agg #[.float .f32 a, .float .f32 b, .float .f32 c]), .float .f32 u, .float .f32 v]) w) := by
  have Hx := hid hx; have Hs := hid hs; clear hx hs
  have F := Frm.one R
  clear R
  go_enter Try.func53, Try.ntmps53
  go_upto_region 1 with (fail)
  refine region_tail (fun f args _ v => ∃ r p q, v = .tuple #[.float .f32 r, .agg #[.float .f32 p, .float .f32 q]] ∧ can .f32 r = outF 3 a b c x y s ∧ kept p = st0 3 a b c x y s ∧ kept q = st1 3 a b c x y s ∧ fits .f32 p ∧ fits .f32 q ∧ fits .f32 r) 17 (by kernel_rfl) (by kernel_rfl) ?_
  simp only [List.take_succ_cons, List.take_zero, List.drop_succ_cons, List.drop_zero]
  refine wpFree_one rfl (.pointer (some ⟨g, 0, none⟩)) (fun w1 _ => by kernel_rfl) ?_
  simp only [Act.put, List.setIfInBounds_toArray, List.set_cons_succ, List.set_cons_zero]
  refine wpFree_one rfl (.pointer (some ⟨g, 0, none⟩)) (fun w1 _ => by kernel_rfl) ?_
  simp only [Act.put, List.setIfInBounds_toArray, List.set_cons_succ, List.set_cons_zero]
  refine wpFree_one rfl (.pointer (some ⟨g, 0, none⟩)) (fun w1 _ => by kernel_rfl) ?_
  simp only [Act.put, List.setIfInBounds_toArray, List.set_cons_succ, List.set_cons_zero]
  refine wpFree_loadV F rfl rfl rfl rfl List.mem_cons_self rfl (fun w1 => by kernel_rfl) ?_
  simp only [Act.put, List.setIfInBounds_toArray, List.set_cons_succ, List.set_cons_zero]
  refine wpFree_one rfl (.pointer (some ⟨g, 0, none⟩)) (fun w1 _ => by kernel_rfl) ?_
  simp only [Act.put, List.setIfInBounds_toArray, List.set_cons_succ, List.set_cons_zero]
  refine wpFree_one rfl (.pointer (some ⟨g, 0, none⟩)) (fun w1 _ => by kernel_rfl) ?_
  simp only [Act.put, List.setIfInBounds_toArray, List.set_cons_succ, List.set_cons_zero]
  refine wpFree_one rfl (.pointer (some ⟨g, 1, none⟩)) (fun w1 _ => by kernel_rfl) ?_
  simp only [Act.put, List.setIfInBounds_toArray, List.set_cons_succ, List.set_cons_zero]
  refine wpFree_loadPart F rfl rfl rfl rfl (List.mem_cons_self) Try.underlying27 rfl [.float .f32 x, .float .f32 y] (fun j hj => by match j, hj with | 0, _ => rfl | 1, _ => rfl) info2 ?_
  simp only [Act.put, List.setIfInBounds_toArray, List.set_cons_succ, List.set_cons_zero]
  refine wpFree_one rfl (.float .f32 s) (fun w1 _ => by kernel_rfl) ?_
  simp only [Act.put, List.setIfInBounds_toArray, List.set_cons_succ, List.set_cons_zero]
  refine wpFree_one rfl (.iface 137 (.agg #[.float .f32 a, .float .f32 b, .float .f32 c])) (fun w1 _ => by kernel_rfl) ?_
  simp only [Act.put, List.setIfInBounds_toArray, List.set_cons_succ, List.set_cons_zero]
  refine wpFree_one rfl (.iface 137 (.agg #[.float .f32 a, .float .f32 b, .float .f32 c])) (fun w1 _ => by kernel_rfl) ?_
  simp only [Act.put, List.setIfInBounds_toArray, List.set_cons_succ, List.set_cons_zero]
  refine wpFree_callR rfl 115 #[.agg #[.float .f32 a, .float .f32 b, .float .f32 c], .agg #[.float .f32 x, .float .f32 y], .float .f32 s] (fun w1 => by kernel_rfl) (fun _ _ _ _ h => h) (fun w1 _ => (i_next3 a b c x y s w1 Hx.out Hs.out).mono ?_) ?_
  · rintro e w2 ⟨r, p, q, rfl, h1, h2, h3, h4, h5, h6, hl⟩
    exact ⟨_, rfl, hl, r, p, q, rfl, h1, h2, h3, h4, h5, h6⟩
  rintro v ⟨_, _, r, p, q, rfl, h1, h2, h3, h4, h5, h6⟩
  replace h1 := hid h1; replace h2 := hid h2; replace h3 := hid h3; replace h4 := hid h4; replace h5 := hid h5; replace h6 := hid h6
  simp only [Act.put, List.setIfInBounds_toArray, List.set_cons_succ, List.set_cons_zero]
  refine wpFree_one rfl (.tuple #[.float .f32 r, .agg #[.float .f32 p, .float .f32 q]]) (fun w1 _ => by kernel_rfl) ?_
  simp only [Act.put, List.setIfInBounds_toArray, List.set_cons_succ, List.set_cons_zero]
  refine wpFree_one rfl (.float .f32 r) (fun w1 _ => by kernel_rfl) ?_
  simp only [Act.put, List.setIfInBounds_toArray, List.set_cons_succ, List.set_cons_zero]
  refine wpFree_one rfl (.agg #[.float .f32 p, .float .f32 q]) (fun w1 _ => by kernel_rfl) ?_
  simp only [Act.put, List.setIfInBounds_toArray, List.set_cons_succ, List.set_cons_zero]
  refine wpFree_alloc rfl rfl #[.float .f32 0, .float .f32 0] alloc2 (fun g2 hg2 => ?_)
  simp only [Act.put, List.setIfInBounds_toArray, List.set_cons_succ, List.set_cons_zero]
  refine wpFree_one rfl (.float .f32 r) (fun w1 _ => by kernel_rfl) ?_
  simp only [Act.put, List.setIfInBounds_toArray, List.set_cons_succ, List.set_cons_zero]
  refine wpFree_nil (fun w3 hw3 hF => ?_)
  obtain ⟨_, b', hbb, _, hrow⟩ := hF
  obtain rfl : g2 = b' := by simpa using hbb
  have hlt : g < w.heap.size := F.lt List.mem_cons_self
  have hz : w.heap.size ≤ g2 := by simpa using hg2
  have hne : g ≠ g2 := by omega
  refine wpList_storeD rfl rfl rfl (cells := #[.float .f32 p, .float .f32 q]) rfl hrow info2 rfl (by simp [Value.oneCell']) (fun w4 KW => ?_)
  have R2 := KW.row
  have RG := KW.other _ _ _ hne (((F.drewN 1).le hw3).row List.mem_cons_self)
  have U := Upd.of_le (g := g) (KW.below _ _ (le_trans (le_drewN w 1) hw3) hz)
  replace hne := hid hne
  clear hbb hrow hw3 hg2 F KW hlt hz
  replace U := hid U
  replace RG := hid RG
  go_wp2_with (with_reducible refine wpList_loadDn rfl rfl rfl R2 Try.underlying27 rfl info2 (by simp) ?_)
  replace R2 := hid R2
  go_loopw [25] (fun i wr => ∃ j : Nat, j ≤ 2 ∧ i = .int .i64 j ∧ Hid (Row wr g 103 #[.iface 137 (.agg #[.float .f32 a, .float .f32 b, .float .f32 c]), .float .f32 (if j = 0 then x else st0 3 a b c x y s), .float .f32 (if j < 2 then y else st1 3 a b c x y s)]) ∧ Hid (Upd g w wr)) (fun i _ => 2 - (intOf i).toNat)
  case atStart => exact ⟨0, by omega, rfl, RG, U⟩
  case round =>
    obtain ⟨j, hj, rfl, RJ, UJ⟩ := hrel
    rcases (show j = 0 ∨ j = 1 ∨ j = 2 by omega) with rfl | rfl | rfl
    · simp only [if_true, if_pos (show (0 : Nat) < 2 by decide)] at RJ
      clear RG U
      have ix : ∀ w, (Instr.index 27 (.agg #[.float .f32 p, .float .f32 q]) (.int .i64 0)).run Try.prog w = .ok (.float .f32 p) w := fun w => by kernel_rfl
      rw [show ((0 : Nat) : Int) = 0 from rfl]
      go_wp2
      clear ix
      refine region_tail (fun _ _ _ v => v = .float .f32 (kept p)) 7 (by kernel_rfl) (by kernel_rfl) ?_
      simp only [List.take_succ_cons, List.take_zero, List.drop_succ_cons, List.drop_zero]
      refine wpFree_one rfl (.pointer (some ⟨g, 0, none⟩)) (fun w1 _ => by kernel_rfl) ?_
      simp only [Act.put, List.setIfInBounds_toArray, List.set_cons_succ, List.set_cons_zero]
      refine wpFree_one rfl (.int .i64 0) (fun w1 _ => by kernel_rfl) ?_
      simp only [Act.put, List.setIfInBounds_toArray, List.set_cons_succ, List.set_cons_zero]
      refine wpFree_one rfl (.float .f32 p) (fun w1 _ => by kernel_rfl) ?_
      simp only [Act.put, List.setIfInBounds_toArray, List.set_cons_succ, List.set_cons_zero]
      refine wpFree_call rfl rfl Try.func77 (by kernel_rfl) (by kernel_rfl) (args := #[.float .f32 p]) (by simp [Act.eval]) (fun _ _ _ _ h => h) (fun w1 _ => (i_kept p w1 h4.out).mono ?_) ?_
      · rintro e w2 ⟨rfl, rfl⟩
        exact ⟨_, rfl, le_refl _, rfl⟩
      rintro v ⟨_, _, rfl⟩
      simp only [Act.put, List.setIfInBounds_toArray, List.set_cons_succ, List.set_cons_zero]
      refine wpFree_one rfl (.pointer (some ⟨g, 0, none⟩)) (fun w1 _ => by kernel_rfl) ?_
      simp only [Act.put, List.setIfInBounds_toArray, List.set_cons_succ, List.set_cons_zero]
      refine wpFree_one rfl (.pointer (some ⟨g, 1, none⟩)) (fun w1 _ => by kernel_rfl) ?_
      simp only [Act.put, List.setIfInBounds_toArray, List.set_cons_succ, List.set_cons_zero]
      refine wpFree_one rfl (.pointer (some ⟨g, 1 + 0, none⟩)) (fun w1 _ => by kernel_rfl) ?_
      simp only [Act.put, List.setIfInBounds_toArray, List.set_cons_succ, List.set_cons_zero]
      refine wpFree_nil (fun w5 hw5 _ => ?_)
      have RR := (RJ.out.drewN 1).le hw5
      have UU := hid ((UJ.out.le (le_drewN _ 1)).le hw5)
      have cc := RR.cell? (1 + 0)
      have ff := RR.frozen (1 + 0)
      replace RR := hid RR
      clear hw5
      go_wp2
      go_roundw
      case rel => exact ⟨0 + 1, by omega, by go_num, by have := RR.out.set (1 + 0) (.float .f32 (kept p)); rw [h2.out] at this; show Row _ _ _ _; rw [h2.out]; simpa using this, UU.out.setCell rfl _⟩
      case measure => simp [intOf]
    · simp only [if_neg (show ¬ (1 : Nat) = 0 by decide), if_pos (show (1 : Nat) < 2 by decide)] at RJ
      clear RG U
      have ix : ∀ w, (Instr.index 27 (.agg #[.float .f32 p, .float .f32 q]) (.int .i64 1)).run Try.prog w = .ok (.float .f32 q) w := fun w => by kernel_rfl
      rw [show ((1 : Nat) : Int) = 1 from rfl]
      go_wp2
      clear ix
      refine region_tail (fun _ _ _ v => v = .float .f32 (kept q)) 7 (by kernel_rfl) (by kernel_rfl) ?_
      simp only [List.take_succ_cons, List.take_zero, List.drop_succ_cons, List.drop_zero]
      refine wpFree_one rfl (.pointer (some ⟨g, 0, none⟩)) (fun w1 _ => by kernel_rfl) ?_
      simp only [Act.put, List.setIfInBounds_toArray, List.set_cons_succ, List.set_cons_zero]
      refine wpFree_one rfl (.int .i64 1) (fun w1 _ => by kernel_rfl) ?_
      simp only [Act.put, List.setIfInBounds_toArray, List.set_cons_succ, List.set_cons_zero]
      refine wpFree_one rfl (.float .f32 q) (fun w1 _ => by kernel_rfl) ?_
      simp only [Act.put, List.setIfInBounds_toArray, List.set_cons_succ, List.set_cons_zero]
      refine wpFree_call rfl rfl Try.func77 (by kernel_rfl) (by kernel_rfl) (args := #[.float .f32 q]) (by simp [Act.eval]) (fun _ _ _ _ h => h) (fun w1 _ => (i_kept q w1 h5.out).mono ?_) ?_
      · rintro e w2 ⟨rfl, rfl⟩
        exact ⟨_, rfl, le_refl _, rfl⟩
      rintro v ⟨_, _, rfl⟩
      simp only [Act.put, List.setIfInBounds_toArray, List.set_cons_succ, List.set_cons_zero]
      refine wpFree_one rfl (.pointer (some ⟨g, 0, none⟩)) (fun w1 _ => by kernel_rfl) ?_
      simp only [Act.put, List.setIfInBounds_toArray, List.set_cons_succ, List.set_cons_zero]
      refine wpFree_one rfl (.pointer (some ⟨g, 1, none⟩)) (fun w1 _ => by kernel_rfl) ?_
      simp only [Act.put, List.setIfInBounds_toArray, List.set_cons_succ, List.set_cons_zero]
      refine wpFree_one rfl (.pointer (some ⟨g, 1 + 1, none⟩)) (fun w1 _ => by kernel_rfl) ?_
      simp only [Act.put, List.setIfInBounds_toArray, List.set_cons_succ, List.set_cons_zero]
      refine wpFree_nil (fun w5 hw5 _ => ?_)
      have RR := (RJ.out.drewN 1).le hw5
      have UU := hid ((UJ.out.le (le_drewN _ 1)).le hw5)
      have cc := RR.cell? (1 + 1)
      have ff := RR.frozen (1 + 1)
      replace RR := hid RR
      clear hw5
      go_wp2
      go_roundw
      case rel => exact ⟨1 + 1, by omega, by go_num, by have := RR.out.set (1 + 1) (.float .f32 (kept q)); rw [h3.out] at this; show Row _ _ _ _; rw [h3.out]; simpa using this, UU.out.setCell rfl _⟩
      case measure => simp [intOf]
    · simp only [if_neg (show ¬ (2 : Nat) = 0 by decide), if_neg (show ¬ (2 : Nat) < 2 by decide)] at RJ
      clear RG U
      go_wp2
      go_ret
      exact ⟨_, rfl, h1.out, h6.out, RJ.out, UJ.out⟩
set_option maxHeartbeats 2000000 in
theorem i_step4 (a b c x y s g : Nat) (w : World) (R : Row w g 103 #[.iface 138 (.agg #[.float .f32 a, .float .f32 b, .float .f32 c]), .float .f32 x, .float .f32 y]) (hx : fits .f32 x) (hs : fits .f32 s) :
    Calls Try.prog 53 #[.pointer (some ⟨g, 0, none⟩), .float .f32 s] w (OutS 4 a b c x y s g 103 (fun u v => #[.iface 138 (.agg #[.float .f32 a, .float .f32 b, .float .f32 c]), .float .f32 u, .float .f32 v]) w) := by
  have Hx := hid hx; have Hs := hid hs; clear hx hs
  have F := Frm.one R
  clear R
  go_enter Try.func53, Try.ntmps53
  go_upto_region 1 with (fail)
  refine region_tail (fun f args _ v => ∃ r p q, v = .tuple #[.float .f32 r, .agg #[.float .f32 p, .float .f32 q]] ∧ can .f32 r = outF 4 a b c x y s ∧ kept p = st0 4 a b c x y s ∧ kept q = st1 4 a b c x y s ∧ fits .f32 p ∧ fits .f32 q ∧ fits .f32 r) 17 (by kernel_rfl) (by kernel_rfl) ?_
  simp only [List.take_succ_cons, List.take_zero, List.drop_succ_cons, List.drop_zero]
  refine wpFree_one rfl (.pointer (some ⟨g, 0, none⟩)) (fun w1 _ => by kernel_rfl) ?_
  simp only [Act.put, List.setIfInBounds_toArray, List.set_cons_succ, List.set_cons_zero]
  refine wpFree_one rfl (.pointer (some ⟨g, 0, none⟩)) (fun w1 _ => by kernel_rfl) ?_
  simp only [Act.put, List.setIfInBounds_toArray, List.set_cons_succ, List.set_cons_zero]
  refine wpFree_one rfl (.pointer (some ⟨g, 0, none⟩)) (fun w1 _ => by kernel_rfl) ?_
  simp only [Act.put, List.setIfInBounds_toArray, List.set_cons_succ, List.set_cons_zero]
  refine wpFree_loadV F rfl rfl rfl rfl List.mem_cons_self rfl (fun w1 => by kernel_rfl) ?_
  simp only [Act.put, List.setIfInBounds_toArray, List.set_cons_succ, List.set_cons_zero]
  refine wpFree_one rfl (.pointer (some ⟨g, 0, none⟩)) (fun w1 _ => by kernel_rfl) ?_
  simp only [Act.put, List.setIfInBounds_toArray, List.set_cons_succ, List.set_cons_zero]
  refine wpFree_one rfl (.pointer (some ⟨g, 0, none⟩)) (fun w1 _ => by kernel_rfl) ?_
  simp only [Act.put, List.setIfInBounds_toArray, List.set_cons_succ, List.set_cons_zero]
  refine wpFree_one rfl (.pointer (some ⟨g, 1, none⟩)) (fun w1 _ => by kernel_rfl) ?_
  simp only [Act.put, List.setIfInBounds_toArray, List.set_cons_succ, List.set_cons_zero]
  refine wpFree_loadPart F rfl rfl rfl rfl (List.mem_cons_self) Try.underlying27 rfl [.float .f32 x, .float .f32 y] (fun j hj => by match j, hj with | 0, _ => rfl | 1, _ => rfl) info2 ?_
  simp only [Act.put, List.setIfInBounds_toArray, List.set_cons_succ, List.set_cons_zero]
  refine wpFree_one rfl (.float .f32 s) (fun w1 _ => by kernel_rfl) ?_
  simp only [Act.put, List.setIfInBounds_toArray, List.set_cons_succ, List.set_cons_zero]
  refine wpFree_one rfl (.iface 138 (.agg #[.float .f32 a, .float .f32 b, .float .f32 c])) (fun w1 _ => by kernel_rfl) ?_
  simp only [Act.put, List.setIfInBounds_toArray, List.set_cons_succ, List.set_cons_zero]
  refine wpFree_one rfl (.iface 138 (.agg #[.float .f32 a, .float .f32 b, .float .f32 c])) (fun w1 _ => by kernel_rfl) ?_
  simp only [Act.put, List.setIfInBounds_toArray, List.set_cons_succ, List.set_cons_zero]
  refine wpFree_callR rfl 116 #[.agg #[.float .f32 a, .float .f32 b, .float .f32 c], .agg #[.float .f32 x, .float .f32 y], .float .f32 s] (fun w1 => by kernel_rfl) (fun _ _ _ _ h => h) (fun w1 _ => (i_next4 a b c x y s w1 Hx.out Hs.out).mono ?_) ?_
  · rintro e w2 ⟨r, p, q, rfl, h1, h2, h3, h4, h5, h6, hl⟩
    exact ⟨_, rfl, hl, r, p, q, rfl, h1, h2, h3, h4, h5, h6⟩
  rintro v ⟨_, _, r, p, q, rfl, h1, h2, h3, h4, h5, h6⟩
  replace h1 := hid h1; replace h2 := hid h2; replace h3 := hid h3; replace h4 := hid h4; replace h5 := hid h5; replace h6 := hid h6
  simp only [Act.put, List.setIfInBounds_toArray, List.set_cons_succ, List.set_cons_zero]
  refine wpFree_one rfl (.tuple #[.float .f32 r, .agg #[.float .f32 p, .float .f32 q]]) (fun w1 _ => by kernel_rfl) ?_
  simp only [Act.put, List.setIfInBounds_toArray, List.set_cons_succ, List.set_cons_zero]
  refine wpFree_one rfl (.float .f32 r) (fun w1 _ => by kernel_rfl) ?_
  simp only [Act.put, List.setIfInBounds_toArray, List.set_cons_succ, List.set_cons_zero]
  refine wpFree_one rfl (.agg #[.float .f32 p, .float .f32 q]) (fun w1 _ => by kernel_rfl) ?_
  simp only [Act.put, List.setIfInBounds_toArray, List.set_cons_succ, List.set_cons_zero]
  refine wpFree_alloc rfl rfl #[.float .f32 0, .float .f32 0] alloc2 (fun g2 hg2 => ?_)
  simp only [Act.put, List.setIfInBounds_toArray, List.set_cons_succ, List.set_cons_zero]
  refine wpFree_one rfl (.float .f32 r) (fun w1 _ => by kernel_rfl) ?_
  simp only [Act.put, List.setIfInBounds_toArray, List.set_cons_succ, List.set_cons_zero]
  refine wpFree_nil (fun w3 hw3 hF => ?_)
  obtain ⟨_, b', hbb, _, hrow⟩ := hF
  obtain rfl : g2 = b' := by simpa using hbb
  have hlt : g < w.heap.size := F.lt List.mem_cons_self
  have hz : w.heap.size ≤ g2 := by simpa using hg2
  have hne : g ≠ g2 := by omega
  refine wpList_storeD rfl rfl rfl (cells := #[.float .f32 p, .float .f32 q]) rfl hrow info2 rfl (by simp [Value.oneCell']) (fun w4 KW => ?_)
  have R2 := KW.row
  have RG := KW.other _ _ _ hne (((F.drewN 1).le hw3).row List.mem_cons_self)
  have U := Upd.of_le (g := g) (KW.below _ _ (le_trans (le_drewN w 1) hw3) hz)
  replace hne := hid hne
  clear hbb hrow hw3 hg2 F KW hlt hz
  replace U := hid U
  replace RG := hid RG
  go_wp2_with (with_reducible refine wpList_loadDn rfl rfl rfl R2 Try.underlying27 rfl info2 (by simp) ?_)
  replace R2 := hid R2
  go_loopw [25] (fun i wr => ∃ j : Nat, j ≤ 2 ∧ i = .int .i64 j ∧ Hid (Row wr g 103 #[.iface 138 (.agg #[.float .f32 a, .float .f32 b, .float .f32 c]), .float .f32 (if j = 0 then x else st0 4 a b c x y s), .float .f32 (if j < 2 then y else st1 4 a b c x y s)]) ∧ Hid (Upd g w wr)) (fun i _ => 2 - (intOf i).toNat)
  case atStart => exact ⟨0, by omega, rfl, RG, U⟩
  case round =>
    obtain ⟨j, hj, rfl, RJ, UJ⟩ := hrel
    rcases (show j = 0 ∨ j = 1 ∨ j = 2 by omega) with rfl | rfl | rfl
    · simp only [if_true, if_pos (show (0 : Nat) < 2 by decide)] at RJ
      clear RG U
      have ix : ∀ w, (Instr.index 27 (.agg #[.float .f32 p, .float .f32 q]) (.int .i64 0)).run Try.prog w = .ok (.float .f32 p) w := fun w => by kernel_rfl
      rw [show ((0 : Nat) : Int) = 0 from rfl]
      go_wp2
      clear ix
      refine region_tail (fun _ _ _ v => v = .float .f32 (kept p)) 7 (by kernel_rfl) (by kernel_rfl) ?_
      simp only [List.take_succ_cons, List.take_zero, List.drop_succ_cons, List.drop_zero]
      refine wpFree_one rfl (.pointer (some ⟨g, 0, none⟩)) (fun w1 _ => by kernel_rfl) ?_
      simp only [Act.put, List.setIfInBounds_toArray, List.set_cons_succ, List.set_cons_zero]
      refine wpFree_one rfl (.int .i64 0) (fun w1 _ => by kernel_rfl) ?_
      simp only [Act.put, List.setIfInBounds_toArray, List.set_cons_succ, List.set_cons_zero]
      refine wpFree_one rfl (.float .f32 p) (fun w1 _ => by kernel_rfl) ?_
      simp only [Act.put, List.setIfInBounds_toArray, List.set_cons_succ, List.set_cons_zero]
      refine wpFree_call rfl rfl Try.func77 (by kernel_rfl) (by kernel_rfl) (args := #[.float .f32 p]) (by simp [Act.eval]) (fun _ _ _ _ h => h) (fun w1 _ => (i_kept p w1 h4.out).mono ?_) ?_
      · rintro e w2 ⟨rfl, rfl⟩
        exact ⟨_, rfl, le_refl _, rfl⟩
      rintro v ⟨_, _, rfl⟩
      simp only [Act.put, List.setIfInBounds_toArray, List.set_cons_succ, List.set_cons_zero]
      refine wpFree_one rfl (.pointer (some ⟨g, 0, none⟩)) (fun w1 _ => by kernel_rfl) ?_
      simp only [Act.put, List.setIfInBounds_toArray, List.set_cons_succ, List.set_cons_zero]
      refine wpFree_one rfl (.pointer (some ⟨g, 1, none⟩)) (fun w1 _ => by kernel_rfl) ?_
      simp only [Act.put, List.setIfInBounds_toArray, List.set_cons_succ, List.set_cons_zero]
      refine wpFree_one rfl (.pointer (some ⟨g, 1 + 0, none⟩)) (fun w1 _ => by kernel_rfl) ?_
      simp only [Act.put, List.setIfInBounds_toArray, List.set_cons_succ, List.set_cons_zero]
      refine wpFree_nil (fun w5 hw5 _ => ?_)
      have RR := (RJ.out.drewN 1).le hw5
      have UU := hid ((UJ.out.le (le_drewN _ 1)).le hw5)
      have cc := RR.cell? (1 + 0)
      have ff := RR.frozen (1 + 0)
      replace RR := hid RR
      clear hw5
      go_wp2
      go_roundw
      case rel => exact ⟨0 + 1, by omega, by go_num, by have := RR.out.set (1 + 0) (.float .f32 (kept p)); rw [h2.out] at this; show Row _ _ _ _; rw [h2.out]; simpa using this, UU.out.setCell rfl _⟩
      case measure => simp [intOf]
    · simp only [if_neg (show ¬ (1 : Nat) = 0 by decide), if_pos (show (1 : Nat) < 2 by decide)] at RJ
      clear RG U
      have ix : ∀ w, (Instr.index 27 (.agg #[.float .f32 p, .float .f32 q]) (.int .i64 1)).run Try.prog w = .ok (.float .f32 q) w := fun w => by kernel_rfl
      rw [show ((1 : Nat) : Int) = 1 from rfl]
      go_wp2
      clear ix
      refine region_tail (fun _ _ _ v => v = .float .f32 (kept q)) 7 (by kernel_rfl) (by kernel_rfl) ?_
      simp only [List.take_succ_cons, List.take_zero, List.drop_succ_cons, List.drop_zero]
      refine wpFree_one rfl (.pointer (some ⟨g, 0, none⟩)) (fun w1 _ => by kernel_rfl) ?_
      simp only [Act.put, List.setIfInBounds_toArray, List.set_cons_succ, List.set_cons_zero]
      refine wpFree_one rfl (.int .i64 1) (fun w1 _ => by kernel_rfl) ?_
      simp only [Act.put, List.setIfInBounds_toArray, List.set_cons_succ, List.set_cons_zero]
      refine wpFree_one rfl (.float .f32 q) (fun w1 _ => by kernel_rfl) ?_
      simp only [Act.put, List.setIfInBounds_toArray, List.set_cons_succ, List.set_cons_zero]
      refine wpFree_call rfl rfl Try.func77 (by kernel_rfl) (by kernel_rfl) (args := #[.float .f32 q]) (by simp [Act.eval]) (fun _ _ _ _ h => h) (fun w1 _ => (i_kept q w1 h5.out).mono ?_) ?_
      · rintro e w2 ⟨rfl, rfl⟩
        exact ⟨_, rfl, le_refl _, rfl⟩
      rintro v ⟨_, _, rfl⟩
      simp only [Act.put, List.setIfInBounds_toArray, List.set_cons_succ, List.set_cons_zero]
      refine wpFree_one rfl (.pointer (some ⟨g, 0, none⟩)) (fun w1 _ => by kernel_rfl) ?_
      simp only [Act.put, List.setIfInBounds_toArray, List.set_cons_succ, List.set_cons_zero]
      refine wpFree_one rfl (.pointer (some ⟨g, 1, none⟩)) (fun w1 _ => by kernel_rfl) ?_
      simp only [Act.put, List.setIfInBounds_toArray, List.set_cons_succ, List.set_cons_zero]
      refine wpFree_one rfl (.pointer (some ⟨g, 1 + 1, none⟩)) (fun w1 _ => by kernel_rfl) ?_
      simp only [Act.put, List.setIfInBounds_toArray, List.set_cons_succ, List.set_cons_zero]
      refine wpFree_nil (fun w5 hw5 _ => ?_)
      have RR := (RJ.out.drewN 1).le hw5
      have UU := hid ((UJ.out.le (le_drewN _ 1)).le hw5)
      have cc := RR.cell? (1 + 1)
      have ff := RR.frozen (1 + 1)
      replace RR := hid RR
      clear hw5
      go_wp2
      go_roundw
      case rel => exact ⟨1 + 1, by omega, by go_num, by have := RR.out.set (1 + 1) (.float .f32 (kept q)); rw [h3.out] at this; show Row _ _ _ _; rw [h3.out]; simpa using this, UU.out.setCell rfl _⟩
      case measure => simp [intOf]
    · simp only [if_neg (show ¬ (2 : Nat) = 0 by decide), if_neg (show ¬ (2 : Nat) < 2 by decide)] at RJ
      clear RG U
      go_wp2
      go_ret
      exact ⟨_, rfl, h1.out, h6.out, RJ.out, UJ.out⟩
set_option maxHeartbeats 2000000 in
theorem i_step5 (a b c x y s g : Nat) (w : World) (R : Row w g 103 #[.iface 139 (.agg #[.float .f32 a, .float .f32 b, .float .f32 c]), .float .f32 x, .float .f32 y]) (hx : fits .f32 x) (hs : fits .f32 s) :
    Calls Try.prog 53 #[.pointer (some ⟨g, 0, none⟩), .float .f32 s] w (OutS 5 a b c x y s g 103 (fun u v => #[.iface 139 (.agg #[.float .f32 a, .float .f32 b, .float .f32 c]), .float .f32 u, .float .f32 v]) w) := by
  have Hx := hid hx; have Hs := hid hs; clear hx hs
  have F := Frm.one R
  clear R
  go_enter Try.func53, Try.ntmps53
  go_upto_region 1 with (fail)
  refine region_tail (fun f args _ v => ∃ r p q, v = .tuple #[.float .f32 r, .agg #[.float .f32 p, .float .f32 q]] ∧ can .f32 r = outF 5 a b c x y s ∧ kept p = st0 5 a b c x y s ∧ kept q = st1 5 a b c x y s ∧ fits .f32 p ∧ fits .f32 q ∧ fits .f32 r) 17 (by kernel_rfl) (by kernel_rfl) ?_
  simp only [List.take_succ_cons, List.take_zero, List.drop_succ_cons, List.drop_zero]
  refine wpFree_one rfl (.pointer (some ⟨g, 0, none⟩)) (fun w1 _ => by kernel_rfl) ?_
  simp only [Act.put, List.setIfInBounds_toArray, List.set_cons_succ, List.set_cons_zero]
  refine wpFree_one rfl (.pointer (some ⟨g, 0, none⟩)) (fun w1 _ => by kernel_rfl) ?_
  simp only [Act.put, List.setIfInBounds_toArray, List.set_cons_succ, List.set_cons_zero]
  refine wpFree_one rfl (.pointer (some ⟨g, 0, none⟩)) (fun w1 _ => by kernel_rfl) ?_
  simp only [Act.put, List.setIfInBounds_toArray, List.set_cons_succ, List.set_cons_zero]
  refine wpFree_loadV F rfl rfl rfl rfl List.mem_cons_self rfl (fun w1 => by kernel_rfl) ?_
  simp only [Act.put, List.setIfInBounds_toArray, List.set_cons_succ, List.set_cons_zero]
  refine wpFree_one rfl (.pointer (some ⟨g, 0, none⟩)) (fun w1 _ => by kernel_rfl) ?_
  simp only [Act.put, List.setIfInBounds_toArray, List.set_cons_succ, List.set_cons_zero]
  refine wpFree_one rfl (.pointer (some ⟨g, 0, none⟩)) (fun w1 _ => by kernel_rfl) ?_
  simp only [Act.put, List.setIfInBounds_toArray, List.set_cons_succ, List.set_cons_zero]
  refine wpFree_one rfl (.pointer (some ⟨g, 1, none⟩)) (fun w1 _ => by kernel_rfl) ?_
  simp only [Act.put, List.setIfInBounds_toArray, List.set_cons_succ, List.set_cons_zero]
  refine wpFree_loadPart F rfl rfl rfl rfl (List.mem_cons_self) Try.underlying27 rfl [.float .f32 x, .float .f32 y] (fun j hj => by match j, hj with | 0, _ => rfl | 1, _ => rfl) info2 ?_
  simp only [Act.put, List.setIfInBounds_toArray, List.set_cons_succ, List.set_cons_zero]
  refine wpFree_one rfl (.float .f32 s) (fun w1 _ => by kernel_rfl) ?_
  simp only [Act.put, List.setIfInBounds_toArray, List.set_cons_succ, List.set_cons_zero]
  refine wpFree_one rfl (.iface 139 (.agg #[.float .f32 a, .float .f32 b, .float .f32 c])) (fun w1 _ => by kernel_rfl) ?_
  simp only [Act.put, List.setIfInBounds_toArray, List.set_cons_succ, List.set_cons_zero]
  refine wpFree_one rfl (.iface 139 (.agg #[.float .f32 a, .float .f32 b, .float .f32 c])) (fun w1 _ => by kernel_rfl) ?_
  simp only [Act.put, List.setIfInBounds_toArray, List.set_cons_succ, List.set_cons_zero]
  refine wpFree_callR rfl 117 #[.agg #[.float .f32 a, .float .f32 b, .float .f32 c], .agg #[.float .f32 x, .float .f32 y], .float .f32 s] (fun w1 => by kernel_rfl) (fun _ _ _ _ h => h) (fun w1 _ => (i_next5 a b c x y s w1 Hx.out Hs.out).mono ?_) ?_
  · rintro e w2 ⟨r, p, q, rfl, h1, h2, h3, h4, h5, h6, hl⟩
    exact ⟨_, rfl, hl, r, p, q, rfl, h1, h2, h3, h4, h5, h6⟩
  rintro v ⟨_, _, r, p, q, rfl, h1, h2, h3, h4, h5, h6⟩
  replace h1 := hid h1; replace h2 := hid h2; replace h3 := hid h3; replace h4 := hid h4; replace h5 := hid h5; replace h6 := hid h6
  simp only [Act.put, List.setIfInBounds_toArray, List.set_cons_succ, List.set_cons_zero]
  refine wpFree_one rfl (.tuple #[.float .f32 r, .agg #[.float .f32 p, .float .f32 q]]) (fun w1 _ => by kernel_rfl) ?_
  simp only [Act.put, List.setIfInBounds_toArray, List.set_cons_succ, List.set_cons_zero]
  refine wpFree_one rfl (.float .f32 r) (fun w1 _ => by kernel_rfl) ?_
  simp only [Act.put, List.setIfInBounds_toArray, List.set_cons_succ, List.set_cons_zero]
  refine wpFree_one rfl (.agg #[.float .f32 p, .float .f32 q]) (fun w1 _ => by kernel_rfl) ?_
  simp only [Act.put, List.setIfInBounds_toArray, List.set_cons_succ, List.set_cons_zero]
  refine wpFree_alloc rfl rfl #[.float .f32 0, .float .f32 0] alloc2 (fun g2 hg2 => ?_)
  simp only [Act.put, List.setIfInBounds_toArray, List.set_cons_succ, List.set_cons_zero]
  refine wpFree_one rfl (.float .f32 r) (fun w1 _ => by kernel_rfl) ?_
  simp only [Act.put, List.setIfInBounds_toArray, List.set_cons_succ, List.set_cons_zero]
  refine wpFree_nil (fun w3 hw3 hF => ?_)
  obtain ⟨_, b', hbb, _, hrow⟩ := hF
  obtain rfl : g2 = b' := by simpa using hbb
  have hlt : g < w.heap.size := F.lt List.mem_cons_self
  have hz : w.heap.size ≤ g2 := by simpa using hg2
  have hne : g ≠ g2 := by omega
  refine wpList_storeD rfl rfl rfl (cells := #[.float .f32 p, .float .f32 q]) rfl hrow info2 rfl (by simp [Value.oneCell']) (fun w4 KW => ?_)
  have R2 := KW.row
  have RG := KW.other _ _ _ hne (((F.drewN 1).le hw3).row List.mem_cons_self)
  have U := Upd.of_le (g := g) (KW.below _ _ (le_trans (le_drewN w 1) hw3) hz)
  replace hne := hid hne
  clear hbb hrow hw3 hg2 F KW hlt hz
  replace U := hid U
  replace RG := hid RG
  go_wp2_with (with_reducible refine wpList_loadDn rfl rfl rfl R2 Try.underlying27 rfl info2 (by simp) ?_)
  replace R2 := hid R2
  go_loopw [25] (fun i wr => ∃ j : Nat, j ≤ 2 ∧ i = .int .i64 j ∧ Hid (Row wr g 103 #[.iface 139 (.agg #[.float .f32 a, .float .f32 b, .float .f32 c]), .float .f32 (if j = 0 then x else st0 5 a b c x y s), .float .f32 (if j < 2 then y else st1 5 a b c x y s)]) ∧ Hid (Upd g w wr)) (fun i _ => 2 - (intOf i).toNat)
  case atStart => exact ⟨0, by omega, rfl, RG, U⟩
  case round =>
    obtain ⟨j, hj, rfl, RJ, UJ⟩ := hrel
    rcases (show j = 0 ∨ j = 1 ∨ j = 2 by omega) with rfl | rfl | rfl
    · simp only [if_true, if_pos (show (0 : Nat) < 2 by decide)] at RJ
      clear RG U
      have ix : ∀ w, (Instr.index 27 (.agg #[.float .f32 p, .float .f32 q]) (.int .i64 0)).run Try.prog w = .ok (.float .f32 p) w := fun w => by kernel_rfl
      rw [show ((0 : Nat) : Int) = 0 from rfl]
      go_wp2
      clear ix
      refine region_tail (fun _ _ _ v => v = .float .f32 (kept p)) 7 (by kernel_rfl) (by kernel_rfl) ?_
      simp only [List.take_succ_cons, List.take_zero, List.drop_succ_cons, List.drop_zero]
      refine wpFree_one rfl (.pointer (some ⟨g, 0, none⟩)) (fun w1 _ => by kernel_rfl) ?_
      simp only [Act.put, List.setIfInBounds_toArray, List.set_cons_succ, List.set_cons_zero]
      refine wpFree_one rfl (.int .i64 0) (fun w1 _ => by kernel_rfl) ?_
      simp only [Act.put, List.setIfInBounds_toArray, List.set_cons_succ, List.set_cons_zero]
      refine wpFree_one rfl (.float .f32 p) (fun w1 _ => by kernel_rfl) ?_
      simp only [Act.put, List.setIfInBounds_toArray, List.set_cons_succ, List.set_cons_zero]
      refine wpFree_call rfl rfl Try.func77 (by kernel_rfl) (by kernel_rfl) (args := #[.float .f32 p]) (by simp [Act.eval]) (fun _ _ _ _ h => h) (fun w1 _ => (i_kept p w1 h4.out).mono ?_) ?_
      · rintro e w2 ⟨rfl, rfl⟩
        exact ⟨_, rfl, le_refl _, rfl⟩
      rintro v ⟨_, _, rfl⟩
      simp only [Act.put, List.setIfInBounds_toArray, List.set_cons_succ, List.set_cons_zero]
      refine wpFree_one rfl (.pointer (some ⟨g, 0, none⟩)) (fun w1 _ => by kernel_rfl) ?_
      simp only [Act.put, List.setIfInBounds_toArray, List.set_cons_succ, List.set_cons_zero]
      refine wpFree_one rfl (.pointer (some ⟨g, 1, none⟩)) (fun w1 _ => by kernel_rfl) ?_
      simp only [Act.put, List.setIfInBounds_toArray, List.set_cons_succ, List.set_cons_zero]
      refine wpFree_one rfl (.pointer (some ⟨g, 1 + 0, none⟩)) (fun w1 _ => by kernel_rfl) ?_
      simp only [Act.put, List.setIfInBounds_toArray, List.set_cons_succ, List.set_cons_zero]
      refine wpFree_nil (fun w5 hw5 _ => ?_)
      have RR := (RJ.out.drewN 1).le hw5
      have UU := hid ((UJ.out.le (le_drewN _ 1)).le hw5)
      have cc := RR.cell? (1 + 0)
      have ff := RR.frozen (1 + 0)
      replace RR := hid RR
      clear hw5
      go_wp2
      go_roundw
      case rel => exact ⟨0 + 1, by omega, by go_num, by have := RR.out.set (1 + 0) (.float .f32 (kept p)); rw [h2.out] at this; show Row _ _ _ _; rw [h2.out]; simpa using this, UU.out.setCell rfl _⟩
      case measure => simp [intOf]
    · simp only [if_neg (show ¬ (1 : Nat) = 0 by decide), if_pos (show (1 : Nat) < 2 by decide)] at RJ
      clear RG U
      have ix : ∀ w, (Instr.index 27 (.agg #[.float .f32 p, .float .f32 q]) (.int .i64 1)).run Try.prog w = .ok (.float .f32 q) w := fun w => by kernel_rfl
      rw [show ((1 : Nat) : Int) = 1 from rfl]
      go_wp2
      clear ix
      refine region_tail (fun _ _ _ v => v = .float .f32 (kept q)) 7 (by kernel_rfl) (by kernel_rfl) ?_
      simp only [List.take_succ_cons, List.take_zero, List.drop_succ_cons, List.drop_zero]
      refine wpFree_one rfl (.pointer (some ⟨g, 0, none⟩)) (fun w1 _ => by kernel_rfl) ?_
      simp only [Act.put, List.setIfInBounds_toArray, List.set_cons_succ, List.set_cons_zero]
      refine wpFree_one rfl (.int .i64 1) (fun w1 _ => by kernel_rfl) ?_
      simp only [Act.put, List.setIfInBounds_toArray, List.set_cons_succ, List.set_cons_zero]
      refine wpFree_one rfl (.float .f32 q) (fun w1 _ => by kernel_rfl) ?_
      simp only [Act.put, List.setIfInBounds_toArray, List.set_cons_succ, List.set_cons_zero]
      refine wpFree_call rfl rfl Try.func77 (by kernel_rfl) (by kernel_rfl) (args := #[.float .f32 q]) (by simp [Act.eval]) (fun _ _ _ _ h => h) (fun w1 _ => (i_kept q w1 h5.out).mono ?_) ?_
      · rintro e w2 ⟨rfl, rfl⟩
        exact ⟨_, rfl, le_refl _, rfl⟩
      rintro v ⟨_, _, rfl⟩
      simp only [Act.put, List.setIfInBounds_toArray, List.set_cons_succ, List.set_cons_zero]
      refine wpFree_one rfl (.pointer (some ⟨g, 0, none⟩)) (fun w1 _ => by kernel_rfl) ?_
      simp only [Act.put, List.setIfInBounds_toArray, List.set_cons_succ, List.set_cons_zero]
      refine wpFree_one rfl (.pointer (some ⟨g, 1, none⟩)) (fun w1 _ => by kernel_rfl) ?_
      simp only [Act.put, List.setIfInBounds_toArray, List.set_cons_succ, List.set_cons_zero]
      refine wpFree_one rfl (.pointer (some ⟨g, 1 + 1, none⟩)) (fun w1 _ => by kernel_rfl) ?_
      simp only [Act.put, List.setIfInBounds_toArray, List.set_cons_succ, List.set_cons_zero]
      refine wpFree_nil (fun w5 hw5 _ => ?_)
      have RR := (RJ.out.drewN 1).le hw5
      have UU := hid ((UJ.out.le (le_drewN _ 1)).le hw5)
      have cc := RR.cell? (1 + 1)
      have ff := RR.frozen (1 + 1)
      replace RR := hid RR
      clear hw5
      go_wp2
      go_roundw
      case rel => exact ⟨1 + 1, by omega, by go_num, by have := RR.out.set (1 + 1) (.float .f32 (kept q)); rw [h3.out] at this; show Row _ _ _ _; rw [h3.out]; simpa using this, UU.out.setCell rfl _⟩
      case measure => simp [intOf]
    · simp only [if_neg (show ¬ (2 : Nat) = 0 by decide), if_neg (show ¬ (2 : Nat) < 2 by decide)] at RJ
      clear RG U
      go_wp2
      go_ret
      exact ⟨_, rfl, h1.out, h6.out, RJ.out, UJ.out⟩
end Go.Proofs.Ythjdklolbkhbfaa

/- The model's step of a filter, kind by kind. -/
namespace Go.Proofs.Ythjdklolbkhbfaa
open Go.RowKit Go.Fk
set_option maxRecDepth 100000 in
set_option maxHeartbeats 2000000 in
theorem s_Step1 (a b c x y s g : Nat) (w : World) (R : Row w g 36 (#[.int .i64 1, .float .f32 a, .float .f32 b, .float .f32 c, .float .f32 x, .float .f32 y] : Array Value)) (hx : fits .f32 x) (hs : fits .f32 s) (hy : y = 0) :
    Calls Try.prog 46 #[.pointer (some ⟨g, 0, none⟩), .float .f32 s] w (OutS 1 a b c x y s g 36 (fun u v => (#[.int .i64 1, .float .f32 a, .float .f32 b, .float .f32 c, .float .f32 u, .float .f32 v] : Array Value)) w) := by
  subst hy
  have Hx := hid hx; have Hs := hid hs; clear hx hs
  have F := Frm.one R
  have U := hid (Upd.refl g w)
  obtain ⟨c0, c1, c2, c3, c4, c5⟩ := R.six
  clear R
  go_enter Try.func46, Try.ntmps46
  go_wp2
  refine region_free (fun _ _ _ _ => True) (by kernel_rfl) (by kernel_rfl) ?_
  refine wpFree_one rfl (.pointer (some ⟨g, 0, none⟩)) (fun w1 _ => by kernel_rfl) ?_
  simp only [Act.put, List.setIfInBounds_toArray, List.set_cons_succ, List.set_cons_zero]
  refine wpFree_one rfl (.pointer (some ⟨g, 0, none⟩)) (fun w1 _ => by kernel_rfl) ?_
  simp only [Act.put, List.setIfInBounds_toArray, List.set_cons_succ, List.set_cons_zero]
  refine wpFree_one rfl (.pointer (some ⟨g, 1, none⟩)) (fun w1 _ => by kernel_rfl) ?_
  simp only [Act.put, List.setIfInBounds_toArray, List.set_cons_succ, List.set_cons_zero]
  refine wpFree_one rfl (.pointer (some ⟨g, 1, none⟩)) (fun w1 _ => by kernel_rfl) ?_
  simp only [Act.put, List.setIfInBounds_toArray, List.set_cons_succ, List.set_cons_zero]
  refine wpFree_loadF F rfl rfl rfl rfl List.mem_cons_self rfl Try.underlying25 ?_
  simp only [Act.put, List.setIfInBounds_toArray, List.set_cons_succ, List.set_cons_zero]
  refine wpFree_one rfl (.float .f32 s) (fun w1 _ => by kernel_rfl) ?_
  simp only [Act.put, List.setIfInBounds_toArray, List.set_cons_succ, List.set_cons_zero]
  refine wpFree_farith rfl rfl rfl rfl rfl (fun r53 h53 f53 => ?_)
  simp only [Act.put, List.setIfInBounds_toArray, List.set_cons_succ, List.set_cons_zero]
  refine wpFree_one rfl (.pointer (some ⟨g, 0, none⟩)) (fun w1 _ => by kernel_rfl) ?_
  simp only [Act.put, List.setIfInBounds_toArray, List.set_cons_succ, List.set_cons_zero]
  refine wpFree_one rfl (.pointer (some ⟨g, 0, none⟩)) (fun w1 _ => by kernel_rfl) ?_
  simp only [Act.put, List.setIfInBounds_toArray, List.set_cons_succ, List.set_cons_zero]
  refine wpFree_one rfl (.pointer (some ⟨g, 1, none⟩)) (fun w1 _ => by kernel_rfl) ?_
  simp only [Act.put, List.setIfInBounds_toArray, List.set_cons_succ, List.set_cons_zero]
  refine wpFree_one rfl (.pointer (some ⟨g, 1 + 1, none⟩)) (fun w1 _ => by kernel_rfl) ?_
  simp only [Act.put, List.setIfInBounds_toArray, List.set_cons_succ, List.set_cons_zero]
  refine wpFree_loadF F rfl rfl rfl rfl List.mem_cons_self rfl Try.underlying25 ?_
  simp only [Act.put, List.setIfInBounds_toArray, List.set_cons_succ, List.set_cons_zero]
  refine wpFree_one rfl (.float .f32 x) (fun w1 _ => by kernel_rfl) ?_
  simp only [Act.put, List.setIfInBounds_toArray, List.set_cons_succ, List.set_cons_zero]
  refine wpFree_farith rfl rfl rfl rfl rfl (fun r60 h60 f60 => ?_)
  simp only [Act.put, List.setIfInBounds_toArray, List.set_cons_succ, List.set_cons_zero]
  refine wpFree_farith rfl rfl rfl rfl rfl (fun r61 h61 f61 => ?_)
  simp only [Act.put, List.setIfInBounds_toArray, List.set_cons_succ, List.set_cons_zero]
  refine wpFree_one rfl (.float .f32 r61) (fun w1 _ => by kernel_rfl) ?_
  simp only [Act.put, List.setIfInBounds_toArray, List.set_cons_succ, List.set_cons_zero]
  refine wpFree_nil (fun w3 hw3 _ => ?_)
  replace U := hid ((U.out.le (le_drewN _ 1)).le hw3)
  replace F := Frm.one (((F.drewN 1).le hw3).row List.mem_cons_self)
  clear hw3 c0 c1 c2 c3 c4 c5
  have e : can .f32 r61 = outF 1 a b c x 0 s := (by rw [h61.out]; exact fop_congr (h53.out.trans (can_fop _ _ _ _).symm) (h60.out.trans (can_fop _ _ _ _).symm))
  have hf := f61
  replace e := hid e
  go_wp2
  refine region_tail (fun _ _ _ v => v = .float .f32 (kept r61)) 6 (by kernel_rfl) (by kernel_rfl) ?_
  simp only [List.take_succ_cons, List.take_zero, List.drop_succ_cons, List.drop_zero]
  refine wpFree_one rfl (.pointer (some ⟨g, 0, none⟩)) (fun w1 _ => by kernel_rfl) ?_
  simp only [Act.put, List.setIfInBounds_toArray, List.set_cons_succ, List.set_cons_zero]
  refine wpFree_one rfl (.float .f32 r61) (fun w1 _ => by kernel_rfl) ?_
  simp only [Act.put, List.setIfInBounds_toArray, List.set_cons_succ, List.set_cons_zero]
  refine wpFree_call rfl rfl Try.func61 (by kernel_rfl) (by kernel_rfl) (args := #[.float .f32 r61]) (by simp [Act.eval]) (fun _ _ _ _ h => h) (fun w1 _ => (s_Kept r61 w1 hf.out).mono ?_) ?_
  · rintro e w2 ⟨rfl, n, rfl⟩
    exact ⟨_, rfl, le_drewN _ n, rfl⟩
  rintro v ⟨_, _, rfl⟩
  simp only [Act.put, List.setIfInBounds_toArray, List.set_cons_succ, List.set_cons_zero]
  refine wpFree_one rfl (.pointer (some ⟨g, 0, none⟩)) (fun w1 _ => by kernel_rfl) ?_
  simp only [Act.put, List.setIfInBounds_toArray, List.set_cons_succ, List.set_cons_zero]
  refine wpFree_one rfl (.pointer (some ⟨g, 4, none⟩)) (fun w1 _ => by kernel_rfl) ?_
  simp only [Act.put, List.setIfInBounds_toArray, List.set_cons_succ, List.set_cons_zero]
  refine wpFree_one rfl (.pointer (some ⟨g, 4, none⟩)) (fun w1 _ => by kernel_rfl) ?_
  simp only [Act.put, List.setIfInBounds_toArray, List.set_cons_succ, List.set_cons_zero]
  refine wpFree_nil (fun w5 hw5 _ => ?_)
  have RR := ((F.drewN 1).le hw5).row List.mem_cons_self
  replace U := hid (((U.out.le (le_drewN _ 1)).le hw5).setCell (a := ⟨g, 4, none⟩) rfl (.float .f32 (kept r61)))
  have cc := RR.cell? 4
  have ff := RR.frozen 4
  have RN := RR.set 4 (.float .f32 (kept r61))
  replace RN : Row (w5.setCell ⟨g, 4, none⟩ (.float .f32 (kept r61))) g 36 (#[.int .i64 1, .float .f32 a, .float .f32 b, .float .f32 c, .float .f32 (kept r61), .float .f32 0] : Array Value) := by simpa using RN
  replace RR := hid RR
  clear hw5 F
  have F := Frm.one RN
  clear RN
  have RN := hid (F.row List.mem_cons_self)
  clear F
  go_wp2
  go_ret
  refine ⟨_, rfl, e.out, hf.out, ?_, U.out⟩
  have e0 : (kept r61) = st0 1 a b c x 0 s := by exact kept_can (e.out.trans (can_outF _ _ _ _ _ _ _).symm)
  have e1 : 0 = st1 1 a b c x 0 s := by rfl
  rw [← e0, ← e1]
  exact RN.out
set_option maxRecDepth 100000 in
set_option maxHeartbeats 2000000 in
theorem s_Step2 (a b c x y s g : Nat) (w : World) (R : Row w g 36 (#[.int .i64 2, .float .f32 a, .float .f32 b, .float .f32 c, .float .f32 x, .float .f32 y] : Array Value)) (hx : fits .f32 x) (hs : fits .f32 s) (hy : y = 0) :
    Calls Try.prog 46 #[.pointer (some ⟨g, 0, none⟩), .float .f32 s] w (OutS 2 a b c x y s g 36 (fun u v => (#[.int .i64 2, .float .f32 a, .float .f32 b, .float .f32 c, .float .f32 u, .float .f32 v] : Array Value)) w) := by
  subst hy
  have Hx := hid hx; have Hs := hid hs; clear hx hs
  have F := Frm.one R
  have U := hid (Upd.refl g w)
  obtain ⟨c0, c1, c2, c3, c4, c5⟩ := R.six
  clear R
  go_enter Try.func46, Try.ntmps46
  go_wp2
  refine region_free (fun _ _ _ _ => True) (by kernel_rfl) (by kernel_rfl) ?_
  refine wpFree_one rfl (.pointer (some ⟨g, 0, none⟩)) (fun w1 _ => by kernel_rfl) ?_
  simp only [Act.put, List.setIfInBounds_toArray, List.set_cons_succ, List.set_cons_zero]
  refine wpFree_one rfl (.pointer (some ⟨g, 0, none⟩)) (fun w1 _ => by kernel_rfl) ?_
  simp only [Act.put, List.setIfInBounds_toArray, List.set_cons_succ, List.set_cons_zero]
  refine wpFree_one rfl (.pointer (some ⟨g, 1, none⟩)) (fun w1 _ => by kernel_rfl) ?_
  simp only [Act.put, List.setIfInBounds_toArray, List.set_cons_succ, List.set_cons_zero]
  refine wpFree_one rfl (.pointer (some ⟨g, 1, none⟩)) (fun w1 _ => by kernel_rfl) ?_
  simp only [Act.put, List.setIfInBounds_toArray, List.set_cons_succ, List.set_cons_zero]
  refine wpFree_loadF F rfl rfl rfl rfl List.mem_cons_self rfl Try.underlying25 ?_
  simp only [Act.put, List.setIfInBounds_toArray, List.set_cons_succ, List.set_cons_zero]
  refine wpFree_one rfl (.float .f32 s) (fun w1 _ => by kernel_rfl) ?_
  simp only [Act.put, List.setIfInBounds_toArray, List.set_cons_succ, List.set_cons_zero]
  refine wpFree_farith rfl rfl rfl rfl rfl (fun r76 h76 f76 => ?_)
  simp only [Act.put, List.setIfInBounds_toArray, List.set_cons_succ, List.set_cons_zero]
  refine wpFree_one rfl (.pointer (some ⟨g, 0, none⟩)) (fun w1 _ => by kernel_rfl) ?_
  simp only [Act.put, List.setIfInBounds_toArray, List.set_cons_succ, List.set_cons_zero]
  refine wpFree_one rfl (.pointer (some ⟨g, 0, none⟩)) (fun w1 _ => by kernel_rfl) ?_
  simp only [Act.put, List.setIfInBounds_toArray, List.set_cons_succ, List.set_cons_zero]
  refine wpFree_one rfl (.pointer (some ⟨g, 1, none⟩)) (fun w1 _ => by kernel_rfl) ?_
  simp only [Act.put, List.setIfInBounds_toArray, List.set_cons_succ, List.set_cons_zero]
  refine wpFree_one rfl (.pointer (some ⟨g, 1 + 1, none⟩)) (fun w1 _ => by kernel_rfl) ?_
  simp only [Act.put, List.setIfInBounds_toArray, List.set_cons_succ, List.set_cons_zero]
  refine wpFree_loadF F rfl rfl rfl rfl List.mem_cons_self rfl Try.underlying25 ?_
  simp only [Act.put, List.setIfInBounds_toArray, List.set_cons_succ, List.set_cons_zero]
  refine wpFree_one rfl (.float .f32 x) (fun w1 _ => by kernel_rfl) ?_
  simp only [Act.put, List.setIfInBounds_toArray, List.set_cons_succ, List.set_cons_zero]
  refine wpFree_farith rfl rfl rfl rfl rfl (fun r83 h83 f83 => ?_)
  simp only [Act.put, List.setIfInBounds_toArray, List.set_cons_succ, List.set_cons_zero]
  refine wpFree_farith rfl rfl rfl rfl rfl (fun r84 h84 f84 => ?_)
  simp only [Act.put, List.setIfInBounds_toArray, List.set_cons_succ, List.set_cons_zero]
  refine wpFree_one rfl (.float .f32 r84) (fun w1 _ => by kernel_rfl) ?_
  simp only [Act.put, List.setIfInBounds_toArray, List.set_cons_succ, List.set_cons_zero]
  refine wpFree_nil (fun w3 hw3 _ => ?_)
  replace U := hid ((U.out.le (le_drewN _ 1)).le hw3)
  replace F := Frm.one (((F.drewN 1).le hw3).row List.mem_cons_self)
  clear hw3 c0 c1 c2 c3 c4 c5
  have e : can .f32 r84 = outF 2 a b c x 0 s := (by rw [h84.out]; exact fop_congr (h76.out.trans (can_fop _ _ _ _).symm) (h83.out.trans (can_fop _ _ _ _).symm))
  have hf := f84
  replace e := hid e
  go_wp2
  refine region_tail (fun _ _ _ v => v = .float .f32 (kept s)) 6 (by kernel_rfl) (by kernel_rfl) ?_
  simp only [List.take_succ_cons, List.take_zero, List.drop_succ_cons, List.drop_zero]
  refine wpFree_one rfl (.pointer (some ⟨g, 0, none⟩)) (fun w1 _ => by kernel_rfl) ?_
  simp only [Act.put, List.setIfInBounds_toArray, List.set_cons_succ, List.set_cons_zero]
  refine wpFree_one rfl (.float .f32 s) (fun w1 _ => by kernel_rfl) ?_
  simp only [Act.put, List.setIfInBounds_toArray, List.set_cons_succ, List.set_cons_zero]
  refine wpFree_call rfl rfl Try.func61 (by kernel_rfl) (by kernel_rfl) (args := #[.float .f32 s]) (by simp [Act.eval]) (fun _ _ _ _ h => h) (fun w1 _ => (s_Kept s w1 Hs.out).mono ?_) ?_
  · rintro e w2 ⟨rfl, n, rfl⟩
    exact ⟨_, rfl, le_drewN _ n, rfl⟩
  rintro v ⟨_, _, rfl⟩
  simp only [Act.put, List.setIfInBounds_toArray, List.set_cons_succ, List.set_cons_zero]
  refine wpFree_one rfl (.pointer (some ⟨g, 0, none⟩)) (fun w1 _ => by kernel_rfl) ?_
  simp only [Act.put, List.setIfInBounds_toArray, List.set_cons_succ, List.set_cons_zero]
  refine wpFree_one rfl (.pointer (some ⟨g, 4, none⟩)) (fun w1 _ => by kernel_rfl) ?_
  simp only [Act.put, List.setIfInBounds_toArray, List.set_cons_succ, List.set_cons_zero]
  refine wpFree_one rfl (.pointer (some ⟨g, 4, none⟩)) (fun w1 _ => by kernel_rfl) ?_
  simp only [Act.put, List.setIfInBounds_toArray, List.set_cons_succ, List.set_cons_zero]
  refine wpFree_nil (fun w5 hw5 _ => ?_)
  have RR := ((F.drewN 1).le hw5).row List.mem_cons_self
  replace U := hid (((U.out.le (le_drewN _ 1)).le hw5).setCell (a := ⟨g, 4, none⟩) rfl (.float .f32 (kept s)))
  have cc := RR.cell? 4
  have ff := RR.frozen 4
  have RN := RR.set 4 (.float .f32 (kept s))
  replace RN : Row (w5.setCell ⟨g, 4, none⟩ (.float .f32 (kept s))) g 36 (#[.int .i64 2, .float .f32 a, .float .f32 b, .float .f32 c, .float .f32 (kept s), .float .f32 0] : Array Value) := by simpa using RN
  replace RR := hid RR
  clear hw5 F
  have F := Frm.one RN
  clear RN
  have RN := hid (F.row List.mem_cons_self)
  clear F
  go_wp2
  go_ret
  refine ⟨_, rfl, e.out, hf.out, ?_, U.out⟩
  have e0 : (kept s) = st0 2 a b c x 0 s := by rfl
  have e1 : 0 = st1 2 a b c x 0 s := by rfl
  rw [← e0, ← e1]
  exact RN.out
set_option maxRecDepth 100000 in
set_option maxHeartbeats 2000000 in
theorem s_Step3 (a b c x y s g : Nat) (w : World) (R : Row w g 36 (#[.int .i64 3, .float .f32 a, .float .f32 b, .float .f32 c, .float .f32 x, .float .f32 y] : Array Value)) (hx : fits .f32 x) (hs : fits .f32 s) :
    Calls Try.prog 46 #[.pointer (some ⟨g, 0, none⟩), .float .f32 s] w (OutS 3 a b c x y s g 36 (fun u v => (#[.int .i64 3, .float .f32 a, .float .f32 b, .float .f32 c, .float .f32 u, .float .f32 v] : Array Value)) w) := by
  have Hx := hid hx; have Hs := hid hs; clear hx hs
  have F := Frm.one R
  have U := hid (Upd.refl g w)
  obtain ⟨c0, c1, c2, c3, c4, c5⟩ := R.six
  clear R
  go_enter Try.func46, Try.ntmps46
  go_wp2_with (with_reducible refine wpList_farith rfl rfl rfl rfl rfl ?_; intro r n hr hf)
  rename_i r1 n1 h1 f1 r2 n2 h2 f2 KK aa
  clear c0 c1 c2 c3 c4 c5
  have e : can .f32 r = outF 3 a b c x y s := (by rw [hr.out]; exact fop_congr (h2.out.trans ((fop_congr rfl (h1.out.trans (can_fop _ _ _ _).symm)).trans (can_fop _ _ _ _).symm)) rfl)
  replace U := hid (U.out.le (le_drewN _ (n1 + n2 + n)))
  replace F := Frm.one ((F.drewN (n1 + n2 + n)).row List.mem_cons_self)
  replace e := hid e
  refine region_tail (fun _ _ _ v => v = .float .f32 (kept s)) 6 (by kernel_rfl) (by kernel_rfl) ?_
  simp only [List.take_succ_cons, List.take_zero, List.drop_succ_cons, List.drop_zero]
  refine wpFree_one rfl (.pointer (some ⟨g, 0, none⟩)) (fun w1 _ => by kernel_rfl) ?_
  simp only [Act.put, List.setIfInBounds_toArray, List.set_cons_succ, List.set_cons_zero]
  refine wpFree_one rfl (.float .f32 s) (fun w1 _ => by kernel_rfl) ?_
  simp only [Act.put, List.setIfInBounds_toArray, List.set_cons_succ, List.set_cons_zero]
  refine wpFree_call rfl rfl Try.func61 (by kernel_rfl) (by kernel_rfl) (args := #[.float .f32 s]) (by simp [Act.eval]) (fun _ _ _ _ h => h) (fun w1 _ => (s_Kept s w1 Hs.out).mono ?_) ?_
  · rintro e w2 ⟨rfl, n, rfl⟩
    exact ⟨_, rfl, le_drewN _ n, rfl⟩
  rintro v ⟨_, _, rfl⟩
  simp only [Act.put, List.setIfInBounds_toArray, List.set_cons_succ, List.set_cons_zero]
  refine wpFree_one rfl (.pointer (some ⟨g, 0, none⟩)) (fun w1 _ => by kernel_rfl) ?_
  simp only [Act.put, List.setIfInBounds_toArray, List.set_cons_succ, List.set_cons_zero]
  refine wpFree_one rfl (.pointer (some ⟨g, 4, none⟩)) (fun w1 _ => by kernel_rfl) ?_
  simp only [Act.put, List.setIfInBounds_toArray, List.set_cons_succ, List.set_cons_zero]
  refine wpFree_one rfl (.pointer (some ⟨g, 4, none⟩)) (fun w1 _ => by kernel_rfl) ?_
  simp only [Act.put, List.setIfInBounds_toArray, List.set_cons_succ, List.set_cons_zero]
  refine wpFree_nil (fun w5 hw5 _ => ?_)
  have RR := ((F.drewN 1).le hw5).row List.mem_cons_self
  replace U := hid (((U.out.le (le_drewN _ 1)).le hw5).setCell (a := ⟨g, 4, none⟩) rfl (.float .f32 (kept s)))
  have cc := RR.cell? 4
  have ff := RR.frozen 4
  have RN := RR.set 4 (.float .f32 (kept s))
  replace RN : Row (w5.setCell ⟨g, 4, none⟩ (.float .f32 (kept s))) g 36 (#[.int .i64 3, .float .f32 a, .float .f32 b, .float .f32 c, .float .f32 (kept s), .float .f32 y] : Array Value) := by simpa using RN
  replace RR := hid RR
  clear hw5 F
  have F := Frm.one RN
  clear RN
  go_wp2
  refine region_tail (fun _ _ _ v => v = .float .f32 (kept r)) 6 (by kernel_rfl) (by kernel_rfl) ?_
  simp only [List.take_succ_cons, List.take_zero, List.drop_succ_cons, List.drop_zero]
  refine wpFree_one rfl (.pointer (some ⟨g, 0, none⟩)) (fun w1 _ => by kernel_rfl) ?_
  simp only [Act.put, List.setIfInBounds_toArray, List.set_cons_succ, List.set_cons_zero]
  refine wpFree_one rfl (.float .f32 r) (fun w1 _ => by kernel_rfl) ?_
  simp only [Act.put, List.setIfInBounds_toArray, List.set_cons_succ, List.set_cons_zero]
  refine wpFree_call rfl rfl Try.func61 (by kernel_rfl) (by kernel_rfl) (args := #[.float .f32 r]) (by simp [Act.eval]) (fun _ _ _ _ h => h) (fun w1 _ => (s_Kept r w1 hf.out).mono ?_) ?_
  · rintro e w2 ⟨rfl, n, rfl⟩
    exact ⟨_, rfl, le_drewN _ n, rfl⟩
  rintro v ⟨_, _, rfl⟩
  simp only [Act.put, List.setIfInBounds_toArray, List.set_cons_succ, List.set_cons_zero]
  refine wpFree_one rfl (.pointer (some ⟨g, 0, none⟩)) (fun w1 _ => by kernel_rfl) ?_
  simp only [Act.put, List.setIfInBounds_toArray, List.set_cons_succ, List.set_cons_zero]
  refine wpFree_one rfl (.pointer (some ⟨g, 4, none⟩)) (fun w1 _ => by kernel_rfl) ?_
  simp only [Act.put, List.setIfInBounds_toArray, List.set_cons_succ, List.set_cons_zero]
  refine wpFree_one rfl (.pointer (some ⟨g, 4 + 1, none⟩)) (fun w1 _ => by kernel_rfl) ?_
  simp only [Act.put, List.setIfInBounds_toArray, List.set_cons_succ, List.set_cons_zero]
  refine wpFree_nil (fun w5 hw5 _ => ?_)
  have RR := ((F.drewN 1).le hw5).row List.mem_cons_self
  replace U := hid (((U.out.le (le_drewN _ 1)).le hw5).setCell (a := ⟨g, 5, none⟩) rfl (.float .f32 (kept r)))
  have cc := RR.cell? 5
  have ff := RR.frozen 5
  have RN := RR.set 5 (.float .f32 (kept r))
  replace RN : Row (w5.setCell ⟨g, 5, none⟩ (.float .f32 (kept r))) g 36 (#[.int .i64 3, .float .f32 a, .float .f32 b, .float .f32 c, .float .f32 (kept s), .float .f32 (kept r)] : Array Value) := by simpa using RN
  replace RR := hid RR
  clear hw5 F
  have F := Frm.one RN
  clear RN
  have RN := hid (F.row List.mem_cons_self)
  clear F
  go_wp2
  go_ret
  refine ⟨_, rfl, e.out, hf.out, ?_, U.out⟩
  have e0 : (kept s) = st0 3 a b c x y s := by rfl
  have e1 : (kept r) = st1 3 a b c x y s := by exact kept_can (e.out.trans (can_outF _ _ _ _ _ _ _).symm)
  rw [← e0, ← e1]
  exact RN.out
set_option maxRecDepth 100000 in
set_option maxHeartbeats 2000000 in
theorem s_Step4 (a b c x y s g : Nat) (w : World) (R : Row w g 36 (#[.int .i64 4, .float .f32 a, .float .f32 b, .float .f32 c, .float .f32 x, .float .f32 y] : Array Value)) (hx : fits .f32 x) (hs : fits .f32 s) :
    Calls Try.prog 46 #[.pointer (some ⟨g, 0, none⟩), .float .f32 s] w (OutS 4 a b c x y s g 36 (fun u v => (#[.int .i64 4, .float .f32 a, .float .f32 b, .float .f32 c, .float .f32 u, .float .f32 v] : Array Value)) w) := by
  have Hx := hid hx; have Hs := hid hs; clear hx hs
  have F := Frm.one R
  have U := hid (Upd.refl g w)
  obtain ⟨c0, c1, c2, c3, c4, c5⟩ := R.six
  clear R
  go_enter Try.func46, Try.ntmps46
  go_wp2
  refine region_free (fun _ _ _ _ => True) (by kernel_rfl) (by kernel_rfl) ?_
  refine wpFree_one rfl (.pointer (some ⟨g, 0, none⟩)) (fun w1 _ => by kernel_rfl) ?_
  simp only [Act.put, List.setIfInBounds_toArray, List.set_cons_succ, List.set_cons_zero]
  refine wpFree_one rfl (.pointer (some ⟨g, 0, none⟩)) (fun w1 _ => by kernel_rfl) ?_
  simp only [Act.put, List.setIfInBounds_toArray, List.set_cons_succ, List.set_cons_zero]
  refine wpFree_one rfl (.pointer (some ⟨g, 1, none⟩)) (fun w1 _ => by kernel_rfl) ?_
  simp only [Act.put, List.setIfInBounds_toArray, List.set_cons_succ, List.set_cons_zero]
  refine wpFree_one rfl (.pointer (some ⟨g, 1, none⟩)) (fun w1 _ => by kernel_rfl) ?_
  simp only [Act.put, List.setIfInBounds_toArray, List.set_cons_succ, List.set_cons_zero]
  refine wpFree_loadF F rfl rfl rfl rfl List.mem_cons_self rfl Try.underlying25 ?_
  simp only [Act.put, List.setIfInBounds_toArray, List.set_cons_succ, List.set_cons_zero]
  refine wpFree_one rfl (.float .f32 s) (fun w1 _ => by kernel_rfl) ?_
  simp only [Act.put, List.setIfInBounds_toArray, List.set_cons_succ, List.set_cons_zero]
  refine wpFree_farith rfl rfl rfl rfl rfl (fun r124 h124 f124 => ?_)
  simp only [Act.put, List.setIfInBounds_toArray, List.set_cons_succ, List.set_cons_zero]
  refine wpFree_one rfl (.pointer (some ⟨g, 0, none⟩)) (fun w1 _ => by kernel_rfl) ?_
  simp only [Act.put, List.setIfInBounds_toArray, List.set_cons_succ, List.set_cons_zero]
  refine wpFree_one rfl (.pointer (some ⟨g, 0, none⟩)) (fun w1 _ => by kernel_rfl) ?_
  simp only [Act.put, List.setIfInBounds_toArray, List.set_cons_succ, List.set_cons_zero]
  refine wpFree_one rfl (.pointer (some ⟨g, 1, none⟩)) (fun w1 _ => by kernel_rfl) ?_
  simp only [Act.put, List.setIfInBounds_toArray, List.set_cons_succ, List.set_cons_zero]
  refine wpFree_one rfl (.pointer (some ⟨g, 1 + 1, none⟩)) (fun w1 _ => by kernel_rfl) ?_
  simp only [Act.put, List.setIfInBounds_toArray, List.set_cons_succ, List.set_cons_zero]
  refine wpFree_loadF F rfl rfl rfl rfl List.mem_cons_self rfl Try.underlying25 ?_
  simp only [Act.put, List.setIfInBounds_toArray, List.set_cons_succ, List.set_cons_zero]
  refine wpFree_one rfl (.float .f32 x) (fun w1 _ => by kernel_rfl) ?_
  simp only [Act.put, List.setIfInBounds_toArray, List.set_cons_succ, List.set_cons_zero]
  refine wpFree_farith rfl rfl rfl rfl rfl (fun r131 h131 f131 => ?_)
  simp only [Act.put, List.setIfInBounds_toArray, List.set_cons_succ, List.set_cons_zero]
  refine wpFree_farith rfl rfl rfl rfl rfl (fun r132 h132 f132 => ?_)
  simp only [Act.put, List.setIfInBounds_toArray, List.set_cons_succ, List.set_cons_zero]
  refine wpFree_one rfl (.pointer (some ⟨g, 0, none⟩)) (fun w1 _ => by kernel_rfl) ?_
  simp only [Act.put, List.setIfInBounds_toArray, List.set_cons_succ, List.set_cons_zero]
  refine wpFree_one rfl (.pointer (some ⟨g, 0, none⟩)) (fun w1 _ => by kernel_rfl) ?_
  simp only [Act.put, List.setIfInBounds_toArray, List.set_cons_succ, List.set_cons_zero]
  refine wpFree_one rfl (.pointer (some ⟨g, 1, none⟩)) (fun w1 _ => by kernel_rfl) ?_
  simp only [Act.put, List.setIfInBounds_toArray, List.set_cons_succ, List.set_cons_zero]
  refine wpFree_one rfl (.pointer (some ⟨g, 1 + 2, none⟩)) (fun w1 _ => by kernel_rfl) ?_
  simp only [Act.put, List.setIfInBounds_toArray, List.set_cons_succ, List.set_cons_zero]
  refine wpFree_loadF F rfl rfl rfl rfl List.mem_cons_self rfl Try.underlying25 ?_
  simp only [Act.put, List.setIfInBounds_toArray, List.set_cons_succ, List.set_cons_zero]
  refine wpFree_one rfl (.float .f32 y) (fun w1 _ => by kernel_rfl) ?_
  simp only [Act.put, List.setIfInBounds_toArray, List.set_cons_succ, List.set_cons_zero]
  refine wpFree_farith rfl rfl rfl rfl rfl (fun r139 h139 f139 => ?_)
  simp only [Act.put, List.setIfInBounds_toArray, List.set_cons_succ, List.set_cons_zero]
  refine wpFree_farith rfl rfl rfl rfl rfl (fun r140 h140 f140 => ?_)
  simp only [Act.put, List.setIfInBounds_toArray, List.set_cons_succ, List.set_cons_zero]
  refine wpFree_one rfl (.float .f32 r140) (fun w1 _ => by kernel_rfl) ?_
  simp only [Act.put, List.setIfInBounds_toArray, List.set_cons_succ, List.set_cons_zero]
  refine wpFree_nil (fun w3 hw3 _ => ?_)
  replace U := hid ((U.out.le (le_drewN _ 1)).le hw3)
  replace F := Frm.one (((F.drewN 1).le hw3).row List.mem_cons_self)
  clear hw3 c0 c1 c2 c3 c4 c5
  have e : can .f32 r140 = outF 4 a b c x y s := (by rw [h140.out]; exact fop_congr (h132.out.trans ((fop_congr (h124.out.trans (can_fop _ _ _ _).symm) (h131.out.trans (can_fop _ _ _ _).symm)).trans (can_fop _ _ _ _).symm)) (h139.out.trans (can_fop _ _ _ _).symm))
  have hf := f140
  replace e := hid e
  go_wp2
  refine region_tail (fun _ _ _ v => v = .float .f32 (kept x)) 6 (by kernel_rfl) (by kernel_rfl) ?_
  simp only [List.take_succ_cons, List.take_zero, List.drop_succ_cons, List.drop_zero]
  refine wpFree_one rfl (.pointer (some ⟨g, 0, none⟩)) (fun w1 _ => by kernel_rfl) ?_
  simp only [Act.put, List.setIfInBounds_toArray, List.set_cons_succ, List.set_cons_zero]
  refine wpFree_one rfl (.float .f32 x) (fun w1 _ => by kernel_rfl) ?_
  simp only [Act.put, List.setIfInBounds_toArray, List.set_cons_succ, List.set_cons_zero]
  refine wpFree_call rfl rfl Try.func61 (by kernel_rfl) (by kernel_rfl) (args := #[.float .f32 x]) (by simp [Act.eval]) (fun _ _ _ _ h => h) (fun w1 _ => (s_Kept x w1 Hx.out).mono ?_) ?_
  · rintro e w2 ⟨rfl, n, rfl⟩
    exact ⟨_, rfl, le_drewN _ n, rfl⟩
  rintro v ⟨_, _, rfl⟩
  simp only [Act.put, List.setIfInBounds_toArray, List.set_cons_succ, List.set_cons_zero]
  refine wpFree_one rfl (.pointer (some ⟨g, 0, none⟩)) (fun w1 _ => by kernel_rfl) ?_
  simp only [Act.put, List.setIfInBounds_toArray, List.set_cons_succ, List.set_cons_zero]
  refine wpFree_one rfl (.pointer (some ⟨g, 4, none⟩)) (fun w1 _ => by kernel_rfl) ?_
  simp only [Act.put, List.setIfInBounds_toArray, List.set_cons_succ, List.set_cons_zero]
  refine wpFree_one rfl (.pointer (some ⟨g, 4 + 1, none⟩)) (fun w1 _ => by kernel_rfl) ?_
  simp only [Act.put, List.setIfInBounds_toArray, List.set_cons_succ, List.set_cons_zero]
  refine wpFree_nil (fun w5 hw5 _ => ?_)
  have RR := ((F.drewN 1).le hw5).row List.mem_cons_self
  replace U := hid (((U.out.le (le_drewN _ 1)).le hw5).setCell (a := ⟨g, 5, none⟩) rfl (.float .f32 (kept x)))
  have cc := RR.cell? 5
  have ff := RR.frozen 5
  have RN := RR.set 5 (.float .f32 (kept x))
  replace RN : Row (w5.setCell ⟨g, 5, none⟩ (.float .f32 (kept x))) g 36 (#[.int .i64 4, .float .f32 a, .float .f32 b, .float .f32 c, .float .f32 x, .float .f32 (kept x)] : Array Value) := by simpa using RN
  replace RR := hid RR
  clear hw5 F
  have F := Frm.one RN
  clear RN
  go_wp2
  refine region_tail (fun _ _ _ v => v = .float .f32 (kept r140)) 6 (by kernel_rfl) (by kernel_rfl) ?_
  simp only [List.take_succ_cons, List.take_zero, List.drop_succ_cons, List.drop_zero]
  refine wpFree_one rfl (.pointer (some ⟨g, 0, none⟩)) (fun w1 _ => by kernel_rfl) ?_
  simp only [Act.put, List.setIfInBounds_toArray, List.set_cons_succ, List.set_cons_zero]
  refine wpFree_one rfl (.float .f32 r140) (fun w1 _ => by kernel_rfl) ?_
  simp only [Act.put, List.setIfInBounds_toArray, List.set_cons_succ, List.set_cons_zero]
  refine wpFree_call rfl rfl Try.func61 (by kernel_rfl) (by kernel_rfl) (args := #[.float .f32 r140]) (by simp [Act.eval]) (fun _ _ _ _ h => h) (fun w1 _ => (s_Kept r140 w1 hf.out).mono ?_) ?_
  · rintro e w2 ⟨rfl, n, rfl⟩
    exact ⟨_, rfl, le_drewN _ n, rfl⟩
  rintro v ⟨_, _, rfl⟩
  simp only [Act.put, List.setIfInBounds_toArray, List.set_cons_succ, List.set_cons_zero]
  refine wpFree_one rfl (.pointer (some ⟨g, 0, none⟩)) (fun w1 _ => by kernel_rfl) ?_
  simp only [Act.put, List.setIfInBounds_toArray, List.set_cons_succ, List.set_cons_zero]
  refine wpFree_one rfl (.pointer (some ⟨g, 4, none⟩)) (fun w1 _ => by kernel_rfl) ?_
  simp only [Act.put, List.setIfInBounds_toArray, List.set_cons_succ, List.set_cons_zero]
  refine wpFree_one rfl (.pointer (some ⟨g, 4, none⟩)) (fun w1 _ => by kernel_rfl) ?_
  simp only [Act.put, List.setIfInBounds_toArray, List.set_cons_succ, List.set_cons_zero]
  refine wpFree_nil (fun w5 hw5 _ => ?_)
  have RR := ((F.drewN 1).le hw5).row List.mem_cons_self
  replace U := hid (((U.out.le (le_drewN _ 1)).le hw5).setCell (a := ⟨g, 4, none⟩) rfl (.float .f32 (kept r140)))
  have cc := RR.cell? 4
  have ff := RR.frozen 4
  have RN := RR.set 4 (.float .f32 (kept r140))
  replace RN : Row (w5.setCell ⟨g, 4, none⟩ (.float .f32 (kept r140))) g 36 (#[.int .i64 4, .float .f32 a, .float .f32 b, .float .f32 c, .float .f32 (kept r140), .float .f32 (kept x)] : Array Value) := by simpa using RN
  replace RR := hid RR
  clear hw5 F
  have F := Frm.one RN
  clear RN
  have RN := hid (F.row List.mem_cons_self)
  clear F
  go_wp2
  go_ret
  refine ⟨_, rfl, e.out, hf.out, ?_, U.out⟩
  have e0 : (kept r140) = st0 4 a b c x y s := by exact kept_can (e.out.trans (can_outF _ _ _ _ _ _ _).symm)
  have e1 : (kept x) = st1 4 a b c x y s := by rfl
  rw [← e0, ← e1]
  exact RN.out
set_option maxRecDepth 100000 in
set_option maxHeartbeats 2000000 in
theorem s_Step5 (a b c x y s g : Nat) (w : World) (R : Row w g 36 (#[.int .i64 5, .float .f32 a, .float .f32 b, .float .f32 c, .float .f32 x, .float .f32 y] : Array Value)) (hx : fits .f32 x) (hs : fits .f32 s) :
    Calls Try.prog 46 #[.pointer (some ⟨g, 0, none⟩), .float .f32 s] w (OutS 5 a b c x y s g 36 (fun u v => (#[.int .i64 5, .float .f32 a, .float .f32 b, .float .f32 c, .float .f32 u, .float .f32 v] : Array Value)) w) := by
  have Hx := hid hx; have Hs := hid hs; clear hx hs
  have F := Frm.one R
  have U := hid (Upd.refl g w)
  obtain ⟨c0, c1, c2, c3, c4, c5⟩ := R.six
  clear R
  go_enter Try.func46, Try.ntmps46
  go_wp2_with (with_reducible refine wpList_farith rfl rfl rfl rfl rfl ?_; intro r n hr hf)
  rename_i r1 n1 h1 f1 r2 n2 h2 f2 KK aa
  clear c0 c1 c2 c3 c4 c5
  have e : can .f32 r = outF 5 a b c x y s := (by rw [hr.out]; exact fop_congr (h1.out.trans (can_fop _ _ _ _).symm) (h2.out.trans (can_fop _ _ _ _).symm))
  replace U := hid (U.out.le (le_drewN _ (n1 + n2 + n)))
  replace F := Frm.one ((F.drewN (n1 + n2 + n)).row List.mem_cons_self)
  replace e := hid e
  refine region_tail (fun _ _ _ v => v = .float .f32 (kept s)) 6 (by kernel_rfl) (by kernel_rfl) ?_
  simp only [List.take_succ_cons, List.take_zero, List.drop_succ_cons, List.drop_zero]
  refine wpFree_one rfl (.pointer (some ⟨g, 0, none⟩)) (fun w1 _ => by kernel_rfl) ?_
  simp only [Act.put, List.setIfInBounds_toArray, List.set_cons_succ, List.set_cons_zero]
  refine wpFree_one rfl (.float .f32 s) (fun w1 _ => by kernel_rfl) ?_
  simp only [Act.put, List.setIfInBounds_toArray, List.set_cons_succ, List.set_cons_zero]
  refine wpFree_call rfl rfl Try.func61 (by kernel_rfl) (by kernel_rfl) (args := #[.float .f32 s]) (by simp [Act.eval]) (fun _ _ _ _ h => h) (fun w1 _ => (s_Kept s w1 Hs.out).mono ?_) ?_
  · rintro e w2 ⟨rfl, n, rfl⟩
    exact ⟨_, rfl, le_drewN _ n, rfl⟩
  rintro v ⟨_, _, rfl⟩
  simp only [Act.put, List.setIfInBounds_toArray, List.set_cons_succ, List.set_cons_zero]
  refine wpFree_one rfl (.pointer (some ⟨g, 0, none⟩)) (fun w1 _ => by kernel_rfl) ?_
  simp only [Act.put, List.setIfInBounds_toArray, List.set_cons_succ, List.set_cons_zero]
  refine wpFree_one rfl (.pointer (some ⟨g, 4, none⟩)) (fun w1 _ => by kernel_rfl) ?_
  simp only [Act.put, List.setIfInBounds_toArray, List.set_cons_succ, List.set_cons_zero]
  refine wpFree_one rfl (.pointer (some ⟨g, 4, none⟩)) (fun w1 _ => by kernel_rfl) ?_
  simp only [Act.put, List.setIfInBounds_toArray, List.set_cons_succ, List.set_cons_zero]
  refine wpFree_nil (fun w5 hw5 _ => ?_)
  have RR := ((F.drewN 1).le hw5).row List.mem_cons_self
  replace U := hid (((U.out.le (le_drewN _ 1)).le hw5).setCell (a := ⟨g, 4, none⟩) rfl (.float .f32 (kept s)))
  have cc := RR.cell? 4
  have ff := RR.frozen 4
  have RN := RR.set 4 (.float .f32 (kept s))
  replace RN : Row (w5.setCell ⟨g, 4, none⟩ (.float .f32 (kept s))) g 36 (#[.int .i64 5, .float .f32 a, .float .f32 b, .float .f32 c, .float .f32 (kept s), .float .f32 y] : Array Value) := by simpa using RN
  replace RR := hid RR
  clear hw5 F
  have F := Frm.one RN
  clear RN
  go_wp2
  refine region_tail (fun _ _ _ v => v = .float .f32 (kept r)) 6 (by kernel_rfl) (by kernel_rfl) ?_
  simp only [List.take_succ_cons, List.take_zero, List.drop_succ_cons, List.drop_zero]
  refine wpFree_one rfl (.pointer (some ⟨g, 0, none⟩)) (fun w1 _ => by kernel_rfl) ?_
  simp only [Act.put, List.setIfInBounds_toArray, List.set_cons_succ, List.set_cons_zero]
  refine wpFree_one rfl (.float .f32 r) (fun w1 _ => by kernel_rfl) ?_
  simp only [Act.put, List.setIfInBounds_toArray, List.set_cons_succ, List.set_cons_zero]
  refine wpFree_call rfl rfl Try.func61 (by kernel_rfl) (by kernel_rfl) (args := #[.float .f32 r]) (by simp [Act.eval]) (fun _ _ _ _ h => h) (fun w1 _ => (s_Kept r w1 hf.out).mono ?_) ?_
  · rintro e w2 ⟨rfl, n, rfl⟩
    exact ⟨_, rfl, le_drewN _ n, rfl⟩
  rintro v ⟨_, _, rfl⟩
  simp only [Act.put, List.setIfInBounds_toArray, List.set_cons_succ, List.set_cons_zero]
  refine wpFree_one rfl (.pointer (some ⟨g, 0, none⟩)) (fun w1 _ => by kernel_rfl) ?_
  simp only [Act.put, List.setIfInBounds_toArray, List.set_cons_succ, List.set_cons_zero]
  refine wpFree_one rfl (.pointer (some ⟨g, 4, none⟩)) (fun w1 _ => by kernel_rfl) ?_
  simp only [Act.put, List.setIfInBounds_toArray, List.set_cons_succ, List.set_cons_zero]
  refine wpFree_one rfl (.pointer (some ⟨g, 4 + 1, none⟩)) (fun w1 _ => by kernel_rfl) ?_
  simp only [Act.put, List.setIfInBounds_toArray, List.set_cons_succ, List.set_cons_zero]
  refine wpFree_nil (fun w5 hw5 _ => ?_)
  have RR := ((F.drewN 1).le hw5).row List.mem_cons_self
  replace U := hid (((U.out.le (le_drewN _ 1)).le hw5).setCell (a := ⟨g, 5, none⟩) rfl (.float .f32 (kept r)))
  have cc := RR.cell? 5
  have ff := RR.frozen 5
  have RN := RR.set 5 (.float .f32 (kept r))
  replace RN : Row (w5.setCell ⟨g, 5, none⟩ (.float .f32 (kept r))) g 36 (#[.int .i64 5, .float .f32 a, .float .f32 b, .float .f32 c, .float .f32 (kept s), .float .f32 (kept r)] : Array Value) := by simpa using RN
  replace RR := hid RR
  clear hw5 F
  have F := Frm.one RN
  clear RN
  have RN := hid (F.row List.mem_cons_self)
  clear F
  go_wp2
  go_ret
  refine ⟨_, rfl, e.out, hf.out, ?_, U.out⟩
  have e0 : (kept s) = st0 5 a b c x y s := by rfl
  have e1 : (kept r) = st1 5 a b c x y s := by exact kept_can (e.out.trans (can_outF _ _ _ _ _ _ _).symm)
  rw [← e0, ← e1]
  exact RN.out
end Go.Proofs.Ythjdklolbkhbfaa

/- 'StepFilter' of both. -/
namespace Go.Fk
open Go Go.RowKit
theorem zero_of_same {y : Nat} (h : sameB y 0 = true) : y = 0 := by
  have e : can .f32 y = can .f32 0 := by
    simp only [sameB, beq_iff_eq] at h
    exact_mod_cast h
  exact (eq_of_can e.symm (by decide)).symm
theorem okF_y {k : Int} {a b c x y : Nat} (h : okF k a b c x y = true) (hk : k = 1 ∨ k = 2) : y = 0 := by
  simp only [okF, Bool.and_eq_true] at h
  have h2 := h.2.2
  rw [show sU k = 1 by simp [sU, hk]] at h2
  simp only [usedB, List.all_eq_true, List.mem_range] at h2
  exact zero_of_same (h2 1 (by omega))
theorem part12 {v0 v1 v2 : Value} : ∀ j, j < [v1, v2].length → (#[v0, v1, v2] : Array Value)[1 + j]? = [v1, v2][j]? := by
  intro j hj
  match j, hj with
  | 0, _ => rfl
  | 1, _ => rfl
/-- What 'StepFilter' gives of a valid filter. -/
def OutSF (k : Int) (a b c x y s : Nat) (w : World) (e : Ending) (w' : World) : Prop := ∃ r, e = .returned (.tuple #[(.agg #[.int .i64 k, .float .f32 a, .float .f32 b, .float .f32 c, .float .f32 (st0 k a b c x y s), .float .f32 (st1 k a b c x y s)]), .float .f32 r, .int .i64 0]) ∧ can .f32 r = outF k a b c x y s ∧ le w w'
theorem fits_st0 {k : Int} {a b c x y s : Nat} (hs : fits .f32 s) (ho : fits .f32 (outF k a b c x y s)) : fits .f32 (st0 k a b c x y s) := by
  unfold st0; split; exact fits_kept ho; exact fits_kept hs
end Go.Fk
namespace Go.Proofs.Ythjdklolbkhbfaa
open Go.RowKit Go.Fk
theorem i_step (k : Int) (a b c x y s g : Nat) (w : World) (hk : 1 ≤ k ∧ k ≤ 5) (R : Row w g 103 #[mdl k a b c, .float .f32 x, .float .f32 y]) (hx : fits .f32 x) (hs : fits .f32 s) :
    Calls Try.prog 53 #[.pointer (some ⟨g, 0, none⟩), .float .f32 s] w (OutS k a b c x y s g 103 (fun u v => #[mdl k a b c, .float .f32 u, .float .f32 v]) w) := by
  rcases (show k = 1 ∨ k = 2 ∨ k = 3 ∨ k = 4 ∨ k = 5 by omega) with rfl | rfl | rfl | rfl | rfl
  · simp only [mdl1] at R ⊢; exact i_step1 a b c x y s g w R hx hs
  · simp only [mdl2] at R ⊢; exact i_step2 a b c x y s g w R hx hs
  · simp only [mdl3] at R ⊢; exact i_step3 a b c x y s g w R hx hs
  · simp only [mdl4] at R ⊢; exact i_step4 a b c x y s g w R hx hs
  · simp only [mdl5] at R ⊢; exact i_step5 a b c x y s g w R hx hs
theorem s_Step (k : Int) (a b c x y s g : Nat) (w : World) (hv : okF k a b c x y = true) (R : Row w g 36 (#[.int .i64 k, .float .f32 a, .float .f32 b, .float .f32 c, .float .f32 x, .float .f32 y] : Array Value)) (hx : fits .f32 x) (hs : fits .f32 s) :
    Calls Try.prog 46 #[.pointer (some ⟨g, 0, none⟩), .float .f32 s] w (OutS k a b c x y s g 36 (fun u v => (#[.int .i64 k, .float .f32 a, .float .f32 b, .float .f32 c, .float .f32 u, .float .f32 v] : Array Value)) w) := by
  have hk := okF_kind hv
  rcases (show k = 1 ∨ k = 2 ∨ k = 3 ∨ k = 4 ∨ k = 5 by omega) with rfl | rfl | rfl | rfl | rfl
  · exact s_Step1 a b c x y s g w R hx hs (okF_y hv (.inl rfl))
  · exact s_Step2 a b c x y s g w R hx hs (okF_y hv (.inr rfl))
  · exact s_Step3 a b c x y s g w R hx hs
  · exact s_Step4 a b c x y s g w R hx hs
  · exact s_Step5 a b c x y s g w R hx hs
end Go.Proofs.Ythjdklolbkhbfaa

/- The model's step of a filter that lies within a row, kind by kind. -/
namespace Go.Fk
open Go Go.RowKit
theorem set_same {cs : Array Value} {i : Nat} {v : Value} (h : cs[i]? = some v) : cs.setIfInBounds i v = cs := by
  apply Array.ext_getElem?
  intro j
  rw [Array.getElem?_setIfInBounds]
  split
  · rename_i e; subst e
    split
    · exact h.symm
    · rename_i hl; rw [Array.getElem?_eq_none (by omega)]
  · rfl
theorem set_swap {cs : Array Value} {i j : Nat} {u v : Value} (h : i ≠ j) : (cs.setIfInBounds i u).setIfInBounds j v = (cs.setIfInBounds j v).setIfInBounds i u := by
  apply Array.ext_getElem?
  intro k
  simp only [Array.getElem?_setIfInBounds, Array.size_setIfInBounds]
  by_cases h1 : i = k <;> by_cases h2 : j = k <;> simp [h1, h2] <;> omega
/-- What a step in place gives. -/
def OutSt (k : Int) (a b c x y s : Nat) (g f : Nat) (t : TypeId) (cs : Array Value) (w : World) (e : Ending) (w' : World) : Prop :=
  ∃ r, e = .returned (.float .f32 r) ∧ can .f32 r = outF k a b c x y s ∧ fits .f32 r ∧ Row w' g t ((cs.setIfInBounds (f + 4) (.float .f32 (st0 k a b c x y s))).setIfInBounds (f + 5) (.float .f32 (st1 k a b c x y s))) ∧ Upd g w w'
theorem FilIn.next {cs : Array Value} {f : Nat} {k : Int} {a b c x y : Nat} (h : FilIn cs f k a b c x y) (u v : Nat) : FilIn ((cs.setIfInBounds (f + 4) (.float .f32 u)).setIfInBounds (f + 5) (.float .f32 v)) f k a b c u v := by
  have l4 := (Array.getElem?_eq_some_iff.1 h.c4).1
  have l5 := (Array.getElem?_eq_some_iff.1 h.c5).1
  constructor
  · rw [Array.getElem?_setIfInBounds_ne (by omega), Array.getElem?_setIfInBounds_ne (by omega)]; exact h.k0
  · rw [Array.getElem?_setIfInBounds_ne (by omega), Array.getElem?_setIfInBounds_ne (by omega)]; exact h.c1
  · rw [Array.getElem?_setIfInBounds_ne (by omega), Array.getElem?_setIfInBounds_ne (by omega)]; exact h.c2
  · rw [Array.getElem?_setIfInBounds_ne (by omega), Array.getElem?_setIfInBounds_ne (by omega)]; exact h.c3
  · rw [Array.getElem?_setIfInBounds_ne (by omega), Array.getElem?_setIfInBounds_self_of_lt l4]
  · rw [Array.getElem?_setIfInBounds_self_of_lt (by simpa using l5)]
end Go.Fk
namespace Go.Proofs.Ythjdklolbkhbfaa
open Go.RowKit Go.Fk
set_option maxRecDepth 100000 in
set_option maxHeartbeats 2000000 in
theorem s_StepAt1 (a b c x y s g f : Nat) (t : TypeId) (cs : Array Value) (w : World) (R : Row w g t cs) (I : FilIn cs f 1 a b c x y) (hx : fits .f32 x) (hs : fits .f32 s) (hy : y = 0) :
    Calls Try.prog 46 #[.pointer (some ⟨g, f, none⟩), .float .f32 s] w (OutSt 1 a b c x y s g f t cs w) := by
  subst hy
  have Hx := hid hx; have Hs := hid hs; clear hx hs
  have F := Frm.one R
  have U := hid (Upd.refl g w)
  have c0 := (R.cell? f).trans I.k0
  have c1 := (R.cell? (f + 1)).trans I.c1
  have c2 := (R.cell? (f + 2)).trans I.c2
  have c3 := (R.cell? (f + 3)).trans I.c3
  have c4 := (R.cell? (f + 4)).trans I.c4
  have c5 := (R.cell? (f + 5)).trans I.c5
  replace I := hid I
  clear R
  go_enter Try.func46, Try.ntmps46
  go_wp2
  refine region_free (fun _ _ _ _ => True) (by kernel_rfl) (by kernel_rfl) ?_
  refine wpFree_one rfl (.pointer (some ⟨g, f, none⟩)) (fun w1 _ => by kernel_rfl) ?_
  simp only [Act.put, List.setIfInBounds_toArray, List.set_cons_succ, List.set_cons_zero]
  refine wpFree_one rfl (.pointer (some ⟨g, f, none⟩)) (fun w1 _ => by kernel_rfl) ?_
  simp only [Act.put, List.setIfInBounds_toArray, List.set_cons_succ, List.set_cons_zero]
  refine wpFree_one rfl (.pointer (some ⟨g, f + 1, none⟩)) (fun w1 _ => by kernel_rfl) ?_
  simp only [Act.put, List.setIfInBounds_toArray, List.set_cons_succ, List.set_cons_zero]
  refine wpFree_one rfl (.pointer (some ⟨g, f + 1, none⟩)) (fun w1 _ => by kernel_rfl) ?_
  simp only [Act.put, List.setIfInBounds_toArray, List.set_cons_succ, List.set_cons_zero]
  refine wpFree_loadF F rfl rfl rfl rfl List.mem_cons_self I.out.c1 Try.underlying25 ?_
  simp only [Act.put, List.setIfInBounds_toArray, List.set_cons_succ, List.set_cons_zero]
  refine wpFree_one rfl (.float .f32 s) (fun w1 _ => by kernel_rfl) ?_
  simp only [Act.put, List.setIfInBounds_toArray, List.set_cons_succ, List.set_cons_zero]
  refine wpFree_farith rfl rfl rfl rfl rfl (fun r53 h53 f53 => ?_)
  simp only [Act.put, List.setIfInBounds_toArray, List.set_cons_succ, List.set_cons_zero]
  refine wpFree_one rfl (.pointer (some ⟨g, f, none⟩)) (fun w1 _ => by kernel_rfl) ?_
  simp only [Act.put, List.setIfInBounds_toArray, List.set_cons_succ, List.set_cons_zero]
  refine wpFree_one rfl (.pointer (some ⟨g, f, none⟩)) (fun w1 _ => by kernel_rfl) ?_
  simp only [Act.put, List.setIfInBounds_toArray, List.set_cons_succ, List.set_cons_zero]
  refine wpFree_one rfl (.pointer (some ⟨g, f + 1, none⟩)) (fun w1 _ => by kernel_rfl) ?_
  simp only [Act.put, List.setIfInBounds_toArray, List.set_cons_succ, List.set_cons_zero]
  refine wpFree_one rfl (.pointer (some ⟨g, f + 2, none⟩)) (fun w1 _ => by kernel_rfl) ?_
  simp only [Act.put, List.setIfInBounds_toArray, List.set_cons_succ, List.set_cons_zero]
  refine wpFree_loadF F rfl rfl rfl rfl List.mem_cons_self I.out.c2 Try.underlying25 ?_
  simp only [Act.put, List.setIfInBounds_toArray, List.set_cons_succ, List.set_cons_zero]
  refine wpFree_one rfl (.float .f32 x) (fun w1 _ => by kernel_rfl) ?_
  simp only [Act.put, List.setIfInBounds_toArray, List.set_cons_succ, List.set_cons_zero]
  refine wpFree_farith rfl rfl rfl rfl rfl (fun r60 h60 f60 => ?_)
  simp only [Act.put, List.setIfInBounds_toArray, List.set_cons_succ, List.set_cons_zero]
  refine wpFree_farith rfl rfl rfl rfl rfl (fun r61 h61 f61 => ?_)
  simp only [Act.put, List.setIfInBounds_toArray, List.set_cons_succ, List.set_cons_zero]
  refine wpFree_one rfl (.float .f32 r61) (fun w1 _ => by kernel_rfl) ?_
  simp only [Act.put, List.setIfInBounds_toArray, List.set_cons_succ, List.set_cons_zero]
  refine wpFree_nil (fun w3 hw3 _ => ?_)
  replace U := hid ((U.out.le (le_drewN _ 1)).le hw3)
  replace F := Frm.one (((F.drewN 1).le hw3).row List.mem_cons_self)
  clear hw3 c0 c1 c2 c3 c4 c5
  have e : can .f32 r61 = outF 1 a b c x 0 s := (by rw [h61.out]; exact fop_congr (h53.out.trans (can_fop _ _ _ _).symm) (h60.out.trans (can_fop _ _ _ _).symm))
  have hf := f61
  replace e := hid e
  go_wp2
  refine region_tail (fun _ _ _ v => v = .float .f32 (kept r61)) 6 (by kernel_rfl) (by kernel_rfl) ?_
  simp only [List.take_succ_cons, List.take_zero, List.drop_succ_cons, List.drop_zero]
  refine wpFree_one rfl (.pointer (some ⟨g, f, none⟩)) (fun w1 _ => by kernel_rfl) ?_
  simp only [Act.put, List.setIfInBounds_toArray, List.set_cons_succ, List.set_cons_zero]
  refine wpFree_one rfl (.float .f32 r61) (fun w1 _ => by kernel_rfl) ?_
  simp only [Act.put, List.setIfInBounds_toArray, List.set_cons_succ, List.set_cons_zero]
  refine wpFree_call rfl rfl Try.func61 (by kernel_rfl) (by kernel_rfl) (args := #[.float .f32 r61]) (by simp [Act.eval]) (fun _ _ _ _ h => h) (fun w1 _ => (s_Kept r61 w1 hf.out).mono ?_) ?_
  · rintro e w2 ⟨rfl, n, rfl⟩
    exact ⟨_, rfl, le_drewN _ n, rfl⟩
  rintro v ⟨_, _, rfl⟩
  simp only [Act.put, List.setIfInBounds_toArray, List.set_cons_succ, List.set_cons_zero]
  refine wpFree_one rfl (.pointer (some ⟨g, f, none⟩)) (fun w1 _ => by kernel_rfl) ?_
  simp only [Act.put, List.setIfInBounds_toArray, List.set_cons_succ, List.set_cons_zero]
  refine wpFree_one rfl (.pointer (some ⟨g, f + 4, none⟩)) (fun w1 _ => by kernel_rfl) ?_
  simp only [Act.put, List.setIfInBounds_toArray, List.set_cons_succ, List.set_cons_zero]
  refine wpFree_one rfl (.pointer (some ⟨g, f + 4, none⟩)) (fun w1 _ => by kernel_rfl) ?_
  simp only [Act.put, List.setIfInBounds_toArray, List.set_cons_succ, List.set_cons_zero]
  refine wpFree_nil (fun w5 hw5 _ => ?_)
  have RR := ((F.drewN 1).le hw5).row List.mem_cons_self
  replace U := hid (((U.out.le (le_drewN _ 1)).le hw5).setCell (a := ⟨g, f + 4, none⟩) rfl (.float .f32 (kept r61)))
  have cc : w5.cell? ⟨g, f + 4, none⟩ = some (.float .f32 x) := (RR.cell? (f + 4)).trans I.out.c4
  have ff := RR.frozen (f + 4)
  have RN : Row (w5.setCell ⟨g, f + 4, none⟩ (.float .f32 (kept r61))) g t (cs.setIfInBounds (f + 4) (.float .f32 (kept r61))) := RR.set (f + 4) (.float .f32 (kept r61))
  replace RR := hid RR
  clear hw5 F
  have F := Frm.one RN
  clear RN
  have RN := hid (F.row List.mem_cons_self)
  clear F
  go_wp2
  go_ret
  refine ⟨_, rfl, e.out, hf.out, ?_, U.out⟩
  have e0 : (kept r61) = st0 1 a b c x 0 s := by exact kept_can (e.out.trans (can_outF _ _ _ _ _ _ _).symm)
  have e1 : 0 = st1 1 a b c x 0 s := by rfl
  rw [← e0, ← e1]
  rw [set_same (i := f + 5) (by rw [Array.getElem?_setIfInBounds_ne (by omega)]; exact I.out.c5)]
  exact RN.out
set_option maxRecDepth 100000 in
set_option maxHeartbeats 2000000 in
theorem s_StepAt2 (a b c x y s g f : Nat) (t : TypeId) (cs : Array Value) (w : World) (R : Row w g t cs) (I : FilIn cs f 2 a b c x y) (hx : fits .f32 x) (hs : fits .f32 s) (hy : y = 0) :
    Calls Try.prog 46 #[.pointer (some ⟨g, f, none⟩), .float .f32 s] w (OutSt 2 a b c x y s g f t cs w) := by
  subst hy
  have Hx := hid hx; have Hs := hid hs; clear hx hs
  have F := Frm.one R
  have U := hid (Upd.refl g w)
  have c0 := (R.cell? f).trans I.k0
  have c1 := (R.cell? (f + 1)).trans I.c1
  have c2 := (R.cell? (f + 2)).trans I.c2
  have c3 := (R.cell? (f + 3)).trans I.c3
  have c4 := (R.cell? (f + 4)).trans I.c4
  have c5 := (R.cell? (f + 5)).trans I.c5
  replace I := hid I
  clear R
  go_enter Try.func46, Try.ntmps46
  go_wp2
  refine region_free (fun _ _ _ _ => True) (by kernel_rfl) (by kernel_rfl) ?_
  refine wpFree_one rfl (.pointer (some ⟨g, f, none⟩)) (fun w1 _ => by kernel_rfl) ?_
  simp only [Act.put, List.setIfInBounds_toArray, List.set_cons_succ, List.set_cons_zero]
  refine wpFree_one rfl (.pointer (some ⟨g, f, none⟩)) (fun w1 _ => by kernel_rfl) ?_
  simp only [Act.put, List.setIfInBounds_toArray, List.set_cons_succ, List.set_cons_zero]
  refine wpFree_one rfl (.pointer (some ⟨g, f + 1, none⟩)) (fun w1 _ => by kernel_rfl) ?_
  simp only [Act.put, List.setIfInBounds_toArray, List.set_cons_succ, List.set_cons_zero]
  refine wpFree_one rfl (.pointer (some ⟨g, f + 1, none⟩)) (fun w1 _ => by kernel_rfl) ?_
  simp only [Act.put, List.setIfInBounds_toArray, List.set_cons_succ, List.set_cons_zero]
  refine wpFree_loadF F rfl rfl rfl rfl List.mem_cons_self I.out.c1 Try.underlying25 ?_
  simp only [Act.put, List.setIfInBounds_toArray, List.set_cons_succ, List.set_cons_zero]
  refine wpFree_one rfl (.float .f32 s) (fun w1 _ => by kernel_rfl) ?_
  simp only [Act.put, List.setIfInBounds_toArray, List.set_cons_succ, List.set_cons_zero]
  refine wpFree_farith rfl rfl rfl rfl rfl (fun r76 h76 f76 => ?_)
  simp only [Act.put, List.setIfInBounds_toArray, List.set_cons_succ, List.set_cons_zero]
  refine wpFree_one rfl (.pointer (some ⟨g, f, none⟩)) (fun w1 _ => by kernel_rfl) ?_
  simp only [Act.put, List.setIfInBounds_toArray, List.set_cons_succ, List.set_cons_zero]
  refine wpFree_one rfl (.pointer (some ⟨g, f, none⟩)) (fun w1 _ => by kernel_rfl) ?_
  simp only [Act.put, List.setIfInBounds_toArray, List.set_cons_succ, List.set_cons_zero]
  refine wpFree_one rfl (.pointer (some ⟨g, f + 1, none⟩)) (fun w1 _ => by kernel_rfl) ?_
  simp only [Act.put, List.setIfInBounds_toArray, List.set_cons_succ, List.set_cons_zero]
  refine wpFree_one rfl (.pointer (some ⟨g, f + 2, none⟩)) (fun w1 _ => by kernel_rfl) ?_
  simp only [Act.put, List.setIfInBounds_toArray, List.set_cons_succ, List.set_cons_zero]
  refine wpFree_loadF F rfl rfl rfl rfl List.mem_cons_self I.out.c2 Try.underlying25 ?_
  simp only [Act.put, List.setIfInBounds_toArray, List.set_cons_succ, List.set_cons_zero]
  refine wpFree_one rfl (.float .f32 x) (fun w1 _ => by kernel_rfl) ?_
  simp only [Act.put, List.setIfInBounds_toArray, List.set_cons_succ, List.set_cons_zero]
  refine wpFree_farith rfl rfl rfl rfl rfl (fun r83 h83 f83 => ?_)
  simp only [Act.put, List.setIfInBounds_toArray, List.set_cons_succ, List.set_cons_zero]
  refine wpFree_farith rfl rfl rfl rfl rfl (fun r84 h84 f84 => ?_)
  simp only [Act.put, List.setIfInBounds_toArray, List.set_cons_succ, List.set_cons_zero]
  refine wpFree_one rfl (.float .f32 r84) (fun w1 _ => by kernel_rfl) ?_
  simp only [Act.put, List.setIfInBounds_toArray, List.set_cons_succ, List.set_cons_zero]
  refine wpFree_nil (fun w3 hw3 _ => ?_)
  replace U := hid ((U.out.le (le_drewN _ 1)).le hw3)
  replace F := Frm.one (((F.drewN 1).le hw3).row List.mem_cons_self)
  clear hw3 c0 c1 c2 c3 c4 c5
  have e : can .f32 r84 = outF 2 a b c x 0 s := (by rw [h84.out]; exact fop_congr (h76.out.trans (can_fop _ _ _ _).symm) (h83.out.trans (can_fop _ _ _ _).symm))
  have hf := f84
  replace e := hid e
  go_wp2
  refine region_tail (fun _ _ _ v => v = .float .f32 (kept s)) 6 (by kernel_rfl) (by kernel_rfl) ?_
  simp only [List.take_succ_cons, List.take_zero, List.drop_succ_cons, List.drop_zero]
  refine wpFree_one rfl (.pointer (some ⟨g, f, none⟩)) (fun w1 _ => by kernel_rfl) ?_
  simp only [Act.put, List.setIfInBounds_toArray, List.set_cons_succ, List.set_cons_zero]
  refine wpFree_one rfl (.float .f32 s) (fun w1 _ => by kernel_rfl) ?_
  simp only [Act.put, List.setIfInBounds_toArray, List.set_cons_succ, List.set_cons_zero]
  refine wpFree_call rfl rfl Try.func61 (by kernel_rfl) (by kernel_rfl) (args := #[.float .f32 s]) (by simp [Act.eval]) (fun _ _ _ _ h => h) (fun w1 _ => (s_Kept s w1 Hs.out).mono ?_) ?_
  · rintro e w2 ⟨rfl, n, rfl⟩
    exact ⟨_, rfl, le_drewN _ n, rfl⟩
  rintro v ⟨_, _, rfl⟩
  simp only [Act.put, List.setIfInBounds_toArray, List.set_cons_succ, List.set_cons_zero]
  refine wpFree_one rfl (.pointer (some ⟨g, f, none⟩)) (fun w1 _ => by kernel_rfl) ?_
  simp only [Act.put, List.setIfInBounds_toArray, List.set_cons_succ, List.set_cons_zero]
  refine wpFree_one rfl (.pointer (some ⟨g, f + 4, none⟩)) (fun w1 _ => by kernel_rfl) ?_
  simp only [Act.put, List.setIfInBounds_toArray, List.set_cons_succ, List.set_cons_zero]
  refine wpFree_one rfl (.pointer (some ⟨g, f + 4, none⟩)) (fun w1 _ => by kernel_rfl) ?_
  simp only [Act.put, List.setIfInBounds_toArray, List.set_cons_succ, List.set_cons_zero]
  refine wpFree_nil (fun w5 hw5 _ => ?_)
  have RR := ((F.drewN 1).le hw5).row List.mem_cons_self
  replace U := hid (((U.out.le (le_drewN _ 1)).le hw5).setCell (a := ⟨g, f + 4, none⟩) rfl (.float .f32 (kept s)))
  have cc : w5.cell? ⟨g, f + 4, none⟩ = some (.float .f32 x) := (RR.cell? (f + 4)).trans I.out.c4
  have ff := RR.frozen (f + 4)
  have RN : Row (w5.setCell ⟨g, f + 4, none⟩ (.float .f32 (kept s))) g t (cs.setIfInBounds (f + 4) (.float .f32 (kept s))) := RR.set (f + 4) (.float .f32 (kept s))
  replace RR := hid RR
  clear hw5 F
  have F := Frm.one RN
  clear RN
  have RN := hid (F.row List.mem_cons_self)
  clear F
  go_wp2
  go_ret
  refine ⟨_, rfl, e.out, hf.out, ?_, U.out⟩
  have e0 : (kept s) = st0 2 a b c x 0 s := by rfl
  have e1 : 0 = st1 2 a b c x 0 s := by rfl
  rw [← e0, ← e1]
  rw [set_same (i := f + 5) (by rw [Array.getElem?_setIfInBounds_ne (by omega)]; exact I.out.c5)]
  exact RN.out
set_option maxRecDepth 100000 in
set_option maxHeartbeats 2000000 in
theorem s_StepAt3 (a b c x y s g f : Nat) (t : TypeId) (cs : Array Value) (w : World) (R : Row w g t cs) (I : FilIn cs f 3 a b c x y) (hx : fits .f32 x) (hs : fits .f32 s) :
    Calls Try.prog 46 #[.pointer (some ⟨g, f, none⟩), .float .f32 s] w (OutSt 3 a b c x y s g f t cs w) := by
  have Hx := hid hx; have Hs := hid hs; clear hx hs
  have F := Frm.one R
  have U := hid (Upd.refl g w)
  have c0 := (R.cell? f).trans I.k0
  have c1 := (R.cell? (f + 1)).trans I.c1
  have c2 := (R.cell? (f + 2)).trans I.c2
  have c3 := (R.cell? (f + 3)).trans I.c3
  have c4 := (R.cell? (f + 4)).trans I.c4
  have c5 := (R.cell? (f + 5)).trans I.c5
  replace I := hid I
  clear R
  go_enter Try.func46, Try.ntmps46
  go_wp2_with (with_reducible refine wpList_farith rfl rfl rfl rfl rfl ?_; intro r n hr hf)
  rename_i r1 n1 h1 f1 r2 n2 h2 f2 KK aa
  clear c0 c1 c2 c3 c4 c5
  have e : can .f32 r = outF 3 a b c x y s := (by rw [hr.out]; exact fop_congr (h2.out.trans ((fop_congr rfl (h1.out.trans (can_fop _ _ _ _).symm)).trans (can_fop _ _ _ _).symm)) rfl)
  replace U := hid (U.out.le (le_drewN _ (n1 + n2 + n)))
  replace F := Frm.one ((F.drewN (n1 + n2 + n)).row List.mem_cons_self)
  replace e := hid e
  refine region_tail (fun _ _ _ v => v = .float .f32 (kept s)) 6 (by kernel_rfl) (by kernel_rfl) ?_
  simp only [List.take_succ_cons, List.take_zero, List.drop_succ_cons, List.drop_zero]
  refine wpFree_one rfl (.pointer (some ⟨g, f, none⟩)) (fun w1 _ => by kernel_rfl) ?_
  simp only [Act.put, List.setIfInBounds_toArray, List.set_cons_succ, List.set_cons_zero]
  refine wpFree_one rfl (.float .f32 s) (fun w1 _ => by kernel_rfl) ?_
  simp only [Act.put, List.setIfInBounds_toArray, List.set_cons_succ, List.set_cons_zero]
  refine wpFree_call rfl rfl Try.func61 (by kernel_rfl) (by kernel_rfl) (args := #[.float .f32 s]) (by simp [Act.eval]) (fun _ _ _ _ h => h) (fun w1 _ => (s_Kept s w1 Hs.out).mono ?_) ?_
  · rintro e w2 ⟨rfl, n, rfl⟩
    exact ⟨_, rfl, le_drewN _ n, rfl⟩
  rintro v ⟨_, _, rfl⟩
  simp only [Act.put, List.setIfInBounds_toArray, List.set_cons_succ, List.set_cons_zero]
  refine wpFree_one rfl (.pointer (some ⟨g, f, none⟩)) (fun w1 _ => by kernel_rfl) ?_
  simp only [Act.put, List.setIfInBounds_toArray, List.set_cons_succ, List.set_cons_zero]
  refine wpFree_one rfl (.pointer (some ⟨g, f + 4, none⟩)) (fun w1 _ => by kernel_rfl) ?_
  simp only [Act.put, List.setIfInBounds_toArray, List.set_cons_succ, List.set_cons_zero]
  refine wpFree_one rfl (.pointer (some ⟨g, f + 4, none⟩)) (fun w1 _ => by kernel_rfl) ?_
  simp only [Act.put, List.setIfInBounds_toArray, List.set_cons_succ, List.set_cons_zero]
  refine wpFree_nil (fun w5 hw5 _ => ?_)
  have RR := ((F.drewN 1).le hw5).row List.mem_cons_self
  replace U := hid (((U.out.le (le_drewN _ 1)).le hw5).setCell (a := ⟨g, f + 4, none⟩) rfl (.float .f32 (kept s)))
  have cc : w5.cell? ⟨g, f + 4, none⟩ = some (.float .f32 x) := (RR.cell? (f + 4)).trans I.out.c4
  have ff := RR.frozen (f + 4)
  have RN : Row (w5.setCell ⟨g, f + 4, none⟩ (.float .f32 (kept s))) g t (cs.setIfInBounds (f + 4) (.float .f32 (kept s))) := RR.set (f + 4) (.float .f32 (kept s))
  replace RR := hid RR
  clear hw5 F
  have F := Frm.one RN
  clear RN
  go_wp2
  refine region_tail (fun _ _ _ v => v = .float .f32 (kept r)) 6 (by kernel_rfl) (by kernel_rfl) ?_
  simp only [List.take_succ_cons, List.take_zero, List.drop_succ_cons, List.drop_zero]
  refine wpFree_one rfl (.pointer (some ⟨g, f, none⟩)) (fun w1 _ => by kernel_rfl) ?_
  simp only [Act.put, List.setIfInBounds_toArray, List.set_cons_succ, List.set_cons_zero]
  refine wpFree_one rfl (.float .f32 r) (fun w1 _ => by kernel_rfl) ?_
  simp only [Act.put, List.setIfInBounds_toArray, List.set_cons_succ, List.set_cons_zero]
  refine wpFree_call rfl rfl Try.func61 (by kernel_rfl) (by kernel_rfl) (args := #[.float .f32 r]) (by simp [Act.eval]) (fun _ _ _ _ h => h) (fun w1 _ => (s_Kept r w1 hf.out).mono ?_) ?_
  · rintro e w2 ⟨rfl, n, rfl⟩
    exact ⟨_, rfl, le_drewN _ n, rfl⟩
  rintro v ⟨_, _, rfl⟩
  simp only [Act.put, List.setIfInBounds_toArray, List.set_cons_succ, List.set_cons_zero]
  refine wpFree_one rfl (.pointer (some ⟨g, f, none⟩)) (fun w1 _ => by kernel_rfl) ?_
  simp only [Act.put, List.setIfInBounds_toArray, List.set_cons_succ, List.set_cons_zero]
  refine wpFree_one rfl (.pointer (some ⟨g, f + 4, none⟩)) (fun w1 _ => by kernel_rfl) ?_
  simp only [Act.put, List.setIfInBounds_toArray, List.set_cons_succ, List.set_cons_zero]
  refine wpFree_one rfl (.pointer (some ⟨g, f + 5, none⟩)) (fun w1 _ => by kernel_rfl) ?_
  simp only [Act.put, List.setIfInBounds_toArray, List.set_cons_succ, List.set_cons_zero]
  refine wpFree_nil (fun w5 hw5 _ => ?_)
  have RR := ((F.drewN 1).le hw5).row List.mem_cons_self
  replace U := hid (((U.out.le (le_drewN _ 1)).le hw5).setCell (a := ⟨g, f + 5, none⟩) rfl (.float .f32 (kept r)))
  have cc : w5.cell? ⟨g, f + 5, none⟩ = some (.float .f32 y) := (RR.cell? (f + 5)).trans (by rw [Array.getElem?_setIfInBounds_ne (by omega)]; exact I.out.c5)
  have ff := RR.frozen (f + 5)
  have RN : Row (w5.setCell ⟨g, f + 5, none⟩ (.float .f32 (kept r))) g t ((cs.setIfInBounds (f + 4) (.float .f32 (kept s))).setIfInBounds (f + 5) (.float .f32 (kept r))) := RR.set (f + 5) (.float .f32 (kept r))
  replace RR := hid RR
  clear hw5 F
  have F := Frm.one RN
  clear RN
  have RN := hid (F.row List.mem_cons_self)
  clear F
  go_wp2
  go_ret
  refine ⟨_, rfl, e.out, hf.out, ?_, U.out⟩
  have e0 : (kept s) = st0 3 a b c x y s := by rfl
  have e1 : (kept r) = st1 3 a b c x y s := by exact kept_can (e.out.trans (can_outF _ _ _ _ _ _ _).symm)
  rw [← e0, ← e1]
  exact RN.out
set_option maxRecDepth 100000 in
set_option maxHeartbeats 2000000 in
theorem s_StepAt4 (a b c x y s g f : Nat) (t : TypeId) (cs : Array Value) (w : World) (R : Row w g t cs) (I : FilIn cs f 4 a b c x y) (hx : fits .f32 x) (hs : fits .f32 s) :
    Calls Try.prog 46 #[.pointer (some ⟨g, f, none⟩), .float .f32 s] w (OutSt 4 a b c x y s g f t cs w) := by
  have Hx := hid hx; have Hs := hid hs; clear hx hs
  have F := Frm.one R
  have U := hid (Upd.refl g w)
  have c0 := (R.cell? f).trans I.k0
  have c1 := (R.cell? (f + 1)).trans I.c1
  have c2 := (R.cell? (f + 2)).trans I.c2
  have c3 := (R.cell? (f + 3)).trans I.c3
  have c4 := (R.cell? (f + 4)).trans I.c4
  have c5 := (R.cell? (f + 5)).trans I.c5
  replace I := hid I
  clear R
  go_enter Try.func46, Try.ntmps46
  go_wp2
  refine region_free (fun _ _ _ _ => True) (by kernel_rfl) (by kernel_rfl) ?_
  refine wpFree_one rfl (.pointer (some ⟨g, f, none⟩)) (fun w1 _ => by kernel_rfl) ?_
  simp only [Act.put, List.setIfInBounds_toArray, List.set_cons_succ, List.set_cons_zero]
  refine wpFree_one rfl (.pointer (some ⟨g, f, none⟩)) (fun w1 _ => by kernel_rfl) ?_
  simp only [Act.put, List.setIfInBounds_toArray, List.set_cons_succ, List.set_cons_zero]
  refine wpFree_one rfl (.pointer (some ⟨g, f + 1, none⟩)) (fun w1 _ => by kernel_rfl) ?_
  simp only [Act.put, List.setIfInBounds_toArray, List.set_cons_succ, List.set_cons_zero]
  refine wpFree_one rfl (.pointer (some ⟨g, f + 1, none⟩)) (fun w1 _ => by kernel_rfl) ?_
  simp only [Act.put, List.setIfInBounds_toArray, List.set_cons_succ, List.set_cons_zero]
  refine wpFree_loadF F rfl rfl rfl rfl List.mem_cons_self I.out.c1 Try.underlying25 ?_
  simp only [Act.put, List.setIfInBounds_toArray, List.set_cons_succ, List.set_cons_zero]
  refine wpFree_one rfl (.float .f32 s) (fun w1 _ => by kernel_rfl) ?_
  simp only [Act.put, List.setIfInBounds_toArray, List.set_cons_succ, List.set_cons_zero]
  refine wpFree_farith rfl rfl rfl rfl rfl (fun r124 h124 f124 => ?_)
  simp only [Act.put, List.setIfInBounds_toArray, List.set_cons_succ, List.set_cons_zero]
  refine wpFree_one rfl (.pointer (some ⟨g, f, none⟩)) (fun w1 _ => by kernel_rfl) ?_
  simp only [Act.put, List.setIfInBounds_toArray, List.set_cons_succ, List.set_cons_zero]
  refine wpFree_one rfl (.pointer (some ⟨g, f, none⟩)) (fun w1 _ => by kernel_rfl) ?_
  simp only [Act.put, List.setIfInBounds_toArray, List.set_cons_succ, List.set_cons_zero]
  refine wpFree_one rfl (.pointer (some ⟨g, f + 1, none⟩)) (fun w1 _ => by kernel_rfl) ?_
  simp only [Act.put, List.setIfInBounds_toArray, List.set_cons_succ, List.set_cons_zero]
  refine wpFree_one rfl (.pointer (some ⟨g, f + 2, none⟩)) (fun w1 _ => by kernel_rfl) ?_
  simp only [Act.put, List.setIfInBounds_toArray, List.set_cons_succ, List.set_cons_zero]
  refine wpFree_loadF F rfl rfl rfl rfl List.mem_cons_self I.out.c2 Try.underlying25 ?_
  simp only [Act.put, List.setIfInBounds_toArray, List.set_cons_succ, List.set_cons_zero]
  refine wpFree_one rfl (.float .f32 x) (fun w1 _ => by kernel_rfl) ?_
  simp only [Act.put, List.setIfInBounds_toArray, List.set_cons_succ, List.set_cons_zero]
  refine wpFree_farith rfl rfl rfl rfl rfl (fun r131 h131 f131 => ?_)
  simp only [Act.put, List.setIfInBounds_toArray, List.set_cons_succ, List.set_cons_zero]
  refine wpFree_farith rfl rfl rfl rfl rfl (fun r132 h132 f132 => ?_)
  simp only [Act.put, List.setIfInBounds_toArray, List.set_cons_succ, List.set_cons_zero]
  refine wpFree_one rfl (.pointer (some ⟨g, f, none⟩)) (fun w1 _ => by kernel_rfl) ?_
  simp only [Act.put, List.setIfInBounds_toArray, List.set_cons_succ, List.set_cons_zero]
  refine wpFree_one rfl (.pointer (some ⟨g, f, none⟩)) (fun w1 _ => by kernel_rfl) ?_
  simp only [Act.put, List.setIfInBounds_toArray, List.set_cons_succ, List.set_cons_zero]
  refine wpFree_one rfl (.pointer (some ⟨g, f + 1, none⟩)) (fun w1 _ => by kernel_rfl) ?_
  simp only [Act.put, List.setIfInBounds_toArray, List.set_cons_succ, List.set_cons_zero]
  refine wpFree_one rfl (.pointer (some ⟨g, f + 3, none⟩)) (fun w1 _ => by kernel_rfl) ?_
  simp only [Act.put, List.setIfInBounds_toArray, List.set_cons_succ, List.set_cons_zero]
  refine wpFree_loadF F rfl rfl rfl rfl List.mem_cons_self I.out.c3 Try.underlying25 ?_
  simp only [Act.put, List.setIfInBounds_toArray, List.set_cons_succ, List.set_cons_zero]
  refine wpFree_one rfl (.float .f32 y) (fun w1 _ => by kernel_rfl) ?_
  simp only [Act.put, List.setIfInBounds_toArray, List.set_cons_succ, List.set_cons_zero]
  refine wpFree_farith rfl rfl rfl rfl rfl (fun r139 h139 f139 => ?_)
  simp only [Act.put, List.setIfInBounds_toArray, List.set_cons_succ, List.set_cons_zero]
  refine wpFree_farith rfl rfl rfl rfl rfl (fun r140 h140 f140 => ?_)
  simp only [Act.put, List.setIfInBounds_toArray, List.set_cons_succ, List.set_cons_zero]
  refine wpFree_one rfl (.float .f32 r140) (fun w1 _ => by kernel_rfl) ?_
  simp only [Act.put, List.setIfInBounds_toArray, List.set_cons_succ, List.set_cons_zero]
  refine wpFree_nil (fun w3 hw3 _ => ?_)
  replace U := hid ((U.out.le (le_drewN _ 1)).le hw3)
  replace F := Frm.one (((F.drewN 1).le hw3).row List.mem_cons_self)
  clear hw3 c0 c1 c2 c3 c4 c5
  have e : can .f32 r140 = outF 4 a b c x y s := (by rw [h140.out]; exact fop_congr (h132.out.trans ((fop_congr (h124.out.trans (can_fop _ _ _ _).symm) (h131.out.trans (can_fop _ _ _ _).symm)).trans (can_fop _ _ _ _).symm)) (h139.out.trans (can_fop _ _ _ _).symm))
  have hf := f140
  replace e := hid e
  go_wp2
  refine region_tail (fun _ _ _ v => v = .float .f32 (kept x)) 6 (by kernel_rfl) (by kernel_rfl) ?_
  simp only [List.take_succ_cons, List.take_zero, List.drop_succ_cons, List.drop_zero]
  refine wpFree_one rfl (.pointer (some ⟨g, f, none⟩)) (fun w1 _ => by kernel_rfl) ?_
  simp only [Act.put, List.setIfInBounds_toArray, List.set_cons_succ, List.set_cons_zero]
  refine wpFree_one rfl (.float .f32 x) (fun w1 _ => by kernel_rfl) ?_
  simp only [Act.put, List.setIfInBounds_toArray, List.set_cons_succ, List.set_cons_zero]
  refine wpFree_call rfl rfl Try.func61 (by kernel_rfl) (by kernel_rfl) (args := #[.float .f32 x]) (by simp [Act.eval]) (fun _ _ _ _ h => h) (fun w1 _ => (s_Kept x w1 Hx.out).mono ?_) ?_
  · rintro e w2 ⟨rfl, n, rfl⟩
    exact ⟨_, rfl, le_drewN _ n, rfl⟩
  rintro v ⟨_, _, rfl⟩
  simp only [Act.put, List.setIfInBounds_toArray, List.set_cons_succ, List.set_cons_zero]
  refine wpFree_one rfl (.pointer (some ⟨g, f, none⟩)) (fun w1 _ => by kernel_rfl) ?_
  simp only [Act.put, List.setIfInBounds_toArray, List.set_cons_succ, List.set_cons_zero]
  refine wpFree_one rfl (.pointer (some ⟨g, f + 4, none⟩)) (fun w1 _ => by kernel_rfl) ?_
  simp only [Act.put, List.setIfInBounds_toArray, List.set_cons_succ, List.set_cons_zero]
  refine wpFree_one rfl (.pointer (some ⟨g, f + 5, none⟩)) (fun w1 _ => by kernel_rfl) ?_
  simp only [Act.put, List.setIfInBounds_toArray, List.set_cons_succ, List.set_cons_zero]
  refine wpFree_nil (fun w5 hw5 _ => ?_)
  have RR := ((F.drewN 1).le hw5).row List.mem_cons_self
  replace U := hid (((U.out.le (le_drewN _ 1)).le hw5).setCell (a := ⟨g, f + 5, none⟩) rfl (.float .f32 (kept x)))
  have cc : w5.cell? ⟨g, f + 5, none⟩ = some (.float .f32 y) := (RR.cell? (f + 5)).trans I.out.c5
  have ff := RR.frozen (f + 5)
  have RN : Row (w5.setCell ⟨g, f + 5, none⟩ (.float .f32 (kept x))) g t (cs.setIfInBounds (f + 5) (.float .f32 (kept x))) := RR.set (f + 5) (.float .f32 (kept x))
  replace RR := hid RR
  clear hw5 F
  have F := Frm.one RN
  clear RN
  go_wp2
  refine region_tail (fun _ _ _ v => v = .float .f32 (kept r140)) 6 (by kernel_rfl) (by kernel_rfl) ?_
  simp only [List.take_succ_cons, List.take_zero, List.drop_succ_cons, List.drop_zero]
  refine wpFree_one rfl (.pointer (some ⟨g, f, none⟩)) (fun w1 _ => by kernel_rfl) ?_
  simp only [Act.put, List.setIfInBounds_toArray, List.set_cons_succ, List.set_cons_zero]
  refine wpFree_one rfl (.float .f32 r140) (fun w1 _ => by kernel_rfl) ?_
  simp only [Act.put, List.setIfInBounds_toArray, List.set_cons_succ, List.set_cons_zero]
  refine wpFree_call rfl rfl Try.func61 (by kernel_rfl) (by kernel_rfl) (args := #[.float .f32 r140]) (by simp [Act.eval]) (fun _ _ _ _ h => h) (fun w1 _ => (s_Kept r140 w1 hf.out).mono ?_) ?_
  · rintro e w2 ⟨rfl, n, rfl⟩
    exact ⟨_, rfl, le_drewN _ n, rfl⟩
  rintro v ⟨_, _, rfl⟩
  simp only [Act.put, List.setIfInBounds_toArray, List.set_cons_succ, List.set_cons_zero]
  refine wpFree_one rfl (.pointer (some ⟨g, f, none⟩)) (fun w1 _ => by kernel_rfl) ?_
  simp only [Act.put, List.setIfInBounds_toArray, List.set_cons_succ, List.set_cons_zero]
  refine wpFree_one rfl (.pointer (some ⟨g, f + 4, none⟩)) (fun w1 _ => by kernel_rfl) ?_
  simp only [Act.put, List.setIfInBounds_toArray, List.set_cons_succ, List.set_cons_zero]
  refine wpFree_one rfl (.pointer (some ⟨g, f + 4, none⟩)) (fun w1 _ => by kernel_rfl) ?_
  simp only [Act.put, List.setIfInBounds_toArray, List.set_cons_succ, List.set_cons_zero]
  refine wpFree_nil (fun w5 hw5 _ => ?_)
  have RR := ((F.drewN 1).le hw5).row List.mem_cons_self
  replace U := hid (((U.out.le (le_drewN _ 1)).le hw5).setCell (a := ⟨g, f + 4, none⟩) rfl (.float .f32 (kept r140)))
  have cc : w5.cell? ⟨g, f + 4, none⟩ = some (.float .f32 x) := (RR.cell? (f + 4)).trans (by rw [Array.getElem?_setIfInBounds_ne (by omega)]; exact I.out.c4)
  have ff := RR.frozen (f + 4)
  have RN : Row (w5.setCell ⟨g, f + 4, none⟩ (.float .f32 (kept r140))) g t ((cs.setIfInBounds (f + 5) (.float .f32 (kept x))).setIfInBounds (f + 4) (.float .f32 (kept r140))) := RR.set (f + 4) (.float .f32 (kept r140))
  replace RR := hid RR
  clear hw5 F
  have F := Frm.one RN
  clear RN
  have RN := hid (F.row List.mem_cons_self)
  clear F
  go_wp2
  go_ret
  refine ⟨_, rfl, e.out, hf.out, ?_, U.out⟩
  have e0 : (kept r140) = st0 4 a b c x y s := by exact kept_can (e.out.trans (can_outF _ _ _ _ _ _ _).symm)
  have e1 : (kept x) = st1 4 a b c x y s := by rfl
  rw [← e0, ← e1]
  rw [set_swap (show f + 4 ≠ f + 5 by omega)]
  exact RN.out
set_option maxRecDepth 100000 in
set_option maxHeartbeats 2000000 in
theorem s_StepAt5 (a b c x y s g f : Nat) (t : TypeId) (cs : Array Value) (w : World) (R : Row w g t cs) (I : FilIn cs f 5 a b c x y) (hx : fits .f32 x) (hs : fits .f32 s) :
    Calls Try.prog 46 #[.pointer (some ⟨g, f, none⟩), .float .f32 s] w (OutSt 5 a b c x y s g f t cs w) := by
  have Hx := hid hx; have Hs := hid hs; clear hx hs
  have F := Frm.one R
  have U := hid (Upd.refl g w)
  have c0 := (R.cell? f).trans I.k0
  have c1 := (R.cell? (f + 1)).trans I.c1
  have c2 := (R.cell? (f + 2)).trans I.c2
  have c3 := (R.cell? (f + 3)).trans I.c3
  have c4 := (R.cell? (f + 4)).trans I.c4
  have c5 := (R.cell? (f + 5)).trans I.c5
  replace I := hid I
  clear R
  go_enter Try.func46, Try.ntmps46
  go_wp2_with (with_reducible refine wpList_farith rfl rfl rfl rfl rfl ?_; intro r n hr hf)
  rename_i r1 n1 h1 f1 r2 n2 h2 f2 KK aa
  clear c0 c1 c2 c3 c4 c5
  have e : can .f32 r = outF 5 a b c x y s := (by rw [hr.out]; exact fop_congr (h1.out.trans (can_fop _ _ _ _).symm) (h2.out.trans (can_fop _ _ _ _).symm))
  replace U := hid (U.out.le (le_drewN _ (n1 + n2 + n)))
  replace F := Frm.one ((F.drewN (n1 + n2 + n)).row List.mem_cons_self)
  replace e := hid e
  refine region_tail (fun _ _ _ v => v = .float .f32 (kept s)) 6 (by kernel_rfl) (by kernel_rfl) ?_
  simp only [List.take_succ_cons, List.take_zero, List.drop_succ_cons, List.drop_zero]
  refine wpFree_one rfl (.pointer (some ⟨g, f, none⟩)) (fun w1 _ => by kernel_rfl) ?_
  simp only [Act.put, List.setIfInBounds_toArray, List.set_cons_succ, List.set_cons_zero]
  refine wpFree_one rfl (.float .f32 s) (fun w1 _ => by kernel_rfl) ?_
  simp only [Act.put, List.setIfInBounds_toArray, List.set_cons_succ, List.set_cons_zero]
  refine wpFree_call rfl rfl Try.func61 (by kernel_rfl) (by kernel_rfl) (args := #[.float .f32 s]) (by simp [Act.eval]) (fun _ _ _ _ h => h) (fun w1 _ => (s_Kept s w1 Hs.out).mono ?_) ?_
  · rintro e w2 ⟨rfl, n, rfl⟩
    exact ⟨_, rfl, le_drewN _ n, rfl⟩
  rintro v ⟨_, _, rfl⟩
  simp only [Act.put, List.setIfInBounds_toArray, List.set_cons_succ, List.set_cons_zero]
  refine wpFree_one rfl (.pointer (some ⟨g, f, none⟩)) (fun w1 _ => by kernel_rfl) ?_
  simp only [Act.put, List.setIfInBounds_toArray, List.set_cons_succ, List.set_cons_zero]
  refine wpFree_one rfl (.pointer (some ⟨g, f + 4, none⟩)) (fun w1 _ => by kernel_rfl) ?_
  simp only [Act.put, List.setIfInBounds_toArray, List.set_cons_succ, List.set_cons_zero]
  refine wpFree_one rfl (.pointer (some ⟨g, f + 4, none⟩)) (fun w1 _ => by kernel_rfl) ?_
  simp only [Act.put, List.setIfInBounds_toArray, List.set_cons_succ, List.set_cons_zero]
  refine wpFree_nil (fun w5 hw5 _ => ?_)
  have RR := ((F.drewN 1).le hw5).row List.mem_cons_self
  replace U := hid (((U.out.le (le_drewN _ 1)).le hw5).setCell (a := ⟨g, f + 4, none⟩) rfl (.float .f32 (kept s)))
  have cc : w5.cell? ⟨g, f + 4, none⟩ = some (.float .f32 x) := (RR.cell? (f + 4)).trans I.out.c4
  have ff := RR.frozen (f + 4)
  have RN : Row (w5.setCell ⟨g, f + 4, none⟩ (.float .f32 (kept s))) g t (cs.setIfInBounds (f + 4) (.float .f32 (kept s))) := RR.set (f + 4) (.float .f32 (kept s))
  replace RR := hid RR
  clear hw5 F
  have F := Frm.one RN
  clear RN
  go_wp2
  refine region_tail (fun _ _ _ v => v = .float .f32 (kept r)) 6 (by kernel_rfl) (by kernel_rfl) ?_
  simp only [List.take_succ_cons, List.take_zero, List.drop_succ_cons, List.drop_zero]
  refine wpFree_one rfl (.pointer (some ⟨g, f, none⟩)) (fun w1 _ => by kernel_rfl) ?_
  simp only [Act.put, List.setIfInBounds_toArray, List.set_cons_succ, List.set_cons_zero]
  refine wpFree_one rfl (.float .f32 r) (fun w1 _ => by kernel_rfl) ?_
  simp only [Act.put, List.setIfInBounds_toArray, List.set_cons_succ, List.set_cons_zero]
  refine wpFree_call rfl rfl Try.func61 (by kernel_rfl) (by kernel_rfl) (args := #[.float .f32 r]) (by simp [Act.eval]) (fun _ _ _ _ h => h) (fun w1 _ => (s_Kept r w1 hf.out).mono ?_) ?_
  · rintro e w2 ⟨rfl, n, rfl⟩
    exact ⟨_, rfl, le_drewN _ n, rfl⟩
  rintro v ⟨_, _, rfl⟩
  simp only [Act.put, List.setIfInBounds_toArray, List.set_cons_succ, List.set_cons_zero]
  refine wpFree_one rfl (.pointer (some ⟨g, f, none⟩)) (fun w1 _ => by kernel_rfl) ?_
  simp only [Act.put, List.setIfInBounds_toArray, List.set_cons_succ, List.set_cons_zero]
  refine wpFree_one rfl (.pointer (some ⟨g, f + 4, none⟩)) (fun w1 _ => by kernel_rfl) ?_
  simp only [Act.put, List.setIfInBounds_toArray, List.set_cons_succ, List.set_cons_zero]
  refine wpFree_one rfl (.pointer (some ⟨g, f + 5, none⟩)) (fun w1 _ => by kernel_rfl) ?_
  simp only [Act.put, List.setIfInBounds_toArray, List.set_cons_succ, List.set_cons_zero]
  refine wpFree_nil (fun w5 hw5 _ => ?_)
  have RR := ((F.drewN 1).le hw5).row List.mem_cons_self
  replace U := hid (((U.out.le (le_drewN _ 1)).le hw5).setCell (a := ⟨g, f + 5, none⟩) rfl (.float .f32 (kept r)))
  have cc : w5.cell? ⟨g, f + 5, none⟩ = some (.float .f32 y) := (RR.cell? (f + 5)).trans (by rw [Array.getElem?_setIfInBounds_ne (by omega)]; exact I.out.c5)
  have ff := RR.frozen (f + 5)
  have RN : Row (w5.setCell ⟨g, f + 5, none⟩ (.float .f32 (kept r))) g t ((cs.setIfInBounds (f + 4) (.float .f32 (kept s))).setIfInBounds (f + 5) (.float .f32 (kept r))) := RR.set (f + 5) (.float .f32 (kept r))
  replace RR := hid RR
  clear hw5 F
  have F := Frm.one RN
  clear RN
  have RN := hid (F.row List.mem_cons_self)
  clear F
  go_wp2
  go_ret
  refine ⟨_, rfl, e.out, hf.out, ?_, U.out⟩
  have e0 : (kept s) = st0 5 a b c x y s := by rfl
  have e1 : (kept r) = st1 5 a b c x y s := by exact kept_can (e.out.trans (can_outF _ _ _ _ _ _ _).symm)
  rw [← e0, ← e1]
  exact RN.out
theorem s_StepAt (k : Int) (a b c x y s g f : Nat) (t : TypeId) (cs : Array Value) (w : World) (hv : okF k a b c x y = true) (R : Row w g t cs) (I : FilIn cs f k a b c x y) (hx : fits .f32 x) (hs : fits .f32 s) :
    Calls Try.prog 46 #[.pointer (some ⟨g, f, none⟩), .float .f32 s] w (OutSt k a b c x y s g f t cs w) := by
  have hk := okF_kind hv
  rcases (show k = 1 ∨ k = 2 ∨ k = 3 ∨ k = 4 ∨ k = 5 by omega) with rfl | rfl | rfl | rfl | rfl
  · exact s_StepAt1 a b c x y s g f t cs w R I hx hs (okF_y hv (.inl rfl))
  · exact s_StepAt2 a b c x y s g f t cs w R I hx hs (okF_y hv (.inr rfl))
  · exact s_StepAt3 a b c x y s g f t cs w R I hx hs
  · exact s_StepAt4 a b c x y s g f t cs w R I hx hs
  · exact s_StepAt5 a b c x y s g f t cs w R I hx hs
end Go.Proofs.Ythjdklolbkhbfaa

/- Equality of arrays of floats. Nothing here names a program. -/
namespace Go.Fk
open Go Go.RowKit
theorem run_all_loop {P : Program} (w : World) (c : Nat → Bool) (g : Nat → Option Bool × Unit → Sem (ForInStep (Option Bool × Unit))) : ∀ (l : List Nat),
    (∀ i, i ∈ l → ∀ s, (g i s).run P w = .ok (if c i then ForInStep.yield (none, ()) else ForInStep.done (some false, ())) w) →
    (forIn l ((none, ()) : Option Bool × Unit) g).run P w = .ok (if l.all c then (none, ()) else (some false, ())) w := by
  intro l
  induction l with
  | nil => intro _; rfl
  | cons i l ih =>
    intro h
    rw [List.forIn_cons, Sem.run_bind, h i (by simp) (none, ()), Result.andThen_ok]
    cases hc : c i
    · simp [hc]
    · simp only [if_true, hc, List.all_cons, Bool.true_and]
      exact ih (fun j hj => h j (by simp [hj]))

theorem run_equalIn_farr {P : Program} (w : World) (d n : Nat) {t e : TypeId} {k : FloatKind} (x y : Nat → Nat) (h : P.underlying t = some (.array n e)) (he : P.underlying e = some (.float k)) (hs : (P.info? e).map (·.size) = some 1) :
    (Op.equalIn (d + 2) t (.agg (ftab k x n)) (.agg (ftab k y n))).run P w = .ok ((List.range n).all (fun j => k.format.order (x j) (y j) == some .eq)) w := by
  cases hq : P.info? e with
  | none => simp [hq] at hs
  | some i =>
    have hsz : i.size = 1 := by simpa [hq] using hs
    unfold Op.equalIn
    simp only [Sem.run_bind, run_underlying h, Result.andThen_ok, sizeOf, typeInfo, hq, hsz, Nat.mul_one, run_program, Sem.run_pure, Std.Legacy.Range.forIn_eq_forIn_range']
    have key := run_all_loop (P := P) w (fun j => k.format.order (x j) (y j) == some .eq) (fun i _ => (do
            let a ← part e (ftab k x n) i
            let b ← part e (ftab k y n) i
            let r ← Op.equalIn (d + 1) e a b
            if (!r) = true then pure (ForInStep.done (some false, ())) else pure (ForInStep.yield (none, ())) : Sem (ForInStep (Option Bool × Unit)))) (List.range' 0 n) (by
      intro j hj s
      have hjn : j < n := by simpa using hj
      have p1 : ∀ z : Nat → Nat, (part e (ftab k z n) j).run P w = .ok (.float k (z j)) w := by
        intro z
        simp [part, isAgg, run_underlying he, get_ftab k z n j hjn]
      have p2 : (Op.equalIn (d + 1) e (.float k (x j)) (.float k (y j))).run P w = .ok (k.format.order (x j) (y j) == some .eq) w := by
        simp [Op.equalIn, run_underlying he, Op.floatEq]
      simp only [Sem.run_bind, p1, p2, Result.andThen_ok]
      cases (k.format.order (x j) (y j) == some .eq) <;> simp)
    have hr : [:n].size = n := by simp [Std.Legacy.Range.size]
    rw [hr, key, Result.andThen_ok, List.range_eq_range']
    cases (List.range' 0 n).all (fun j => k.format.order (x j) (y j) == some .eq) <;> simp
/-- '==' on arrays of floats. -/
theorem run_eql_farr {P : Program} (w : World) (n : Nat) {t e : TypeId} {k : FloatKind} (x y : Nat → Nat) (h : P.underlying t = some (.array n e)) (he : P.underlying e = some (.float k)) (hs : (P.info? e).map (·.size) = some 1) :
    (binOp .eql t (.agg (ftab k x n)) (.agg (ftab k y n))).run P w = .ok (.bool ((List.range n).all (fun j => k.format.order (x j) (y j) == some .eq))) w := by
  rw [run_eql_struct, run_equalIn_farr w 9998 n x y h he hs]; rfl
end Go.Fk

/- Stillness: 'IsStill', 'StepsToStill' of both. -/
namespace Go.Fk
open Go Go.RowKit
def zeroF (x : Nat) : Bool := FloatKind.f32.format.order x 0 == some .eq
def stillB (x y : Nat) : Bool := zeroF x && zeroF y
theorem stillB_arr (x y : Nat) : (List.range 2).all (fun j => FloatKind.f32.format.order (duo x y j) 0 == some .eq) = stillB x y := by
  simp [stillB, zeroF, duo, List.range_succ]
end Go.Fk
namespace Go.Proofs.Ythjdklolbkhbfaa
open Go.RowKit Go.Fk
end Go.Proofs.Ythjdklolbkhbfaa

/- How states go on, plainly. Nothing here names a program. -/
namespace Go.Fk
open Go Go.RowKit
theorem fits_fop (op : BinOp) (k : FloatKind) (x y : Nat) : fits k (fop op k x y) := by
  unfold fop
  split
  · rename_i r h
    unfold can; split
    · cases k <;> simp [fits, Lit.wf, qnan]
    · exact floatBits_wf h
  · cases k <;> simp [fits, Lit.wf, qnan]
theorem fits_outF (k : Int) (a b c x y s : Nat) : fits .f32 (outF k a b c x y s) := by
  unfold outF; split; exact fits_fop _ _ _ _; split; exact fits_fop _ _ _ _; split <;> exact fits_fop _ _ _ _
theorem fits_st1 {k : Int} {a b c x y s : Nat} (hx : fits .f32 x) : fits .f32 (st1 k a b c x y s) := by
  unfold st1; split; exact fits_zero; split; exact fits_kept hx; exact fits_kept (fits_outF _ _ _ _ _ _ _)
theorem fin_kept (v : Nat) : fin (kept v) = true := by
  unfold kept; split
  · rename_i h
    unfold flush; split
    · decide
    · exact h
  · decide
theorem usedB_three {a b c u : Nat} : usedB (tri a b c) 3 u = ((if 0 < u then fin a else sameB a 0) && (if 1 < u then fin b else sameB b 0) && (if 2 < u then fin c else sameB c 0)) := by
  simp [usedB, tri, List.range_succ, Bool.and_assoc]
theorem usedB_two {x y u : Nat} : usedB (duo x y) 2 u = ((if 0 < u then fin x else sameB x 0) && (if 1 < u then fin y else sameB y 0)) := by
  simp [usedB, duo, List.range_succ]
theorem same00 : sameB 0 0 = true := by decide
theorem okF_step {k : Int} {a b c x y s : Nat} (h : okF k a b c x y = true) : okF k a b c (st0 k a b c x y s) (st1 k a b c x y s) = true := by
  simp only [okF, Bool.and_eq_true] at h ⊢
  refine ⟨h.1, h.2.1, ?_⟩
  rw [usedB_two]
  have h0 : fin (st0 k a b c x y s) = true := by unfold st0; split <;> exact fin_kept _
  by_cases hk : k = 1 ∨ k = 2
  · have : sU k = 1 := by simp [sU, hk]
    have h1 : st1 k a b c x y s = 0 := by simp [st1, hk]
    rw [this, h1, h0]; simp [same00]
  · have : sU k = 2 := by simp [sU, hk]
    have h1 : fin (st1 k a b c x y s) = true := by unfold st1; rw [if_neg hk]; split <;> exact fin_kept _
    rw [this, h0, h1]; simp
/-- The states of a filter that gets zeros. -/
def stN (k : Int) (a b c x y : Nat) : Nat → Nat × Nat
  | 0 => (x, y)
  | n + 1 => (st0 k a b c (stN k a b c x y n).1 (stN k a b c x y n).2 0, st1 k a b c (stN k a b c x y n).1 (stN k a b c x y n).2 0)
theorem okF_stN {k : Int} {a b c x y : Nat} (h : okF k a b c x y = true) (n : Nat) : okF k a b c (stN k a b c x y n).1 (stN k a b c x y n).2 = true := by
  induction n with
  | zero => exact h
  | succ n ih => exact okF_step ih
theorem fits_stN {k : Int} {a b c x y : Nat} (hx : fits .f32 x) (hy : fits .f32 y) (n : Nat) : fits .f32 (stN k a b c x y n).1 ∧ fits .f32 (stN k a b c x y n).2 := by
  induction n with
  | zero => exact ⟨hx, hy⟩
  | succ n ih => exact ⟨fits_st0 fits_zero (fits_outF _ _ _ _ _ _ _), fits_st1 ih.1⟩
def stillN (k : Int) (a b c x y n : Nat) : Bool := stillB (stN k a b c x y n).1 (stN k a b c x y n).2
/-- What 'StepsToStill' gives. -/
def ResST (k : Int) (a b c x y K : Nat) (n code : Int) : Prop :=
  (code = 0 ∧ ∃ m : Nat, n = m ∧ m ≤ K ∧ stillN k a b c x y m = true ∧ ∀ i, i < m → stillN k a b c x y i = false) ∨ (code = 7 ∧ n = 0 ∧ ∀ i, i ≤ K → stillN k a b c x y i = false)
theorem ResST.one {k : Int} {a b c x y K : Nat} {n d n' d' : Int} (h : ResST k a b c x y K n d) (h' : ResST k a b c x y K n' d') : n = n' ∧ d = d' := by
  rcases h with ⟨rfl, m, rfl, h1, h2, h3⟩ | ⟨rfl, rfl, h1⟩ <;> rcases h' with ⟨rfl, m', rfl, h1', h2', h3'⟩ | ⟨rfl, rfl, h1'⟩
  · rcases Nat.lt_trichotomy m m' with h | h | h
    · rw [h3' m h] at h2; cases h2
    · subst h; exact ⟨rfl, rfl⟩
    · rw [h3 m' h] at h2'; cases h2'
  · rw [h1' m h1] at h2; cases h2
  · rw [h1 m' h1'] at h2'; cases h2'
  · exact ⟨rfl, rfl⟩
def OutST (k : Int) (a b c x y K : Nat) (w : World) (e : Ending) (w' : World) : Prop := ∃ n d, e = .returned (.tuple #[.int .i64 n, .int .i64 d]) ∧ ResST k a b c x y K n d ∧ le w w'
end Go.Fk

/- Strings, plainly: what they are, and their steps. Nothing here names a program. -/
namespace Go.Fk
open Go Go.RowKit
/-- A string: its samples, how many, the place of the oldest one, and the numbers of its filters. -/
structure StS where
  x : Nat → Nat
  n : Nat
  j : Nat
  ta : Nat
  tb : Nat
  tc : Nat
  tx : Nat
  ty : Nat
  da : Nat
  db : Nat
  dc : Nat
  dx : Nat
  dy : Nat
  l : Nat
/-- It is valid. -/
structure StS.Ok (q : StS) : Prop where
  n1 : 1 ≤ q.n
  n2 : q.n ≤ 1024
  j1 : q.j < q.n
  t : okF 3 q.ta q.tb q.tc q.tx q.ty = true
  d : okF 2 q.da q.db q.dc q.dx q.dy = true
  lf : fin q.l = true
  fta : fits .f32 q.ta
  ftb : fits .f32 q.tb
  ftc : fits .f32 q.tc
  ftx : fits .f32 q.tx
  fty : fits .f32 q.ty
  fda : fits .f32 q.da
  fdb : fits .f32 q.db
  fdc : fits .f32 q.dc
  fdx : fits .f32 q.dx
  fdy : fits .f32 q.dy
  fl : fits .f32 q.l
theorem outF_can (k : Int) (a b c x y s : Nat) : outF k a b c x y (can .f32 s) = outF k a b c x y s := by
  unfold outF
  split
  · rw [fop_can_r]
  · split
    · rw [fop_can_l]
    · split
      · rw [fop_can_r]
      · rw [fop_can_l]
theorem kept_of_can (a : Nat) : kept (can .f32 a) = kept a := kept_can (can_can _ _)
theorem st0_can (k : Int) (a b c x y s : Nat) : st0 k a b c x y (can .f32 s) = st0 k a b c x y s := by unfold st0; rw [outF_can, kept_of_can]
theorem st1_can (k : Int) (a b c x y s : Nat) : st1 k a b c x y (can .f32 s) = st1 k a b c x y s := by unfold st1; rw [outF_can]
theorem outF_congr {k : Int} {a b c x y s s' : Nat} (h : can .f32 s = can .f32 s') : outF k a b c x y s = outF k a b c x y s' := by rw [← outF_can, h, outF_can]
theorem st0_congr {k : Int} {a b c x y s s' : Nat} (h : can .f32 s = can .f32 s') : st0 k a b c x y s = st0 k a b c x y s' := by rw [← st0_can, h, st0_can]
theorem st1_congr {k : Int} {a b c x y s s' : Nat} (h : can .f32 s = can .f32 s') : st1 k a b c x y s = st1 k a b c x y s' := by rw [← st1_can, h, st1_can]
/-- What the filters of a string make of its oldest sample. -/
def y1S (q : StS) : Nat := outF 3 q.ta q.tb q.tc q.tx q.ty (q.x q.j)
def y2S (q : StS) : Nat := outF 2 q.da q.db q.dc q.dx q.dy (y1S q)
/-- The sample that comes in. -/
def nextS (q : StS) (a : Nat) : Nat := kept (fop .add .f32 (fop .mul .f32 (y2S q) q.l) a)
/-- The string behind a step. -/
def stepS (q : StS) (a : Nat) : StS :=
  { q with x := pushX q.x q.j (nextS q a), j := (q.j + 1) % q.n, tx := st0 3 q.ta q.tb q.tc q.tx q.ty (q.x q.j), ty := st1 3 q.ta q.tb q.tc q.tx q.ty (q.x q.j), dx := st0 2 q.da q.db q.dc q.dx q.dy (y1S q), dy := st1 2 q.da q.db q.dc q.dx q.dy (y1S q) }
theorem kept_fop_can (op : BinOp) (x y : Nat) : kept (fop op .f32 x (can .f32 y)) = kept (fop op .f32 x y) := by rw [fop_can_r]
theorem nextS_can (q : StS) (a : Nat) : nextS q (can .f32 a) = nextS q a := by unfold nextS; rw [fop_can_r]
theorem fits_can {a : Nat} (h : fits .f32 a) : fits .f32 (can .f32 a) := by
  unfold can; split
  · simp [fits, Lit.wf, qnan]
  · exact h
theorem fits_nextS (q : StS) (a : Nat) : fits .f32 (nextS q a) := fits_kept (fits_fop _ _ _ _)
theorem StS.Ok.step {q : StS} (h : q.Ok) (a : Nat) (hf : fits .f32 (q.x q.j)) : (stepS q a).Ok where
  n1 := h.n1
  n2 := h.n2
  j1 := Nat.mod_lt _ h.n1
  t := okF_step h.t
  d := okF_step h.d
  lf := h.lf
  fta := h.fta
  ftb := h.ftb
  ftc := h.ftc
  ftx := show fits .f32 (st0 3 q.ta q.tb q.tc q.tx q.ty (q.x q.j)) from fits_st0 hf (fits_outF _ _ _ _ _ _ _)
  fty := show fits .f32 (st1 3 q.ta q.tb q.tc q.tx q.ty (q.x q.j)) from fits_st1 h.ftx
  fda := h.fda
  fdb := h.fdb
  fdc := h.fdc
  fdx := show fits .f32 (st0 2 q.da q.db q.dc q.dx q.dy (y1S q)) from fits_st0 (fits_outF _ _ _ _ _ _ _) (fits_outF _ _ _ _ _ _ _)
  fdy := show fits .f32 (st1 2 q.da q.db q.dc q.dx q.dy (y1S q)) from fits_st1 h.fdx
  fl := h.fl
/-- Is a sample heard? -/
def loudB (a : Nat) : Nat := if zeroF a = true then 0 else 1
theorem zeroF_can (a : Nat) : zeroF (can .f32 a) = zeroF a := by unfold zeroF; rw [order_can_l]
theorem loudB_can (a : Nat) : loudB (can .f32 a) = loudB a := by unfold loudB; rw [zeroF_can]
/-- How many of the first samples are heard. -/
def loudN (x : Nat → Nat) : Nat → Nat
  | 0 => 0
  | n + 1 => loudN x n + loudB (x n)
theorem loudN_congr {x y : Nat → Nat} {n : Nat} (h : ∀ i, i < n → x i = y i) : loudN x n = loudN y n := by
  induction n with
  | zero => rfl
  | succ n ih => simp only [loudN]; rw [ih (fun i hi => h i (by omega)), h n (by omega)]
theorem loudN_push {x : Nat → Nat} {n j a : Nat} (hj : j < n) : loudN (pushX x j a) n + loudB (x j) = loudN x n + loudB a := by
  induction n with
  | zero => omega
  | succ n ih =>
    simp only [loudN]
    by_cases e : j = n
    · subst e
      rw [loudN_congr (y := x) (fun i hi => by simp [pushX, show i ≠ j by omega])]
      simp [pushX, loudB_can]; omega
    · have := ih (by omega)
      have e2 : pushX x j a n = x n := by simp [pushX, show n ≠ j by omega]
      rw [e2]; omega
theorem loudN_le (x : Nat → Nat) (n : Nat) : loudN x n ≤ n := by
  induction n with
  | zero => exact Nat.le_refl _
  | succ n ih => simp only [loudN]; have : loudB (x n) ≤ 1 := by unfold loudB; split <;> omega
                 omega
theorem loudN_zero {x : Nat → Nat} {n : Nat} : loudN x n = 0 ↔ ∀ i, i < n → zeroF (x i) = true := by
  induction n with
  | zero => simp [loudN]
  | succ n ih =>
    simp only [loudN]
    constructor
    · intro h i hi
      rcases Nat.lt_or_ge i n with h1 | h1
      · exact ih.1 (by omega) i h1
      · obtain rfl : i = n := by omega
        have : loudB (x i) = 0 := by omega
        unfold loudB at this
        split at this
        · assumption
        · omega
    · intro h
      have h1 := ih.2 (fun i hi => h i (by omega))
      have h2 : loudB (x n) = 0 := by unfold loudB; rw [if_pos (h n (by omega))]
      omega
/-- Is a string silent? -/
def silS (q : StS) : Bool := decide (loudN q.x q.n = 0) && (stillB q.tx q.ty && stillB q.dx q.dy)
end Go.Fk

/- A bow's meeting of waves, in the model. -/
namespace Go.Fk
open Go Go.RowKit
/-- What comes from the bridge, from the neck, and the difference of speeds. -/
def uBow (l a b c p q y : Nat) : Nat := can .f32 (neg .f32 (fop .mul .f32 l (outF 1 a b c p q y)))
def vBow (x : Nat) : Nat := can .f32 (neg .f32 x)
def dBow (sp u v : Nat) : Nat := fop .sub .f32 sp (fop .add .f32 u v)
theorem chg_updB {g : Nat} {w w' : World} (h : Upd g w w') : Chg (· = g) w w' := ⟨h.os, h.tape, h.output, h.size, fun k hk hn => h.block k hk hn⟩
end Go.Fk
namespace Go.Proofs.Ythjdklolbkhbfaa
open Go.RowKit Go.Fk
theorem inBow (s t : Value) (j k : Nat) (a b c p q m l : Nat) : FilIn #[s, .int .i64 (j : Nat), t, .int .i64 (k : Nat), .int .i64 1, .float .f32 a, .float .f32 b, .float .f32 c, .float .f32 p, .float .f32 q, .float .f32 m, .float .f32 l] 4 1 a b c p q := ⟨rfl, rfl, rfl, rfl, rfl, rfl⟩
set_option maxRecDepth 100000 in
set_option maxHeartbeats 4000000 in
theorem s_l05Draw (x y : Nat → Nat) (nx ny j k a b c p q m l sp : Nat) (s t : Value) (lo hi lo2 hi2 g : Nat) (w : World)
    (R : Row w g 38 #[s, .int .i64 (j : Nat), t, .int .i64 (k : Nat), .int .i64 1, .float .f32 a, .float .f32 b, .float .f32 c, .float .f32 p, .float .f32 q, .float .f32 m, .float .f32 l])
    (O1 : OwnS w lo hi s x nx) (O2 : OwnS w lo2 hi2 t y ny) (hj : j < nx) (hk : k < ny) (n1 : nx ≤ 1024) (n2 : ny ≤ 1024) (g1 : ¬ (lo ≤ g ∧ g < hi)) (hv : okF 1 a b c p q = true) (hp : fits .f32 p) :
    Calls Try.prog 25 #[.pointer (some ⟨g, 0, none⟩), .float .f32 sp] w fun e w' => ∃ u v d, e = .returned (.tuple #[.float .f32 u, .float .f32 v, .float .f32 d]) ∧ can .f32 u = uBow l a b c p q (y k) ∧ can .f32 v = vBow (x j) ∧ can .f32 d = dBow sp (uBow l a b c p q (y k)) (vBow (x j)) ∧ fits .f32 u ∧ fits .f32 v ∧ fits .f32 d ∧
      Row w' g 38 #[s, .int .i64 (j : Nat), t, .int .i64 (k : Nat), .int .i64 1, .float .f32 a, .float .f32 b, .float .f32 c, .float .f32 (st0 1 a b c p q (y k)), .float .f32 (st1 1 a b c p q (y k)), .float .f32 m, .float .f32 l] ∧ Chg (· = g) w w' := by
  rcases O1 with ⟨rfl, h0⟩ | ⟨d1, o1, cap1, ds1, rfl, hc1, hm1, hb1, hb1', hrow1, hx1⟩
  · omega
  rcases O2 with ⟨rfl, h0⟩ | ⟨d2, o2, cap2, ds2, rfl, hc2, hm2, hb2, hb2', hrow2, hx2⟩
  · omega
  obtain ⟨yx, ex, fx, cx⟩ := hx1 j hj
  obtain ⟨yy, ey, fy, cy⟩ := hx2 k hk
  have c2 := R.cell? 2
  have c3 := R.cell? 3
  have cb : w.cell? ⟨d2, o2 + k, none⟩ = some (.float .f32 yy) := (hrow2.cell? (o2 + k)).trans ey
  have RR := hid R; have HR1 := hid hrow1; have HX := hid ex; have HC := hid cy; have HCX := hid cx; have HV := hid hv
  clear R hrow1 hrow2 hx1 hx2 ex ey cy cx hv
  unfold maxLen at hm1 hm2
  go_enter Try.func25, Try.ntmps25
  go_wp2_with fail
  refine wp_region_tail (fun _ _ _ => True) 15 (by kernel_rfl) (by kernel_rfl) ?_; simp only [List.take_succ_cons, List.take_zero, List.drop_succ_cons, List.drop_zero]
  repeat (first | (refine wpLoose_quiet rfl ?_; go_big_quiet_step (fail); refine wpQuiet_nil ?_) | (refine wpLoose_nilP rfl rfl rfl ?_; simp only [Act.put, List.setIfInBounds_toArray, List.set_cons_succ, List.set_cons_zero]))
  refine wpLoose_nil (fun m1 => ?_)
  clear c2 c3 cb
  have HCY : Hid (can .f32 yy = can .f32 (y k)) := by unfold Hid; rw [← HC.out, can_can]
  go_wp2_with (first | (with_reducible refine wpList_farith rfl rfl rfl rfl rfl ?_; intro r2 n2 hr2 hf2) | (go_at_call 46; ((with_reducible refine (s_StepAt 1 a b c p q yy g 4 _ _ _ HV.out (RR.out.drewN _) (inBow _ _ j k a b c p q m l) hp fy).mono ?_); rintro e w1 ⟨r1, rfl, hr1, fr1, hR1, hU1⟩; rw [st0_congr HCY.out, st1_congr HCY.out] at hR1; have R1 := hid (show Row w1 g 38 #[(.slice (some ⟨d1, o1, none⟩) nx cap1), .int .i64 (j : Nat), (.slice (some ⟨d2, o2, none⟩) ny cap2), .int .i64 (k : Nat), .int .i64 1, .float .f32 a, .float .f32 b, .float .f32 c, .float .f32 (st0 1 a b c p q (y k)), .float .f32 (st1 1 a b c p q (y k)), .float .f32 m, .float .f32 l] from by simpa using hR1); have HC1 := hid (hr1.trans (outF_congr HCY.out)); have U1 := hid (chg_updB hU1); have c11 := R1.out.cell? 11; have c0 := R1.out.cell? 0; have c1 := R1.out.cell? 1; have F1 := hid fr1; clear hR1 hr1 hU1)))
  have cbx : w1.cell? ⟨d1, o1 + j, none⟩ = some (.float .f32 yx) := ((U1.out.row (HR1.out.drewN _) (fun e => g1 (by subst e; exact ⟨hb1, hb1'⟩))).cell? (o1 + j)).trans HX.out
  refine wp_region_loose (fun _ _ _ => True) (by kernel_rfl) (by kernel_rfl) ?_
  repeat (first | (refine wpLoose_quiet rfl ?_; go_big_quiet_step (fail); refine wpQuiet_nil ?_) | (refine wpLoose_nilP rfl rfl rfl ?_; simp only [Act.put, List.setIfInBounds_toArray, List.set_cons_succ, List.set_cons_zero]))
  refine wpLoose_nil (fun m2 => ?_)
  go_wp2_with (first | (with_reducible refine wpList_farith (op := .add) rfl rfl rfl rfl rfl ?_; intro r3 n3 hr3 hf3) | (with_reducible refine wpList_farith (op := .sub) rfl rfl rfl rfl rfl ?_; intro r4 n4 hr4 hf4))
  go_ret3
  have e1 : can .f32 (neg .f32 r2) = uBow l a b c p q (y k) := neg_congr (hr2.out.trans ((fop_congr rfl (HC1.out.trans (can_outF _ _ _ _ _ _ _).symm)).trans (can_fop _ _ _ _).symm))
  have e2 : can .f32 (neg .f32 yx) = vBow (x j) := neg_congr (by rw [← HCX.out, can_can])
  have e3 : can .f32 (uBow l a b c p q (y k)) = uBow l a b c p q (y k) := can_can _ _
  have e4 : can .f32 (vBow (x j)) = vBow (x j) := can_can _ _
  refine ⟨_, _, _, rfl, e1, e2, ?_, fits_neg hf2.out, fits_neg fx, hf4.out, R1.out.le ?_, Chg.le ((Chg.of_le (le_drewN _ _)).trans U1.out) ?_⟩
  · exact hr4.out.trans (fop_congr rfl (hr3.out.trans ((fop_congr (e1.trans e3.symm) (e2.trans e4.symm)).trans (can_fop _ _ _ _).symm)))
  all_goals first | exact le_drewN _ _ | exact le_trans (le_drewN _ _) (le_drewN _ _) | exact le_trans (le_drewN _ _) (le_trans (le_drewN _ _) (le_drewN _ _)) | exact le_trans (le_drewN _ _) (le_trans (le_drewN _ _) (le_trans (le_drewN _ _) (le_drewN _ _)))
end Go.Proofs.Ythjdklolbkhbfaa

/- As FreeD, where one operation (with the index c) may write what all others leave as it is: it comes up but once. Nothing here names a program. -/
namespace Go.Fk
open Go Go.RowKit
section
variable (E0 E1 : Ext) (c : Nat) (Vc : World → Value → Prop) (P : Program) (ops : Array Oper) (md : Region.Mode) (W : World) (K : FuncId → Array Value → World → Value → Prop)
def preE (i : Nat) : Ext := if i = c then E0 else E1
def stepE (i : Nat) : Ext := if i = c then E1 else E0
def YieldsP (i : Nat) (o : Oper) (a : Act) (F : Facts) (V : World → Value → Prop) : Prop :=
  MonoT E1 V ∧ (i = c → V = Vc) ∧ ((Region.wanted o (yielded ops a.tmps) = true ∧ ∀ w, (preE E0 E1 c i).R W w → behind md o F w → insideT (stepE E0 E1 c i) P K w V ((execOp a.eval o).run P w)) ∨ (i ≠ c ∧ Region.wanted o (yielded ops a.tmps) = false ∧ ∀ w, E1.R W w → behind md o F w → V w undef))
def wpFreeP (Q : Act → World → Prop) : List Oper → Nat → Act → Facts → Prop
  | [], _, a, F => ∀ w, E1.R W w → (∀ e, F e w) → Q a w
  | o :: rest, k, a, F => ∃ V, YieldsP E0 E1 c Vc P ops md W K k o a F V ∧ ∀ v, met E1 W F (fun w => V w v) → wpFreeP Q rest (k + 1) (a.put o.dst v) (F.with k (fun w => V w v))
def anyFreeP (n : Nat) (L : Array Bool → Act → Facts → Prop) : Nat → Array Bool → Act → Facts → Prop
  | 0, listed, a, F => L listed a F
  | f + 1, listed, a, F => Region.ready md ops listed ≠ [] ∧
      ∀ i ∈ Region.ready md ops listed, i < n ∧ ∀ o, ops[i]? = some o → ∃ V, YieldsP E0 E1 c Vc P ops md W K i o a F V ∧ ∀ v, met E1 W F (fun w => V w v) → anyFreeP n L f (listed.setIfInBounds i true) (a.put o.dst v) (F.with i (fun w => V w v))
end
section
variable {E0 E1 : Ext} {c : Nat} {Vc : World → Value → Prop} {P : Program} {ops : Array Oper} {md : Region.Mode} {W : World} {K : FuncId → Array Value → World → Value → Prop}
theorem stepE_sub (hs : ∀ w w', E0.R w w' → E1.R w w') {i : Nat} {w w' : World} (h : (stepE E0 E1 c i).R w w') : E1.R w w' := by
  unfold stepE at h
  split at h
  · exact h
  · exact hs _ _ h
theorem YieldsP.some (hs : ∀ w w', E0.R w w' → E1.R w w') (hVc : ∀ w, E1.R W w → ∃ v w', E1.R w w' ∧ Vc w' v) {i : Nat} {o : Oper} {a : Act} {F : Facts} {V : World → Value → Prop} (hm : FMono E1 F) (hx : met E1 W F (fun _ => True)) (h : YieldsP E0 E1 c Vc P ops md W K i o a F V) : ∃ v, met E1 W F (fun w => V w v) := by
  obtain ⟨w, hw, hF, _⟩ := hx
  by_cases e : i = c
  · obtain ⟨v, w', hl, hv⟩ := hVc w hw
    exact ⟨v, w', E1.trans hw hl, hm w w' hl hF, by rw [h.2.1 e]; exact hv⟩
  · rcases h.2.2 with ⟨_, h⟩ | ⟨_, _, h⟩
    · obtain ⟨v, w', hl, hv⟩ := insideT_some (h w (by unfold preE; rw [if_neg e]; exact hw) (fun e _ _ => hF e.on))
      have hl' := stepE_sub hs hl
      exact ⟨v, w', E1.trans hw hl', hm w w' hl' hF, hv⟩
    · exact ⟨undef, w, hw, hF, h w hw (fun e _ _ => hF e.on)⟩
theorem YieldsP.same {i : Nat} {o : Oper} {a a' : Act} {F : Facts} {V : World → Value → Prop} (he : execOp a'.eval o = execOp a.eval o) (hw : Region.wanted o (yielded ops a'.tmps) = Region.wanted o (yielded ops a.tmps))
    (h : YieldsP E0 E1 c Vc P ops md W K i o a F V) : YieldsP E0 E1 c Vc P ops md W K i o a' F V := by
  unfold YieldsP at *; rw [he, hw]; exact h
theorem YieldsP.less {j : Nat} {o : Oper} {a : Act} {F : Facts} {i : Nat} {X : World → Prop} {V : World → Value → Prop} (hn : ∀ e ∈ o.after, Region.binds md e = true → e.on ≠ i) (h : YieldsP E0 E1 c Vc P ops md W K j o a (F.with i X) V) : YieldsP E0 E1 c Vc P ops md W K j o a F V := by
  have key : ∀ w, behind md o F w → behind md o (F.with i X) w := fun w hw e he hb => ⟨hw e he hb, fun h => absurd h (hn e he hb)⟩
  refine ⟨h.1, h.2.1, ?_⟩
  rcases h.2.2 with ⟨h1, h2⟩ | ⟨h0, h1, h2⟩
  · exact .inl ⟨h1, fun w hw hb => h2 w hw (key w hb)⟩
  · exact .inr ⟨h0, h1, fun w hw hb => h2 w hw (key w hb)⟩
theorem YieldsP.stronger {j : Nat} {o : Oper} {a : Act} {F F' : Facts} {V : World → Value → Prop} (hF : ∀ e w, F' e w → F e w) (h : YieldsP E0 E1 c Vc P ops md W K j o a F V) : YieldsP E0 E1 c Vc P ops md W K j o a F' V := by
  have key : ∀ w, behind md o F' w → behind md o F w := fun w hw e he hb => hF _ _ (hw e he hb)
  refine ⟨h.1, h.2.1, ?_⟩
  rcases h.2.2 with ⟨h1, h2⟩ | ⟨h0, h1, h2⟩
  · exact .inl ⟨h1, fun w hw hb => h2 w hw (key w hb)⟩
  · exact .inr ⟨h0, h1, fun w hw hb => h2 w hw (key w hb)⟩
theorem YieldsP.more {j : Nat} {o : Oper} {a : Act} {F : Facts} {i : Nat} {X : World → Prop} {V : World → Value → Prop} (h : YieldsP E0 E1 c Vc P ops md W K j o a F V) : YieldsP E0 E1 c Vc P ops md W K j o a (F.with i X) V := h.stronger (fun _ _ h => h.1)
theorem insideT_mono {E E' : Ext} (hE : ∀ w w', E.R w w' → E'.R w w') {V : World → Value → Prop} {w : World} {r : Result Next} (h : insideT E P K w V r) : insideT E' P K w V r := by
  cases r with
  | ok n w' =>
    cases n <;> simp only [insideT] at h ⊢
    case value u => exact ⟨hE _ _ h.1, h.2⟩
    case skip => exact ⟨hE _ _ h.1, h.2⟩
    case enter f args => exact ⟨hE _ _ h.1, h.2.1.mono (fun e w'' ⟨v, e1, e2, e3⟩ => ⟨v, e1, hE _ _ e2, e3⟩), h.2.2⟩
  | halt x w' => simp only [insideT] at h
theorem wpOp_yieldsP {i : Nat} {o : Oper} {a : Act} {w : World} {F : Facts} {V : World → Value → Prop} {next : Act → World → Prop} {Q' : Exit → Act → World → Prop} (ho : ops[i]? = some o) (hw1 : E1.R W w) (hw : (preE E0 E1 c i).R W w) (hF : ∀ e, F e w) (hg : YieldsP E0 E1 c Vc P ops md W K i o a F V)
    (hn : ∀ v w', (stepE E0 E1 c i).R w w' → V w' v → next (a.put o.dst v) w') : wpOp P ops Q' i next a w := by
  unfold wpOp
  simp only [ho]
  rcases hg.2.2 with ⟨hwant, hv⟩ | ⟨_, hwant, hv⟩
  · rw [if_pos hwant]
    left
    have h3 := hv w hw (fun e _ _ => hF e.on)
    unfold Oper.wp
    generalize (execOp a.eval o).run P w = r at h3
    cases r with
    | ok x w' =>
      cases x <;> simp only [insideT] at h3 <;> simp only [Oper.upon]
      case value u => exact hn u _ h3.1 h3.2
      case skip => exact hn undef _ h3.1 h3.2
      case enter f args =>
        refine h3.2.1.mono fun e w'' he => ?_
        obtain ⟨v, rfl, hl, hk⟩ := he
        exact hn v _ ((stepE E0 E1 c i).trans h3.1 hl) (h3.2.2 w'' v hk)
    | halt x w' => simp only [insideT] at h3
  · rw [if_neg (by simp [hwant])]
    exact hn undef _ ((stepE E0 E1 c i).refl w) (hv w hw1 (fun e _ _ => hF e.on))
theorem anyFreeP_sound (hs : ∀ w w', E0.R w w' → E1.R w w') {n g : Nat} {L : Array Bool → Act → Facts → Prop} {Q' : Exit → Act → World → Prop} (hL : ∀ listed a F w, E1.R W w → (∀ e, F e w) → L listed a F → wpAny P md ops Q' g listed a w) :
    ∀ (f : Nat) (listed : Array Bool) (a : Act) (F : Facts) (w : World), FMono E1 F → E1.R W w → (listed.getD c true = false → E0.R W w) → (∀ e, F e w) → anyFreeP E0 E1 c Vc P ops md W K n L f listed a F → wpAny P md ops Q' (f + g) listed a w := by
  intro f
  induction f with
  | zero => intro listed a F w _ hw _ hF h; rw [Nat.zero_add]; exact hL _ _ _ _ hw hF h
  | succ f ih =>
    intro listed a F w hm hw hph hF h
    rw [show f + 1 + g = (f + g) + 1 by omega]
    refine ⟨fun h0 => absurd h0 h.1, fun i hi => ?_⟩
    obtain ⟨hun, o, ho, _⟩ := mem_ready.1 hi
    obtain ⟨V, hg, hn⟩ := (h.2 i hi).2 o ho
    have hpre : (preE E0 E1 c i).R W w := by
      unfold preE
      split
      · next e => subst e; exact hph hun
      · exact hw
    refine wpOp_yieldsP ho hw hpre hF hg (fun v w' hl hv => ih _ _ _ _ (hm.with hg.1 i v) (E1.trans hw (stepE_sub hs hl)) (fun hc => ?_) (Facts.with_mk (hm w w' (stepE_sub hs hl) hF) hv) (hn v ⟨w', E1.trans hw (stepE_sub hs hl), hm w w' (stepE_sub hs hl) hF, hv⟩))
    by_cases e : i = c
    · subst e
      have hlt : i < listed.size := by
        apply Nat.lt_of_not_le
        intro hle
        simp [Array.getD, Nat.not_lt.2 hle] at hun
      simp [Array.getD, hlt] at hc
    · rw [getD_set_ne true e] at hc
      unfold stepE at hl
      rw [if_neg e] at hl
      exact E0.trans (hph hc) hl
theorem anyFreeP_weaken {n : Nat} {L : Array Bool → Act → Facts → Prop} (hLm : ∀ listed a F F', (∀ e w, F' e w → F e w) → L listed a F → L listed a F') :
    ∀ (f : Nat) (listed : Array Bool) (a : Act) (F F' : Facts), (∀ e w, F' e w → F e w) → anyFreeP E0 E1 c Vc P ops md W K n L f listed a F → anyFreeP E0 E1 c Vc P ops md W K n L f listed a F' := by
  intro f
  induction f with
  | zero => intro listed a F F' h hh; exact hLm _ _ _ _ h hh
  | succ f ih =>
    intro listed a F F' h hh
    refine ⟨hh.1, fun i hi => ⟨(hh.2 i hi).1, fun o ho => ?_⟩⟩
    obtain ⟨V, hg, hn⟩ := (hh.2 i hi).2 o ho
    exact ⟨V, hg.stronger h, fun v hv => ih _ _ _ _ (fun e w hw => ⟨h e w hw.1, hw.2⟩) (hn v (hv.weaken (fun w hw e => h e w (hw e))))⟩
theorem anyFreeP_first (hs : ∀ w w', E0.R w w' → E1.R w w') (hVc : ∀ w, E1.R W w → ∃ v w', E1.R w w' ∧ Vc w' v) {n i : Nat} {oi : Oper} {V : World → Value → Prop} {L : Array Bool → Act → Facts → Prop} (hi : ops[i]? = some oi) (hsel : ∀ (j : Nat) (o : Oper) cs b, ops[j]? = some o → o.op ≠ .select cs b)
    (hbound : ∀ listed i, HeadInv md ops n listed → i < n → listed.getD i true = false → ∀ j ∈ Region.ready md ops listed, j < n) (hin : i < n)
    (hdone : ∀ listed a F, L listed a F → ∀ j ∈ Region.ready md ops listed, n ≤ j) (hLm : ∀ listed a F F', (∀ e w, F' e w → F e w) → L listed a F → L listed a F') :
    ∀ (f : Nat) (listed : Array Bool) (a : Act) (F : Facts), HeadInv md ops n listed →
      (∀ j oj, ops[j]? = some oj → j ≠ i → listed.getD j true = false → (∀ e ∈ oj.after, Region.binds md e = true → e.on ≠ i) → oi.apart ops oj = true) →
      i ∈ Region.ready md ops listed → FMono E1 F → met E1 W F (fun _ => True) → YieldsP E0 E1 c Vc P ops md W K i oi a F V →
      (∀ v, met E1 W F (fun w => V w v) → anyFreeP E0 E1 c Vc P ops md W K n L f (listed.setIfInBounds i true) (a.put oi.dst v) (F.with i (fun w => V w v))) → anyFreeP E0 E1 c Vc P ops md W K n L (f + 1) listed a F := by
  intro f
  induction f with
  | zero =>
    intro listed a F inv _ hr hm hx hg H
    have hun := (mem_ready.1 hr).1
    refine ⟨fun h => (by rw [h] at hr; cases hr), fun j hj => ?_⟩
    have hjn := hbound listed i inv hin hun j hj
    refine ⟨hjn, fun o ho => ?_⟩
    by_cases hji : j = i
    · subst hji
      rw [hi] at ho; cases ho
      exact ⟨V, hg, H⟩
    · obtain ⟨v, hv⟩ := hg.some hs hVc hm hx
      have := hdone _ _ _ (H v hv) j (ready_mono hj hji)
      omega
  | succ f ih =>
    intro listed a F inv hfree hr hm hx hg H
    have hun := (mem_ready.1 hr).1
    refine ⟨fun h => (by rw [h] at hr; cases hr), fun j hj => ?_⟩
    have hjn := hbound listed i inv hin hun j hj
    refine ⟨hjn, fun o ho => ?_⟩
    by_cases hji : j = i
    · subst hji
      rw [hi] at ho; cases ho
      exact ⟨V, hg, H⟩
    · obtain ⟨hjun, oj, hoj, hall⟩ := mem_ready.1 hj
      rw [ho] at hoj; cases hoj
      have hnot : ∀ e ∈ o.after, Region.binds md e = true → e.on ≠ i := fun e he hb heq => by
        have h1 := hall e he hb
        rw [heq, getD_both hun] at h1
        cases h1
      have hap := hfree j o ho hji hjun hnot
      obtain ⟨a1, a2, a3⟩ := Oper.apart_spec hap
      have hsi := fun cs b => hsel i oi cs b hi
      have hsj := fun cs b => hsel j o cs b ho
      have hU : ∀ v : {v // met E1 W F (fun w => V w v)}, ∃ U, YieldsP E0 E1 c Vc P ops md W K j o (a.put oi.dst v.1) (F.with i (fun w => V w v.1)) U ∧ ∀ u, met E1 W (F.with i (fun w => V w v.1)) (fun w => U w u) →
          anyFreeP E0 E1 c Vc P ops md W K n L f ((listed.setIfInBounds i true).setIfInBounds j true) ((a.put oi.dst v.1).put o.dst u) ((F.with i (fun w => V w v.1)).with j (fun w => U w u)) :=
        fun v => ((H v.1 v.2).2 j (ready_mono hj hji)).2 o ho
      obtain ⟨U, hU⟩ := Classical.skolem.1 hU
      obtain ⟨v0, hv0⟩ := hg.some hs hVc hm hx
      have hone : ∀ v, YieldsP E0 E1 c Vc P ops md W K j o a F (U v) := fun v => ((hU v).1.same (execOp_put o hsj a oi.dst v.1 a1).symm (wanted_put o a oi.dst v.1 a1).symm).less hnot
      have hgood : YieldsP E0 E1 c Vc P ops md W K j o a F (fun w u => ∀ v, U v w u) := by
        refine ⟨fun u w w' hl h v => (hone v).1 u w w' hl (h v), fun e => ?_, ?_⟩
        · funext w u
          exact propext ⟨fun h => by have := h ⟨v0, hv0⟩; rw [(hone ⟨v0, hv0⟩).2.1 e] at this; exact this, fun h v => by rw [(hone v).2.1 e]; exact h⟩
        by_cases hw : Region.wanted o (yielded ops a.tmps) = true
        · refine .inl ⟨hw, fun w hw' hb => inside_allT ⟨⟨v0, hv0⟩, trivial⟩ (fun v => ?_)⟩
          rcases (hone v).2.2 with ⟨_, h3⟩ | ⟨_, h3, _⟩
          · exact h3 w hw' hb
          · rw [hw] at h3; cases h3
        · have hne : j ≠ c := by
            rcases (hone ⟨v0, hv0⟩).2.2 with ⟨h3, _⟩ | ⟨h3, _, _⟩
            · exact absurd h3 hw
            · exact h3
          refine .inr ⟨hne, by simpa using hw, fun w hw' hb v => ?_⟩
          rcases (hone v).2.2 with ⟨h3, _⟩ | ⟨_, _, h3⟩
          · exact absurd h3 hw
          · exact h3 w hw' hb
      refine ⟨_, hgood, ?_⟩
      intro u hu
      have hfree' : ∀ k ok, ops[k]? = some ok → k ≠ i → (listed.setIfInBounds j true).getD k true = false →
          (∀ e ∈ ok.after, Region.binds md e = true → e.on ≠ i) → oi.apart ops ok = true := fun k ok hk hki hun hno => by
        refine hfree k ok hk hki ?_ hno
        by_cases hjk : j = k
        · subst hjk; exact hjun
        · rw [getD_set_ne true hjk] at hun; exact hun
      have hx' : met E1 W (F.with j (fun w => ∀ v, U v w u)) (fun _ => True) := by
        obtain ⟨w, hw, hF, hv⟩ := hu
        exact ⟨w, hw, Facts.with_mk hF hv, trivial⟩
      refine ih (listed.setIfInBounds j true) (a.put o.dst u) (F.with j (fun w => ∀ v, U v w u)) (inv.set hj hjn) hfree' (ready_mono hr (Ne.symm hji)) (hm.with hgood.1 j u) hx' ((hg.same (execOp_put oi hsi a o.dst u a3) (wanted_put oi a o.dst u a3)).more) (fun v hv => ?_)
      rw [Array.setIfInBounds_comm _ _ hji, ← Act.put_comm a v u a2]
      obtain ⟨w, hw, hF, hVv⟩ := hv
      have hF' := Facts.with_of hF
      have mv : met E1 W F (fun w => V w v) := ⟨w, hw, hF'.1, hVv⟩
      exact anyFreeP_weaken hLm _ _ _ _ _ (fun e w' h' => ⟨⟨h'.1.1, h'.2⟩, fun he => h'.1.2 he ⟨v, mv⟩⟩) ((hU ⟨v, mv⟩).2 u ⟨w, hw, Facts.with_mk hF'.1 hVv, hF'.2 ⟨v, mv⟩⟩)

theorem anyFreeP_lex (hs : ∀ w w', E0.R w w' → E1.R w w') (hVc : ∀ w, E1.R W w → ∃ v w', E1.R w w' ∧ Vc w' v) {n g : Nat} {R : Act → World → Prop} (hsel : Region.noSelect ops = true)
    (hbound : ∀ listed i, HeadInv md ops n listed → i < n → listed.getD i true = false → ∀ j ∈ Region.ready md ops listed, j < n) :
    ∀ (l : List Oper) (k : Nat) (listed : Array Bool) (a : Act) (F : Facts), (∀ j, j < l.length → l[j]? = ops[k + j]?) → k + l.length = n → HeadInv md ops n listed →
    Region.lexHead md ops g l.length k listed = true → FMono E1 F → met E1 W F (fun _ => True) → wpFreeP E0 E1 c Vc P ops md W K R l k a F →
    anyFreeP E0 E1 c Vc P ops md W K n (fun listed' a' F' => Region.seqB md ops g n listed' = true ∧ ∀ w, E1.R W w → (∀ e, F' e w) → R a' w) l.length listed a F := by
  intro l
  induction l with
  | nil =>
    intro k listed a F _ hk _ hB _ _ h
    have : k = n := by simpa using hk
    subst this
    exact ⟨by simpa [Region.lexHead] using hB, h⟩
  | cons o l ih =>
    intro k listed a F hl hk inv hB hm hx h
    have h0 : ops[k]? = some o := by simpa using (hl 0 (by simp)).symm
    simp only [List.length_cons, Region.lexHead, Bool.and_eq_true] at hB
    obtain ⟨⟨hr, hf⟩, hB'⟩ := hB
    have hkn : k < n := by simp only [List.length_cons] at hk; omega
    have hr' : k ∈ Region.ready md ops listed := by simpa using hr
    obtain ⟨V, hg, hnext⟩ := h
    exact anyFreeP_first hs hVc h0 (Region.noSelect_spec hsel) hbound hkn (fun listed' a' F' hL => seqB_ready hL.1) (fun _ _ _ _ hF hL => ⟨hL.1, fun w hw h' => hL.2 w hw (fun e => hF e w (h' e))⟩) l.length listed a F inv (Region.free_spec h0 hf) hr' hm hx hg
      (fun v hv => ih (k + 1) _ _ _ (fun j hj => by have := hl (j + 1) (by simp; omega); simpa [Nat.add_assoc, Nat.add_comm 1 j] using this) (by simp only [List.length_cons] at hk; omega) (inv.set hr' hkn) hB' (hm.with hg.1 k v)
        (by obtain ⟨w, hw, hF, hv'⟩ := hv; exact ⟨w, hw, Facts.with_mk hF hv', trivial⟩) (hnext v hv))

/-- A REGION THAT DRAWS ITS ORDER, one of whose operations writes. -/
theorem region_freeP (hs : ∀ w w', E0.R w w' → E1.R w w') (K : FuncId → Array Value → World → Value → Prop) {id : Nat} {Q : Exit → Act → World → Prop} {a : Act} {w : World} {l : List Oper} (hVc : ∀ w', E1.R (w.drewN 1) w' → ∃ v w'', E1.R w' w'' ∧ Vc w'' v) (hm : P.follows .mixedOrders = true)
    (hB : (Region.noSelect l.toArray && Region.lexHead .any l.toArray 0 l.length 0 (Array.replicate l.toArray.size false)) = true)
    (h : wpFreeP E0 E1 c Vc P l.toArray .any (w.drewN 1) K (fun a' w' => Q .normal a' w') l 0 a noFacts) : (Code.region id l.toArray true).wp P Q a w := by
  simp only [Bool.and_eq_true] at hB
  obtain ⟨hsel, hlex⟩ := hB
  have hbound : ∀ listed i, HeadInv .any l.toArray l.length listed → i < l.length → listed.getD i true = false → ∀ j ∈ Region.ready .any l.toArray listed, j < l.length := by
    intro listed i _ _ _ j hj
    obtain ⟨_, oj, hoj, _⟩ := mem_ready.1 hj
    simpa using (Array.getElem?_eq_some_iff.1 hoj).1
  have H := anyFreeP_lex (md := .any) (g := 0) hs hVc hsel hbound l 0 _ a noFacts (fun j hj => by simp) (by simp) (head_start _ l.length) hlex (fun _ _ _ h => h) ⟨w.drewN 1, E1.refl _, fun _ => trivial, trivial⟩ h
  refine wp_region_any hm ?_
  have := anyFreeP_sound (Q' := Q) (W := w.drewN 1) (g := 0) hs (fun listed a' F w' hw' hF hL => ⟨by simpa [Region.seqB] using hL.1, hL.2 w' hw' hF⟩) _ _ _ _ _ (fun _ _ _ h => h) (E1.refl _) (fun _ => E0.refl _) (fun _ => trivial) H
  rw [Nat.add_zero] at this
  exact this
end
end Go.Fk
