/- Texts of the walk, laid in one file. -/
import Derived.Laws.StructEq
import Derived.Test.YtmacednkpjfokaaMb
set_option linter.unusedVariables false
set_option linter.unusedSimpArgs false
/- Steps of filters: the plain functions; 'next' of each kind; 'step' of a runner; 'l02Step' of the model. -/
namespace Go.Fk
open Go Go.RowKit
/-- What a filter makes of a sample. -/
def outF (k : Int) (a b c x y s : Nat) : Nat :=
  if k = 1 ∨ k = 2 then fop .add .f32 (fop .mul .f32 a s) (fop .mul .f32 b x)
  else if k = 3 then fop .add .f32 (fop .mul .f32 a (fop .sub .f32 s y)) x
  else if k = 4 then fop .sub .f32 (fop .sub .f32 (fop .mul .f32 a s) (fop .mul .f32 b x)) (fop .mul .f32 c y)
  else fop .add .f32 (fop .sub .f32 s x) (fop .mul .f32 a y)
/-- The state behind it. -/
def st0 (k : Int) (a b c x y s : Nat) : Nat := if k = 1 ∨ k = 4 then kept (outF k a b c x y s) else kept s
def st1 (k : Int) (a b c x y s : Nat) : Nat := if k = 1 ∨ k = 2 then 0 else if k = 4 then kept x else kept (outF k a b c x y s)
theorem kept_zero : kept 0 = 0 := by decide
theorem can_outF (k : Int) (a b c x y s : Nat) : can .f32 (outF k a b c x y s) = outF k a b c x y s := by
  unfold outF; split; exact can_fop _ _ _ _; split; exact can_fop _ _ _ _; split <;> exact can_fop _ _ _ _
/-- What 'next' gives. -/
def OutN (k : Int) (a b c x y s : Nat) (w : World) (e : Ending) (w' : World) : Prop := ∃ r p q, e = .returned (.tuple #[.float .f32 r, .agg #[.float .f32 p, .float .f32 q]]) ∧ can .f32 r = outF k a b c x y s ∧ kept p = st0 k a b c x y s ∧ kept q = st1 k a b c x y s ∧ fits .f32 p ∧ fits .f32 q ∧ fits .f32 r ∧ le w w'
theorem fits_zero : fits .f32 0 := by simp [fits, Lit.wf]
theorem Row.store2 {W : World} {g : Nat} {t : TypeId} {o0 o1 v0 v1 : Value} (h : Row W g t #[o0, o1]) : Row ((W.setCell ⟨g, 0, none⟩ v0).setCell ⟨g, 1, none⟩ v1) g t #[v0, v1] := by
  have := (h.set 0 v0).set 1 v1
  simpa using this
/-- What a step gives: block g holds the new state. -/
def OutS (k : Int) (a b c x y s : Nat) (g : Nat) (t : TypeId) (cs : Nat → Nat → Array Value) (w : World) (e : Ending) (w' : World) : Prop := ∃ r, e = .returned (.float .f32 r) ∧ can .f32 r = outF k a b c x y s ∧ fits .f32 r ∧ Row w' g t (cs (st0 k a b c x y s) (st1 k a b c x y s)) ∧ Upd g w w'
end Go.Fk
namespace Go.Proofs.Ytmacednkpjfokaa
open Go.RowKit Go.Fk
theorem i_next1 (a b c x y s : Nat) (w : World) (hx : fits .f32 x) (hs : fits .f32 s) : Calls Try.prog 131 #[.agg #[.float .f32 a, .float .f32 b, .float .f32 c], .agg #[.float .f32 x, .float .f32 y], .float .f32 s] w (OutN 1 a b c x y s w) := by
  have Hx := hid hx; have Hs := hid hs; clear hx hs
  go_enter Try.func131, Try.ntmps131
  go_wp2_with (with_reducible refine wpList_farith rfl rfl rfl rfl rfl ?_; intro r n hr hf)
  rename_i r1 n1 h1 f1 r2 n2 h2 f2
  have e : can .f32 r = outF 1 a b c x y s := (by rw [hr.out]; exact fop_congr (h1.out.trans (can_fop _ _ _ _).symm) (h2.out.trans (can_fop _ _ _ _).symm))
  refine bodyPost_ret (results_row2r rfl _ _ _ _ _ rfl (Row.store2 ((Row.new' _ _ _ (by simp)).drewN _)) Try.underlying24 rfl info2) rfl ?_
  exact ⟨_, _, _, rfl, e, kept_can (e.trans (can_outF _ _ _ _ _ _ _).symm), kept_zero, hf.out, fits_zero, hf.out, by unfold le; repeat' (first | (with_reducible exact Below.refl _ _) | (with_reducible assumption) | (with_reducible refine below_drewN ?_ _) | (with_reducible refine Below.alloc ?_ ?_ _) | (with_reducible refine Below.drew ?_) | (with_reducible refine Below.setCell ?_ ?_ _) | go_size)⟩
theorem i_next2 (a b c x y s : Nat) (w : World) (hx : fits .f32 x) (hs : fits .f32 s) : Calls Try.prog 132 #[.agg #[.float .f32 a, .float .f32 b, .float .f32 c], .agg #[.float .f32 x, .float .f32 y], .float .f32 s] w (OutN 2 a b c x y s w) := by
  have Hx := hid hx; have Hs := hid hs; clear hx hs
  go_enter Try.func132, Try.ntmps132
  go_wp2_with (with_reducible refine wpList_farith rfl rfl rfl rfl rfl ?_; intro r n hr hf)
  rename_i r1 n1 h1 f1 r2 n2 h2 f2
  have e : can .f32 r = outF 2 a b c x y s := (by rw [hr.out]; exact fop_congr (h1.out.trans (can_fop _ _ _ _).symm) (h2.out.trans (can_fop _ _ _ _).symm))
  refine bodyPost_ret (results_row2r rfl _ _ _ _ _ rfl (Row.store2 ((Row.new' _ _ _ (by simp)).drewN _)) Try.underlying24 rfl info2) rfl ?_
  exact ⟨_, _, _, rfl, e, rfl, kept_zero, Hs.out, fits_zero, hf.out, by unfold le; repeat' (first | (with_reducible exact Below.refl _ _) | (with_reducible assumption) | (with_reducible refine below_drewN ?_ _) | (with_reducible refine Below.alloc ?_ ?_ _) | (with_reducible refine Below.drew ?_) | (with_reducible refine Below.setCell ?_ ?_ _) | go_size)⟩
theorem i_next3 (a b c x y s : Nat) (w : World) (hx : fits .f32 x) (hs : fits .f32 s) : Calls Try.prog 133 #[.agg #[.float .f32 a, .float .f32 b, .float .f32 c], .agg #[.float .f32 x, .float .f32 y], .float .f32 s] w (OutN 3 a b c x y s w) := by
  have Hx := hid hx; have Hs := hid hs; clear hx hs
  go_enter Try.func133, Try.ntmps133
  go_wp2_with (with_reducible refine wpList_farith rfl rfl rfl rfl rfl ?_; intro r n hr hf)
  rename_i r1 n1 h1 f1 r2 n2 h2 f2
  have e : can .f32 r = outF 3 a b c x y s := (by rw [hr.out]; exact fop_congr (h2.out.trans ((fop_congr rfl (h1.out.trans (can_fop _ _ _ _).symm)).trans (can_fop _ _ _ _).symm)) rfl)
  refine bodyPost_ret (results_row2r rfl _ _ _ _ _ rfl (Row.store2 ((Row.new' _ _ _ (by simp)).drewN _)) Try.underlying24 rfl info2) rfl ?_
  exact ⟨_, _, _, rfl, e, rfl, kept_can (e.trans (can_outF _ _ _ _ _ _ _).symm), Hs.out, hf.out, hf.out, by unfold le; repeat' (first | (with_reducible exact Below.refl _ _) | (with_reducible assumption) | (with_reducible refine below_drewN ?_ _) | (with_reducible refine Below.alloc ?_ ?_ _) | (with_reducible refine Below.drew ?_) | (with_reducible refine Below.setCell ?_ ?_ _) | go_size)⟩
theorem i_next4 (a b c x y s : Nat) (w : World) (hx : fits .f32 x) (hs : fits .f32 s) : Calls Try.prog 134 #[.agg #[.float .f32 a, .float .f32 b, .float .f32 c], .agg #[.float .f32 x, .float .f32 y], .float .f32 s] w (OutN 4 a b c x y s w) := by
  have Hx := hid hx; have Hs := hid hs; clear hx hs
  go_enter Try.func134, Try.ntmps134
  go_wp2_with (with_reducible refine wpList_farith rfl rfl rfl rfl rfl ?_; intro r n hr hf)
  rename_i r1 n1 h1 f1 r2 n2 h2 f2 r3 n3 h3 f3 r4 n4 h4 f4 KK aa
  have e : can .f32 r = outF 4 a b c x y s := (by rw [hr.out]; exact fop_congr (h3.out.trans ((fop_congr (h1.out.trans (can_fop _ _ _ _).symm) (h2.out.trans (can_fop _ _ _ _).symm)).trans (can_fop _ _ _ _).symm)) (h4.out.trans (can_fop _ _ _ _).symm))
  have F := ((((Frm.nil w).box 143 #[.float .f32 a, .float .f32 b, .float .f32 c]).box 24 #[.float .f32 x, .float .f32 y]).box 24 #[.float .f32 0, .float .f32 0])
  simp only [World.size_alloc] at F
  refine region_tail (fun _ _ _ _ => True) 6 (by kernel_rfl) (by kernel_rfl) ?_
  simp only [List.take_succ_cons, List.take_zero, List.drop_succ_cons, List.drop_zero]
  refine wpFree_one rfl (.float .f32 r) (fun w1 _ => by kernel_rfl) ?_
  simp only [Act.put, List.setIfInBounds_toArray, List.set_cons_succ, List.set_cons_zero]
  refine wpFree_one rfl (.float .f32 r) (fun w1 _ => by kernel_rfl) ?_
  simp only [Act.put, List.setIfInBounds_toArray, List.set_cons_succ, List.set_cons_zero]
  refine wpFree_one rfl (.pointer (some ⟨w.heap.size + 1, 0, none⟩)) (fun w1 _ => by kernel_rfl) ?_
  simp only [Act.put, List.setIfInBounds_toArray, List.set_cons_succ, List.set_cons_zero]
  refine wpFree_loadF (F.drewN _) rfl rfl rfl rfl (k := .f32) (v := x) (List.mem_cons_of_mem _ List.mem_cons_self) rfl Try.underlying22 ?_
  simp only [Act.put, List.setIfInBounds_toArray, List.set_cons_succ, List.set_cons_zero]
  refine wpFree_one rfl (.agg #[.float .f32 r, .float .f32 x]) (fun w1 _ => by kernel_rfl) ?_
  simp only [Act.put, List.setIfInBounds_toArray, List.set_cons_succ, List.set_cons_zero]
  refine wpFree_one rfl (.float .f32 r) (fun w1 _ => by kernel_rfl) ?_
  simp only [Act.put, List.setIfInBounds_toArray, List.set_cons_succ, List.set_cons_zero]
  refine wpFree_nil (fun w3 hw3 hF => ?_)
  have F3 := ((F.drewN _).drewN 1).le hw3
  have hz : w.heap.size ≤ w.heap.size + 1 + 1 := by omega
  have RR := F3.row (g := w.heap.size + 1 + 1) (t := 24) (cs := #[.float .f32 0, .float .f32 0]) List.mem_cons_self
  refine wpList_storeD rfl rfl rfl (cells := #[.float .f32 r, .float .f32 x]) rfl RR info2 rfl (by simp [Value.oneCell']) (fun w' KW => ?_)
  have R' := hid KW.row
  have L' := hid (KW.below _ _ F3.below hz)
  clear F F3 RR KW hw3 hF hz
  replace e := hid e
  go_wp2
  refine bodyPost_ret (results_row2r rfl _ _ _ _ _ rfl R'.out Try.underlying24 rfl info2) rfl ?_
  exact ⟨_, _, _, rfl, e.out, kept_can (e.out.trans (can_outF _ _ _ _ _ _ _).symm), rfl, hf.out, Hx.out, hf.out, L'.out⟩
theorem i_next5 (a b c x y s : Nat) (w : World) (hx : fits .f32 x) (hs : fits .f32 s) : Calls Try.prog 135 #[.agg #[.float .f32 a, .float .f32 b, .float .f32 c], .agg #[.float .f32 x, .float .f32 y], .float .f32 s] w (OutN 5 a b c x y s w) := by
  have Hx := hid hx; have Hs := hid hs; clear hx hs
  go_enter Try.func135, Try.ntmps135
  go_wp2_with (with_reducible refine wpList_farith rfl rfl rfl rfl rfl ?_; intro r n hr hf)
  rename_i r1 n1 h1 f1 r2 n2 h2 f2
  have e : can .f32 r = outF 5 a b c x y s := (by rw [hr.out]; exact fop_congr (h1.out.trans (can_fop _ _ _ _).symm) (h2.out.trans (can_fop _ _ _ _).symm))
  refine bodyPost_ret (results_row2r rfl _ _ _ _ _ rfl (Row.store2 ((Row.new' _ _ _ (by simp)).drewN _)) Try.underlying24 rfl info2) rfl ?_
  exact ⟨_, _, _, rfl, e, rfl, kept_can (e.trans (can_outF _ _ _ _ _ _ _).symm), Hs.out, hf.out, hf.out, by unfold le; repeat' (first | (with_reducible exact Below.refl _ _) | (with_reducible assumption) | (with_reducible refine below_drewN ?_ _) | (with_reducible refine Below.alloc ?_ ?_ _) | (with_reducible refine Below.drew ?_) | (with_reducible refine Below.setCell ?_ ?_ _) | go_size)⟩
theorem alloc2 (w : World) : (Instr.alloc 24 true (.tuple #[])).run Try.prog w = .ok (.pointer (some ⟨w.heap.size, 0, none⟩)) (w.alloc (.cells #[.float .f32 0, .float .f32 0] 24)) := by kernel_rfl
set_option maxHeartbeats 2000000 in
theorem i_step1 (a b c x y s g : Nat) (w : World) (R : Row w g 88 #[.iface 140 (.agg #[.float .f32 a, .float .f32 b, .float .f32 c]), .float .f32 x, .float .f32 y]) (hx : fits .f32 x) (hs : fits .f32 s) :
    Calls Try.prog 100 #[.pointer (some ⟨g, 0, none⟩), .float .f32 s] w (OutS 1 a b c x y s g 88 (fun u v => #[.iface 140 (.agg #[.float .f32 a, .float .f32 b, .float .f32 c]), .float .f32 u, .float .f32 v]) w) := by
  have Hx := hid hx; have Hs := hid hs; clear hx hs
  have F := Frm.one R
  clear R
  go_enter Try.func100, Try.ntmps100
  go_upto_region 1 with (fail)
  refine region_tail (fun f args _ v => ∃ r p q, v = .tuple #[.float .f32 r, .agg #[.float .f32 p, .float .f32 q]] ∧ can .f32 r = outF 1 a b c x y s ∧ kept p = st0 1 a b c x y s ∧ kept q = st1 1 a b c x y s ∧ fits .f32 p ∧ fits .f32 q ∧ fits .f32 r) 17 (by kernel_rfl) (by kernel_rfl) ?_
  simp only [List.take_succ_cons, List.take_zero, List.drop_succ_cons, List.drop_zero]
  refine wpFree_one rfl (.pointer (some ⟨g, 0, none⟩)) (fun w1 _ => by kernel_rfl) ?_
  simp only [Act.put, List.setIfInBounds_toArray, List.set_cons_succ, List.set_cons_zero]
  refine wpFree_one rfl (.pointer (some ⟨g, 0, none⟩)) (fun w1 _ => by kernel_rfl) ?_
  simp only [Act.put, List.setIfInBounds_toArray, List.set_cons_succ, List.set_cons_zero]
  refine wpFree_one rfl (.pointer (some ⟨g, 0, none⟩)) (fun w1 _ => by kernel_rfl) ?_
  simp only [Act.put, List.setIfInBounds_toArray, List.set_cons_succ, List.set_cons_zero]
  refine wpFree_loadV F rfl rfl rfl rfl List.mem_cons_self rfl (fun w1 => by kernel_rfl) ?_
  simp only [Act.put, List.setIfInBounds_toArray, List.set_cons_succ, List.set_cons_zero]
  refine wpFree_one rfl (.pointer (some ⟨g, 0, none⟩)) (fun w1 _ => by kernel_rfl) ?_
  simp only [Act.put, List.setIfInBounds_toArray, List.set_cons_succ, List.set_cons_zero]
  refine wpFree_one rfl (.pointer (some ⟨g, 0, none⟩)) (fun w1 _ => by kernel_rfl) ?_
  simp only [Act.put, List.setIfInBounds_toArray, List.set_cons_succ, List.set_cons_zero]
  refine wpFree_one rfl (.pointer (some ⟨g, 1, none⟩)) (fun w1 _ => by kernel_rfl) ?_
  simp only [Act.put, List.setIfInBounds_toArray, List.set_cons_succ, List.set_cons_zero]
  refine wpFree_loadPart F rfl rfl rfl rfl (List.mem_cons_self) Try.underlying24 rfl [.float .f32 x, .float .f32 y] (fun j hj => by match j, hj with | 0, _ => rfl | 1, _ => rfl) info2 ?_
  simp only [Act.put, List.setIfInBounds_toArray, List.set_cons_succ, List.set_cons_zero]
  refine wpFree_one rfl (.float .f32 s) (fun w1 _ => by kernel_rfl) ?_
  simp only [Act.put, List.setIfInBounds_toArray, List.set_cons_succ, List.set_cons_zero]
  refine wpFree_one rfl (.iface 140 (.agg #[.float .f32 a, .float .f32 b, .float .f32 c])) (fun w1 _ => by kernel_rfl) ?_
  simp only [Act.put, List.setIfInBounds_toArray, List.set_cons_succ, List.set_cons_zero]
  refine wpFree_one rfl (.iface 140 (.agg #[.float .f32 a, .float .f32 b, .float .f32 c])) (fun w1 _ => by kernel_rfl) ?_
  simp only [Act.put, List.setIfInBounds_toArray, List.set_cons_succ, List.set_cons_zero]
  refine wpFree_callR rfl 131 #[.agg #[.float .f32 a, .float .f32 b, .float .f32 c], .agg #[.float .f32 x, .float .f32 y], .float .f32 s] (fun w1 => by kernel_rfl) (fun _ _ _ _ h => h) (fun w1 _ => (i_next1 a b c x y s w1 Hx.out Hs.out).mono ?_) ?_
  · rintro e w2 ⟨r, p, q, rfl, h1, h2, h3, h4, h5, h6, hl⟩
    exact ⟨_, rfl, hl, r, p, q, rfl, h1, h2, h3, h4, h5, h6⟩
  rintro v ⟨_, _, r, p, q, rfl, h1, h2, h3, h4, h5, h6⟩
  replace h1 := hid h1; replace h2 := hid h2; replace h3 := hid h3; replace h4 := hid h4; replace h5 := hid h5; replace h6 := hid h6
  simp only [Act.put, List.setIfInBounds_toArray, List.set_cons_succ, List.set_cons_zero]
  refine wpFree_one rfl (.tuple #[.float .f32 r, .agg #[.float .f32 p, .float .f32 q]]) (fun w1 _ => by kernel_rfl) ?_
  simp only [Act.put, List.setIfInBounds_toArray, List.set_cons_succ, List.set_cons_zero]
  refine wpFree_one rfl (.float .f32 r) (fun w1 _ => by kernel_rfl) ?_
  simp only [Act.put, List.setIfInBounds_toArray, List.set_cons_succ, List.set_cons_zero]
  refine wpFree_one rfl (.agg #[.float .f32 p, .float .f32 q]) (fun w1 _ => by kernel_rfl) ?_
  simp only [Act.put, List.setIfInBounds_toArray, List.set_cons_succ, List.set_cons_zero]
  refine wpFree_alloc rfl rfl #[.float .f32 0, .float .f32 0] alloc2 (fun g2 hg2 => ?_)
  simp only [Act.put, List.setIfInBounds_toArray, List.set_cons_succ, List.set_cons_zero]
  refine wpFree_one rfl (.float .f32 r) (fun w1 _ => by kernel_rfl) ?_
  simp only [Act.put, List.setIfInBounds_toArray, List.set_cons_succ, List.set_cons_zero]
  refine wpFree_nil (fun w3 hw3 hF => ?_)
  obtain ⟨_, b', hbb, _, hrow⟩ := hF
  obtain rfl : g2 = b' := by simpa using hbb
  have hlt : g < w.heap.size := F.lt List.mem_cons_self
  have hz : w.heap.size ≤ g2 := by simpa using hg2
  have hne : g ≠ g2 := by omega
  refine wpList_storeD rfl rfl rfl (cells := #[.float .f32 p, .float .f32 q]) rfl hrow info2 rfl (by simp [Value.oneCell']) (fun w4 KW => ?_)
  have R2 := KW.row
  have RG := KW.other _ _ _ hne (((F.drewN 1).le hw3).row List.mem_cons_self)
  have U := Upd.of_le (g := g) (KW.below _ _ (le_trans (le_drewN w 1) hw3) hz)
  replace hne := hid hne
  clear hbb hrow hw3 hg2 F KW hlt hz
  replace U := hid U
  replace RG := hid RG
  go_wp2_with (with_reducible refine wpList_loadDn rfl rfl rfl R2 Try.underlying24 rfl info2 (by simp) ?_)
  replace R2 := hid R2
  go_loopw [25] (fun i wr => ∃ j : Nat, j ≤ 2 ∧ i = .int .i64 j ∧ Hid (Row wr g 88 #[.iface 140 (.agg #[.float .f32 a, .float .f32 b, .float .f32 c]), .float .f32 (if j = 0 then x else st0 1 a b c x y s), .float .f32 (if j < 2 then y else st1 1 a b c x y s)]) ∧ Hid (Upd g w wr)) (fun i _ => 2 - (intOf i).toNat)
  case atStart => exact ⟨0, by omega, rfl, RG, U⟩
  case round =>
    obtain ⟨j, hj, rfl, RJ, UJ⟩ := hrel
    rcases (show j = 0 ∨ j = 1 ∨ j = 2 by omega) with rfl | rfl | rfl
    · simp only [if_true, if_pos (show (0 : Nat) < 2 by decide)] at RJ
      clear RG U
      have ix : ∀ w, (Instr.index 24 (.agg #[.float .f32 p, .float .f32 q]) (.int .i64 0)).run Try.prog w = .ok (.float .f32 p) w := fun w => by kernel_rfl
      rw [show ((0 : Nat) : Int) = 0 from rfl]
      go_wp2
      clear ix
      refine region_tail (fun _ _ _ v => v = .float .f32 (kept p)) 7 (by kernel_rfl) (by kernel_rfl) ?_
      simp only [List.take_succ_cons, List.take_zero, List.drop_succ_cons, List.drop_zero]
      refine wpFree_one rfl (.pointer (some ⟨g, 0, none⟩)) (fun w1 _ => by kernel_rfl) ?_
      simp only [Act.put, List.setIfInBounds_toArray, List.set_cons_succ, List.set_cons_zero]
      refine wpFree_one rfl (.int .i64 0) (fun w1 _ => by kernel_rfl) ?_
      simp only [Act.put, List.setIfInBounds_toArray, List.set_cons_succ, List.set_cons_zero]
      refine wpFree_one rfl (.float .f32 p) (fun w1 _ => by kernel_rfl) ?_
      simp only [Act.put, List.setIfInBounds_toArray, List.set_cons_succ, List.set_cons_zero]
      refine wpFree_call rfl rfl Try.func108 (by kernel_rfl) (by kernel_rfl) (args := #[.float .f32 p]) (by simp [Act.eval]) (fun _ _ _ _ h => h) (fun w1 _ => (i_kept p w1 h4.out).mono ?_) ?_
      · rintro e w2 ⟨rfl, rfl⟩
        exact ⟨_, rfl, le_refl _, rfl⟩
      rintro v ⟨_, _, rfl⟩
      simp only [Act.put, List.setIfInBounds_toArray, List.set_cons_succ, List.set_cons_zero]
      refine wpFree_one rfl (.pointer (some ⟨g, 0, none⟩)) (fun w1 _ => by kernel_rfl) ?_
      simp only [Act.put, List.setIfInBounds_toArray, List.set_cons_succ, List.set_cons_zero]
      refine wpFree_one rfl (.pointer (some ⟨g, 1, none⟩)) (fun w1 _ => by kernel_rfl) ?_
      simp only [Act.put, List.setIfInBounds_toArray, List.set_cons_succ, List.set_cons_zero]
      refine wpFree_one rfl (.pointer (some ⟨g, 1 + 0, none⟩)) (fun w1 _ => by kernel_rfl) ?_
      simp only [Act.put, List.setIfInBounds_toArray, List.set_cons_succ, List.set_cons_zero]
      refine wpFree_nil (fun w5 hw5 _ => ?_)
      have RR := (RJ.out.drewN 1).le hw5
      have UU := hid ((UJ.out.le (le_drewN _ 1)).le hw5)
      have cc := RR.cell? (1 + 0)
      have ff := RR.frozen (1 + 0)
      replace RR := hid RR
      clear hw5
      go_wp2
      go_roundw
      case rel => exact ⟨0 + 1, by omega, by go_num, by have := RR.out.set (1 + 0) (.float .f32 (kept p)); rw [h2.out] at this; show Row _ _ _ _; rw [h2.out]; simpa using this, UU.out.setCell rfl _⟩
      case measure => simp [intOf]
    · simp only [if_neg (show ¬ (1 : Nat) = 0 by decide), if_pos (show (1 : Nat) < 2 by decide)] at RJ
      clear RG U
      have ix : ∀ w, (Instr.index 24 (.agg #[.float .f32 p, .float .f32 q]) (.int .i64 1)).run Try.prog w = .ok (.float .f32 q) w := fun w => by kernel_rfl
      rw [show ((1 : Nat) : Int) = 1 from rfl]
      go_wp2
      clear ix
      refine region_tail (fun _ _ _ v => v = .float .f32 (kept q)) 7 (by kernel_rfl) (by kernel_rfl) ?_
      simp only [List.take_succ_cons, List.take_zero, List.drop_succ_cons, List.drop_zero]
      refine wpFree_one rfl (.pointer (some ⟨g, 0, none⟩)) (fun w1 _ => by kernel_rfl) ?_
      simp only [Act.put, List.setIfInBounds_toArray, List.set_cons_succ, List.set_cons_zero]
      refine wpFree_one rfl (.int .i64 1) (fun w1 _ => by kernel_rfl) ?_
      simp only [Act.put, List.setIfInBounds_toArray, List.set_cons_succ, List.set_cons_zero]
      refine wpFree_one rfl (.float .f32 q) (fun w1 _ => by kernel_rfl) ?_
      simp only [Act.put, List.setIfInBounds_toArray, List.set_cons_succ, List.set_cons_zero]
      refine wpFree_call rfl rfl Try.func108 (by kernel_rfl) (by kernel_rfl) (args := #[.float .f32 q]) (by simp [Act.eval]) (fun _ _ _ _ h => h) (fun w1 _ => (i_kept q w1 h5.out).mono ?_) ?_
      · rintro e w2 ⟨rfl, rfl⟩
        exact ⟨_, rfl, le_refl _, rfl⟩
      rintro v ⟨_, _, rfl⟩
      simp only [Act.put, List.setIfInBounds_toArray, List.set_cons_succ, List.set_cons_zero]
      refine wpFree_one rfl (.pointer (some ⟨g, 0, none⟩)) (fun w1 _ => by kernel_rfl) ?_
      simp only [Act.put, List.setIfInBounds_toArray, List.set_cons_succ, List.set_cons_zero]
      refine wpFree_one rfl (.pointer (some ⟨g, 1, none⟩)) (fun w1 _ => by kernel_rfl) ?_
      simp only [Act.put, List.setIfInBounds_toArray, List.set_cons_succ, List.set_cons_zero]
      refine wpFree_one rfl (.pointer (some ⟨g, 1 + 1, none⟩)) (fun w1 _ => by kernel_rfl) ?_
      simp only [Act.put, List.setIfInBounds_toArray, List.set_cons_succ, List.set_cons_zero]
      refine wpFree_nil (fun w5 hw5 _ => ?_)
      have RR := (RJ.out.drewN 1).le hw5
      have UU := hid ((UJ.out.le (le_drewN _ 1)).le hw5)
      have cc := RR.cell? (1 + 1)
      have ff := RR.frozen (1 + 1)
      replace RR := hid RR
      clear hw5
      go_wp2
      go_roundw
      case rel => exact ⟨1 + 1, by omega, by go_num, by have := RR.out.set (1 + 1) (.float .f32 (kept q)); rw [h3.out] at this; show Row _ _ _ _; rw [h3.out]; simpa using this, UU.out.setCell rfl _⟩
      case measure => simp [intOf]
    · simp only [if_neg (show ¬ (2 : Nat) = 0 by decide), if_neg (show ¬ (2 : Nat) < 2 by decide)] at RJ
      clear RG U
      go_wp2
      go_ret
      exact ⟨_, rfl, h1.out, h6.out, RJ.out, UJ.out⟩
set_option maxHeartbeats 2000000 in
theorem i_step2 (a b c x y s g : Nat) (w : World) (R : Row w g 88 #[.iface 141 (.agg #[.float .f32 a, .float .f32 b, .float .f32 c]), .float .f32 x, .float .f32 y]) (hx : fits .f32 x) (hs : fits .f32 s) :
    Calls Try.prog 100 #[.pointer (some ⟨g, 0, none⟩), .float .f32 s] w (OutS 2 a b c x y s g 88 (fun u v => #[.iface 141 (.agg #[.float .f32 a, .float .f32 b, .float .f32 c]), .float .f32 u, .float .f32 v]) w) := by
  have Hx := hid hx; have Hs := hid hs; clear hx hs
  have F := Frm.one R
  clear R
  go_enter Try.func100, Try.ntmps100
  go_upto_region 1 with (fail)
  refine region_tail (fun f args _ v => ∃ r p q, v = .tuple #[.float .f32 r, .agg #[.float .f32 p, .float .f32 q]] ∧ can .f32 r = outF 2 a b c x y s ∧ kept p = st0 2 a b c x y s ∧ kept q = st1 2 a b c x y s ∧ fits .f32 p ∧ fits .f32 q ∧ fits .f32 r) 17 (by kernel_rfl) (by kernel_rfl) ?_
  simp only [List.take_succ_cons, List.take_zero, List.drop_succ_cons, List.drop_zero]
  refine wpFree_one rfl (.pointer (some ⟨g, 0, none⟩)) (fun w1 _ => by kernel_rfl) ?_
  simp only [Act.put, List.setIfInBounds_toArray, List.set_cons_succ, List.set_cons_zero]
  refine wpFree_one rfl (.pointer (some ⟨g, 0, none⟩)) (fun w1 _ => by kernel_rfl) ?_
  simp only [Act.put, List.setIfInBounds_toArray, List.set_cons_succ, List.set_cons_zero]
  refine wpFree_one rfl (.pointer (some ⟨g, 0, none⟩)) (fun w1 _ => by kernel_rfl) ?_
  simp only [Act.put, List.setIfInBounds_toArray, List.set_cons_succ, List.set_cons_zero]
  refine wpFree_loadV F rfl rfl rfl rfl List.mem_cons_self rfl (fun w1 => by kernel_rfl) ?_
  simp only [Act.put, List.setIfInBounds_toArray, List.set_cons_succ, List.set_cons_zero]
  refine wpFree_one rfl (.pointer (some ⟨g, 0, none⟩)) (fun w1 _ => by kernel_rfl) ?_
  simp only [Act.put, List.setIfInBounds_toArray, List.set_cons_succ, List.set_cons_zero]
  refine wpFree_one rfl (.pointer (some ⟨g, 0, none⟩)) (fun w1 _ => by kernel_rfl) ?_
  simp only [Act.put, List.setIfInBounds_toArray, List.set_cons_succ, List.set_cons_zero]
  refine wpFree_one rfl (.pointer (some ⟨g, 1, none⟩)) (fun w1 _ => by kernel_rfl) ?_
  simp only [Act.put, List.setIfInBounds_toArray, List.set_cons_succ, List.set_cons_zero]
  refine wpFree_loadPart F rfl rfl rfl rfl (List.mem_cons_self) Try.underlying24 rfl [.float .f32 x, .float .f32 y] (fun j hj => by match j, hj with | 0, _ => rfl | 1, _ => rfl) info2 ?_
  simp only [Act.put, List.setIfInBounds_toArray, List.set_cons_succ, List.set_cons_zero]
  refine wpFree_one rfl (.float .f32 s) (fun w1 _ => by kernel_rfl) ?_
  simp only [Act.put, List.setIfInBounds_toArray, List.set_cons_succ, List.set_cons_zero]
  refine wpFree_one rfl (.iface 141 (.agg #[.float .f32 a, .float .f32 b, .float .f32 c])) (fun w1 _ => by kernel_rfl) ?_
  simp only [Act.put, List.setIfInBounds_toArray, List.set_cons_succ, List.set_cons_zero]
  refine wpFree_one rfl (.iface 141 (.agg #[.float .f32 a, .float .f32 b, .float .f32 c])) (fun w1 _ => by kernel_rfl) ?_
  simp only [Act.put, List.setIfInBounds_toArray, List.set_cons_succ, List.set_cons_zero]
  refine wpFree_callR rfl 132 #[.agg #[.float .f32 a, .float .f32 b, .float .f32 c], .agg #[.float .f32 x, .float .f32 y], .float .f32 s] (fun w1 => by kernel_rfl) (fun _ _ _ _ h => h) (fun w1 _ => (i_next2 a b c x y s w1 Hx.out Hs.out).mono ?_) ?_
  · rintro e w2 ⟨r, p, q, rfl, h1, h2, h3, h4, h5, h6, hl⟩
    exact ⟨_, rfl, hl, r, p, q, rfl, h1, h2, h3, h4, h5, h6⟩
  rintro v ⟨_, _, r, p, q, rfl, h1, h2, h3, h4, h5, h6⟩
  replace h1 := hid h1; replace h2 := hid h2; replace h3 := hid h3; replace h4 := hid h4; replace h5 := hid h5; replace h6 := hid h6
  simp only [Act.put, List.setIfInBounds_toArray, List.set_cons_succ, List.set_cons_zero]
  refine wpFree_one rfl (.tuple #[.float .f32 r, .agg #[.float .f32 p, .float .f32 q]]) (fun w1 _ => by kernel_rfl) ?_
  simp only [Act.put, List.setIfInBounds_toArray, List.set_cons_succ, List.set_cons_zero]
  refine wpFree_one rfl (.float .f32 r) (fun w1 _ => by kernel_rfl) ?_
  simp only [Act.put, List.setIfInBounds_toArray, List.set_cons_succ, List.set_cons_zero]
  refine wpFree_one rfl (.agg #[.float .f32 p, .float .f32 q]) (fun w1 _ => by kernel_rfl) ?_
  simp only [Act.put, List.setIfInBounds_toArray, List.set_cons_succ, List.set_cons_zero]
  refine wpFree_alloc rfl rfl #[.float .f32 0, .float .f32 0] alloc2 (fun g2 hg2 => ?_)
  simp only [Act.put, List.setIfInBounds_toArray, List.set_cons_succ, List.set_cons_zero]
  refine wpFree_one rfl (.float .f32 r) (fun w1 _ => by kernel_rfl) ?_
  simp only [Act.put, List.setIfInBounds_toArray, List.set_cons_succ, List.set_cons_zero]
  refine wpFree_nil (fun w3 hw3 hF => ?_)
  obtain ⟨_, b', hbb, _, hrow⟩ := hF
  obtain rfl : g2 = b' := by simpa using hbb
  have hlt : g < w.heap.size := F.lt List.mem_cons_self
  have hz : w.heap.size ≤ g2 := by simpa using hg2
  have hne : g ≠ g2 := by omega
  refine wpList_storeD rfl rfl rfl (cells := #[.float .f32 p, .float .f32 q]) rfl hrow info2 rfl (by simp [Value.oneCell']) (fun w4 KW => ?_)
  have R2 := KW.row
  have RG := KW.other _ _ _ hne (((F.drewN 1).le hw3).row List.mem_cons_self)
  have U := Upd.of_le (g := g) (KW.below _ _ (le_trans (le_drewN w 1) hw3) hz)
  replace hne := hid hne
  clear hbb hrow hw3 hg2 F KW hlt hz
  replace U := hid U
  replace RG := hid RG
  go_wp2_with (with_reducible refine wpList_loadDn rfl rfl rfl R2 Try.underlying24 rfl info2 (by simp) ?_)
  replace R2 := hid R2
  go_loopw [25] (fun i wr => ∃ j : Nat, j ≤ 2 ∧ i = .int .i64 j ∧ Hid (Row wr g 88 #[.iface 141 (.agg #[.float .f32 a, .float .f32 b, .float .f32 c]), .float .f32 (if j = 0 then x else st0 2 a b c x y s), .float .f32 (if j < 2 then y else st1 2 a b c x y s)]) ∧ Hid (Upd g w wr)) (fun i _ => 2 - (intOf i).toNat)
  case atStart => exact ⟨0, by omega, rfl, RG, U⟩
  case round =>
    obtain ⟨j, hj, rfl, RJ, UJ⟩ := hrel
    rcases (show j = 0 ∨ j = 1 ∨ j = 2 by omega) with rfl | rfl | rfl
    · simp only [if_true, if_pos (show (0 : Nat) < 2 by decide)] at RJ
      clear RG U
      have ix : ∀ w, (Instr.index 24 (.agg #[.float .f32 p, .float .f32 q]) (.int .i64 0)).run Try.prog w = .ok (.float .f32 p) w := fun w => by kernel_rfl
      rw [show ((0 : Nat) : Int) = 0 from rfl]
      go_wp2
      clear ix
      refine region_tail (fun _ _ _ v => v = .float .f32 (kept p)) 7 (by kernel_rfl) (by kernel_rfl) ?_
      simp only [List.take_succ_cons, List.take_zero, List.drop_succ_cons, List.drop_zero]
      refine wpFree_one rfl (.pointer (some ⟨g, 0, none⟩)) (fun w1 _ => by kernel_rfl) ?_
      simp only [Act.put, List.setIfInBounds_toArray, List.set_cons_succ, List.set_cons_zero]
      refine wpFree_one rfl (.int .i64 0) (fun w1 _ => by kernel_rfl) ?_
      simp only [Act.put, List.setIfInBounds_toArray, List.set_cons_succ, List.set_cons_zero]
      refine wpFree_one rfl (.float .f32 p) (fun w1 _ => by kernel_rfl) ?_
      simp only [Act.put, List.setIfInBounds_toArray, List.set_cons_succ, List.set_cons_zero]
      refine wpFree_call rfl rfl Try.func108 (by kernel_rfl) (by kernel_rfl) (args := #[.float .f32 p]) (by simp [Act.eval]) (fun _ _ _ _ h => h) (fun w1 _ => (i_kept p w1 h4.out).mono ?_) ?_
      · rintro e w2 ⟨rfl, rfl⟩
        exact ⟨_, rfl, le_refl _, rfl⟩
      rintro v ⟨_, _, rfl⟩
      simp only [Act.put, List.setIfInBounds_toArray, List.set_cons_succ, List.set_cons_zero]
      refine wpFree_one rfl (.pointer (some ⟨g, 0, none⟩)) (fun w1 _ => by kernel_rfl) ?_
      simp only [Act.put, List.setIfInBounds_toArray, List.set_cons_succ, List.set_cons_zero]
      refine wpFree_one rfl (.pointer (some ⟨g, 1, none⟩)) (fun w1 _ => by kernel_rfl) ?_
      simp only [Act.put, List.setIfInBounds_toArray, List.set_cons_succ, List.set_cons_zero]
      refine wpFree_one rfl (.pointer (some ⟨g, 1 + 0, none⟩)) (fun w1 _ => by kernel_rfl) ?_
      simp only [Act.put, List.setIfInBounds_toArray, List.set_cons_succ, List.set_cons_zero]
      refine wpFree_nil (fun w5 hw5 _ => ?_)
      have RR := (RJ.out.drewN 1).le hw5
      have UU := hid ((UJ.out.le (le_drewN _ 1)).le hw5)
      have cc := RR.cell? (1 + 0)
      have ff := RR.frozen (1 + 0)
      replace RR := hid RR
      clear hw5
      go_wp2
      go_roundw
      case rel => exact ⟨0 + 1, by omega, by go_num, by have := RR.out.set (1 + 0) (.float .f32 (kept p)); rw [h2.out] at this; show Row _ _ _ _; rw [h2.out]; simpa using this, UU.out.setCell rfl _⟩
      case measure => simp [intOf]
    · simp only [if_neg (show ¬ (1 : Nat) = 0 by decide), if_pos (show (1 : Nat) < 2 by decide)] at RJ
      clear RG U
      have ix : ∀ w, (Instr.index 24 (.agg #[.float .f32 p, .float .f32 q]) (.int .i64 1)).run Try.prog w = .ok (.float .f32 q) w := fun w => by kernel_rfl
      rw [show ((1 : Nat) : Int) = 1 from rfl]
      go_wp2
      clear ix
      refine region_tail (fun _ _ _ v => v = .float .f32 (kept q)) 7 (by kernel_rfl) (by kernel_rfl) ?_
      simp only [List.take_succ_cons, List.take_zero, List.drop_succ_cons, List.drop_zero]
      refine wpFree_one rfl (.pointer (some ⟨g, 0, none⟩)) (fun w1 _ => by kernel_rfl) ?_
      simp only [Act.put, List.setIfInBounds_toArray, List.set_cons_succ, List.set_cons_zero]
      refine wpFree_one rfl (.int .i64 1) (fun w1 _ => by kernel_rfl) ?_
      simp only [Act.put, List.setIfInBounds_toArray, List.set_cons_succ, List.set_cons_zero]
      refine wpFree_one rfl (.float .f32 q) (fun w1 _ => by kernel_rfl) ?_
      simp only [Act.put, List.setIfInBounds_toArray, List.set_cons_succ, List.set_cons_zero]
      refine wpFree_call rfl rfl Try.func108 (by kernel_rfl) (by kernel_rfl) (args := #[.float .f32 q]) (by simp [Act.eval]) (fun _ _ _ _ h => h) (fun w1 _ => (i_kept q w1 h5.out).mono ?_) ?_
      · rintro e w2 ⟨rfl, rfl⟩
        exact ⟨_, rfl, le_refl _, rfl⟩
      rintro v ⟨_, _, rfl⟩
      simp only [Act.put, List.setIfInBounds_toArray, List.set_cons_succ, List.set_cons_zero]
      refine wpFree_one rfl (.pointer (some ⟨g, 0, none⟩)) (fun w1 _ => by kernel_rfl) ?_
      simp only [Act.put, List.setIfInBounds_toArray, List.set_cons_succ, List.set_cons_zero]
      refine wpFree_one rfl (.pointer (some ⟨g, 1, none⟩)) (fun w1 _ => by kernel_rfl) ?_
      simp only [Act.put, List.setIfInBounds_toArray, List.set_cons_succ, List.set_cons_zero]
      refine wpFree_one rfl (.pointer (some ⟨g, 1 + 1, none⟩)) (fun w1 _ => by kernel_rfl) ?_
      simp only [Act.put, List.setIfInBounds_toArray, List.set_cons_succ, List.set_cons_zero]
      refine wpFree_nil (fun w5 hw5 _ => ?_)
      have RR := (RJ.out.drewN 1).le hw5
      have UU := hid ((UJ.out.le (le_drewN _ 1)).le hw5)
      have cc := RR.cell? (1 + 1)
      have ff := RR.frozen (1 + 1)
      replace RR := hid RR
      clear hw5
      go_wp2
      go_roundw
      case rel => exact ⟨1 + 1, by omega, by go_num, by have := RR.out.set (1 + 1) (.float .f32 (kept q)); rw [h3.out] at this; show Row _ _ _ _; rw [h3.out]; simpa using this, UU.out.setCell rfl _⟩
      case measure => simp [intOf]
    · simp only [if_neg (show ¬ (2 : Nat) = 0 by decide), if_neg (show ¬ (2 : Nat) < 2 by decide)] at RJ
      clear RG U
      go_wp2
      go_ret
      exact ⟨_, rfl, h1.out, h6.out, RJ.out, UJ.out⟩
set_option maxHeartbeats 2000000 in
theorem i_step3 (a b c x y s g : Nat) (w : World) (R : Row w g 88 #[.iface 142 (.agg #[.float .f32 a, .float .f32 b, .float .f32 c]), .float .f32 x, .float .f32 y]) (hx : fits .f32 x) (hs : fits .f32 s) :
    Calls Try.prog 100 #[.pointer (some ⟨g, 0, none⟩), .float .f32 s] w (OutS 3 a b c x y s g 88 (fun u v => #[.iface 142 (.agg #[.float .f32 a, .float .f32 b, .float .f32 c]), .float .f32 u, .float .f32 v]) w) := by
  have Hx := hid hx; have Hs := hid hs; clear hx hs
  have F := Frm.one R
  clear R
  go_enter Try.func100, Try.ntmps100
  go_upto_region 1 with (fail)
  refine region_tail (fun f args _ v => ∃ r p q, v = .tuple #[.float .f32 r, .agg #[.float .f32 p, .float .f32 q]] ∧ can .f32 r = outF 3 a b c x y s ∧ kept p = st0 3 a b c x y s ∧ kept q = st1 3 a b c x y s ∧ fits .f32 p ∧ fits .f32 q ∧ fits .f32 r) 17 (by kernel_rfl) (by kernel_rfl) ?_
  simp only [List.take_succ_cons, List.take_zero, List.drop_succ_cons, List.drop_zero]
  refine wpFree_one rfl (.pointer (some ⟨g, 0, none⟩)) (fun w1 _ => by kernel_rfl) ?_
  simp only [Act.put, List.setIfInBounds_toArray, List.set_cons_succ, List.set_cons_zero]
  refine wpFree_one rfl (.pointer (some ⟨g, 0, none⟩)) (fun w1 _ => by kernel_rfl) ?_
  simp only [Act.put, List.setIfInBounds_toArray, List.set_cons_succ, List.set_cons_zero]
  refine wpFree_one rfl (.pointer (some ⟨g, 0, none⟩)) (fun w1 _ => by kernel_rfl) ?_
  simp only [Act.put, List.setIfInBounds_toArray, List.set_cons_succ, List.set_cons_zero]
  refine wpFree_loadV F rfl rfl rfl rfl List.mem_cons_self rfl (fun w1 => by kernel_rfl) ?_
  simp only [Act.put, List.setIfInBounds_toArray, List.set_cons_succ, List.set_cons_zero]
  refine wpFree_one rfl (.pointer (some ⟨g, 0, none⟩)) (fun w1 _ => by kernel_rfl) ?_
  simp only [Act.put, List.setIfInBounds_toArray, List.set_cons_succ, List.set_cons_zero]
  refine wpFree_one rfl (.pointer (some ⟨g, 0, none⟩)) (fun w1 _ => by kernel_rfl) ?_
  simp only [Act.put, List.setIfInBounds_toArray, List.set_cons_succ, List.set_cons_zero]
  refine wpFree_one rfl (.pointer (some ⟨g, 1, none⟩)) (fun w1 _ => by kernel_rfl) ?_
  simp only [Act.put, List.setIfInBounds_toArray, List.set_cons_succ, List.set_cons_zero]
  refine wpFree_loadPart F rfl rfl rfl rfl (List.mem_cons_self) Try.underlying24 rfl [.float .f32 x, .float .f32 y] (fun j hj => by match j, hj with | 0, _ => rfl | 1, _ => rfl) info2 ?_
  simp only [Act.put, List.setIfInBounds_toArray, List.set_cons_succ, List.set_cons_zero]
  refine wpFree_one rfl (.float .f32 s) (fun w1 _ => by kernel_rfl) ?_
  simp only [Act.put, List.setIfInBounds_toArray, List.set_cons_succ, List.set_cons_zero]
  refine wpFree_one rfl (.iface 142 (.agg #[.float .f32 a, .float .f32 b, .float .f32 c])) (fun w1 _ => by kernel_rfl) ?_
  simp only [Act.put, List.setIfInBounds_toArray, List.set_cons_succ, List.set_cons_zero]
  refine wpFree_one rfl (.iface 142 (.agg #[.float .f32 a, .float .f32 b, .float .f32 c])) (fun w1 _ => by kernel_rfl) ?_
  simp only [Act.put, List.setIfInBounds_toArray, List.set_cons_succ, List.set_cons_zero]
  refine wpFree_callR rfl 133 #[.agg #[.float .f32 a, .float .f32 b, .float .f32 c], .agg #[.float .f32 x, .float .f32 y], .float .f32 s] (fun w1 => by kernel_rfl) (fun _ _ _ _ h => h) (fun w1 _ => (i_next3 a b c x y s w1 Hx.out Hs.out).mono ?_) ?_
  · rintro e w2 ⟨r, p, q, rfl, h1, h2, h3, h4, h5, h6, hl⟩
    exact ⟨_, rfl, hl, r, p, q, rfl, h1, h2, h3, h4, h5, h6⟩
  rintro v ⟨_, _, r, p, q, rfl, h1, h2, h3, h4, h5, h6⟩
  replace h1 := hid h1; replace h2 := hid h2; replace h3 := hid h3; replace h4 := hid h4; replace h5 := hid h5; replace h6 := hid h6
  simp only [Act.put, List.setIfInBounds_toArray, List.set_cons_succ, List.set_cons_zero]
  refine wpFree_one rfl (.tuple #[.float .f32 r, .agg #[.float .f32 p, .float .f32 q]]) (fun w1 _ => by kernel_rfl) ?_
  simp only [Act.put, List.setIfInBounds_toArray, List.set_cons_succ, List.set_cons_zero]
  refine wpFree_one rfl (.float .f32 r) (fun w1 _ => by kernel_rfl) ?_
  simp only [Act.put, List.setIfInBounds_toArray, List.set_cons_succ, List.set_cons_zero]
  refine wpFree_one rfl (.agg #[.float .f32 p, .float .f32 q]) (fun w1 _ => by kernel_rfl) ?_
  simp only [Act.put, List.setIfInBounds_toArray, List.set_cons_succ, List.set_cons_zero]
  refine wpFree_alloc rfl rfl #[.float .f32 0, .float .f32 0] alloc2 (fun g2 hg2 => ?_)
  simp only [Act.put, List.setIfInBounds_toArray, List.set_cons_succ, List.set_cons_zero]
  refine wpFree_one rfl (.float .f32 r) (fun w1 _ => by kernel_rfl) ?_
  simp only [Act.put, List.setIfInBounds_toArray, List.set_cons_succ, List.set_cons_zero]
  refine wpFree_nil (fun w3 hw3 hF => ?_)
  obtain ⟨_, b', hbb, _, hrow⟩ := hF
  obtain rfl : g2 = b' := by simpa using hbb
  have hlt : g < w.heap.size := F.lt List.mem_cons_self
  have hz : w.heap.size ≤ g2 := by simpa using hg2
  have hne : g ≠ g2 := by omega
  refine wpList_storeD rfl rfl rfl (cells := #[.float .f32 p, .float .f32 q]) rfl hrow info2 rfl (by simp [Value.oneCell']) (fun w4 KW => ?_)
  have R2 := KW.row
  have RG := KW.other _ _ _ hne (((F.drewN 1).le hw3).row List.mem_cons_self)
  have U := Upd.of_le (g := g) (KW.below _ _ (le_trans (le_drewN w 1) hw3) hz)
  replace hne := hid hne
  clear hbb hrow hw3 hg2 F KW hlt hz
  replace U := hid U
  replace RG := hid RG
  go_wp2_with (with_reducible refine wpList_loadDn rfl rfl rfl R2 Try.underlying24 rfl info2 (by simp) ?_)
  replace R2 := hid R2
  go_loopw [25] (fun i wr => ∃ j : Nat, j ≤ 2 ∧ i = .int .i64 j ∧ Hid (Row wr g 88 #[.iface 142 (.agg #[.float .f32 a, .float .f32 b, .float .f32 c]), .float .f32 (if j = 0 then x else st0 3 a b c x y s), .float .f32 (if j < 2 then y else st1 3 a b c x y s)]) ∧ Hid (Upd g w wr)) (fun i _ => 2 - (intOf i).toNat)
  case atStart => exact ⟨0, by omega, rfl, RG, U⟩
  case round =>
    obtain ⟨j, hj, rfl, RJ, UJ⟩ := hrel
    rcases (show j = 0 ∨ j = 1 ∨ j = 2 by omega) with rfl | rfl | rfl
    · simp only [if_true, if_pos (show (0 : Nat) < 2 by decide)] at RJ
      clear RG U
      have ix : ∀ w, (Instr.index 24 (.agg #[.float .f32 p, .float .f32 q]) (.int .i64 0)).run Try.prog w = .ok (.float .f32 p) w := fun w => by kernel_rfl
      rw [show ((0 : Nat) : Int) = 0 from rfl]
      go_wp2
      clear ix
      refine region_tail (fun _ _ _ v => v = .float .f32 (kept p)) 7 (by kernel_rfl) (by kernel_rfl) ?_
      simp only [List.take_succ_cons, List.take_zero, List.drop_succ_cons, List.drop_zero]
      refine wpFree_one rfl (.pointer (some ⟨g, 0, none⟩)) (fun w1 _ => by kernel_rfl) ?_
      simp only [Act.put, List.setIfInBounds_toArray, List.set_cons_succ, List.set_cons_zero]
      refine wpFree_one rfl (.int .i64 0) (fun w1 _ => by kernel_rfl) ?_
      simp only [Act.put, List.setIfInBounds_toArray, List.set_cons_succ, List.set_cons_zero]
      refine wpFree_one rfl (.float .f32 p) (fun w1 _ => by kernel_rfl) ?_
      simp only [Act.put, List.setIfInBounds_toArray, List.set_cons_succ, List.set_cons_zero]
      refine wpFree_call rfl rfl Try.func108 (by kernel_rfl) (by kernel_rfl) (args := #[.float .f32 p]) (by simp [Act.eval]) (fun _ _ _ _ h => h) (fun w1 _ => (i_kept p w1 h4.out).mono ?_) ?_
      · rintro e w2 ⟨rfl, rfl⟩
        exact ⟨_, rfl, le_refl _, rfl⟩
      rintro v ⟨_, _, rfl⟩
      simp only [Act.put, List.setIfInBounds_toArray, List.set_cons_succ, List.set_cons_zero]
      refine wpFree_one rfl (.pointer (some ⟨g, 0, none⟩)) (fun w1 _ => by kernel_rfl) ?_
      simp only [Act.put, List.setIfInBounds_toArray, List.set_cons_succ, List.set_cons_zero]
      refine wpFree_one rfl (.pointer (some ⟨g, 1, none⟩)) (fun w1 _ => by kernel_rfl) ?_
      simp only [Act.put, List.setIfInBounds_toArray, List.set_cons_succ, List.set_cons_zero]
      refine wpFree_one rfl (.pointer (some ⟨g, 1 + 0, none⟩)) (fun w1 _ => by kernel_rfl) ?_
      simp only [Act.put, List.setIfInBounds_toArray, List.set_cons_succ, List.set_cons_zero]
      refine wpFree_nil (fun w5 hw5 _ => ?_)
      have RR := (RJ.out.drewN 1).le hw5
      have UU := hid ((UJ.out.le (le_drewN _ 1)).le hw5)
      have cc := RR.cell? (1 + 0)
      have ff := RR.frozen (1 + 0)
      replace RR := hid RR
      clear hw5
      go_wp2
      go_roundw
      case rel => exact ⟨0 + 1, by omega, by go_num, by have := RR.out.set (1 + 0) (.float .f32 (kept p)); rw [h2.out] at this; show Row _ _ _ _; rw [h2.out]; simpa using this, UU.out.setCell rfl _⟩
      case measure => simp [intOf]
    · simp only [if_neg (show ¬ (1 : Nat) = 0 by decide), if_pos (show (1 : Nat) < 2 by decide)] at RJ
      clear RG U
      have ix : ∀ w, (Instr.index 24 (.agg #[.float .f32 p, .float .f32 q]) (.int .i64 1)).run Try.prog w = .ok (.float .f32 q) w := fun w => by kernel_rfl
      rw [show ((1 : Nat) : Int) = 1 from rfl]
      go_wp2
      clear ix
      refine region_tail (fun _ _ _ v => v = .float .f32 (kept q)) 7 (by kernel_rfl) (by kernel_rfl) ?_
      simp only [List.take_succ_cons, List.take_zero, List.drop_succ_cons, List.drop_zero]
      refine wpFree_one rfl (.pointer (some ⟨g, 0, none⟩)) (fun w1 _ => by kernel_rfl) ?_
      simp only [Act.put, List.setIfInBounds_toArray, List.set_cons_succ, List.set_cons_zero]
      refine wpFree_one rfl (.int .i64 1) (fun w1 _ => by kernel_rfl) ?_
      simp only [Act.put, List.setIfInBounds_toArray, List.set_cons_succ, List.set_cons_zero]
      refine wpFree_one rfl (.float .f32 q) (fun w1 _ => by kernel_rfl) ?_
      simp only [Act.put, List.setIfInBounds_toArray, List.set_cons_succ, List.set_cons_zero]
      refine wpFree_call rfl rfl Try.func108 (by kernel_rfl) (by kernel_rfl) (args := #[.float .f32 q]) (by simp [Act.eval]) (fun _ _ _ _ h => h) (fun w1 _ => (i_kept q w1 h5.out).mono ?_) ?_
      · rintro e w2 ⟨rfl, rfl⟩
        exact ⟨_, rfl, le_refl _, rfl⟩
      rintro v ⟨_, _, rfl⟩
      simp only [Act.put, List.setIfInBounds_toArray, List.set_cons_succ, List.set_cons_zero]
      refine wpFree_one rfl (.pointer (some ⟨g, 0, none⟩)) (fun w1 _ => by kernel_rfl) ?_
      simp only [Act.put, List.setIfInBounds_toArray, List.set_cons_succ, List.set_cons_zero]
      refine wpFree_one rfl (.pointer (some ⟨g, 1, none⟩)) (fun w1 _ => by kernel_rfl) ?_
      simp only [Act.put, List.setIfInBounds_toArray, List.set_cons_succ, List.set_cons_zero]
      refine wpFree_one rfl (.pointer (some ⟨g, 1 + 1, none⟩)) (fun w1 _ => by kernel_rfl) ?_
      simp only [Act.put, List.setIfInBounds_toArray, List.set_cons_succ, List.set_cons_zero]
      refine wpFree_nil (fun w5 hw5 _ => ?_)
      have RR := (RJ.out.drewN 1).le hw5
      have UU := hid ((UJ.out.le (le_drewN _ 1)).le hw5)
      have cc := RR.cell? (1 + 1)
      have ff := RR.frozen (1 + 1)
      replace RR := hid RR
      clear hw5
      go_wp2
      go_roundw
      case rel => exact ⟨1 + 1, by omega, by go_num, by have := RR.out.set (1 + 1) (.float .f32 (kept q)); rw [h3.out] at this; show Row _ _ _ _; rw [h3.out]; simpa using this, UU.out.setCell rfl _⟩
      case measure => simp [intOf]
    · simp only [if_neg (show ¬ (2 : Nat) = 0 by decide), if_neg (show ¬ (2 : Nat) < 2 by decide)] at RJ
      clear RG U
      go_wp2
      go_ret
      exact ⟨_, rfl, h1.out, h6.out, RJ.out, UJ.out⟩
set_option maxHeartbeats 2000000 in
theorem i_step4 (a b c x y s g : Nat) (w : World) (R : Row w g 88 #[.iface 143 (.agg #[.float .f32 a, .float .f32 b, .float .f32 c]), .float .f32 x, .float .f32 y]) (hx : fits .f32 x) (hs : fits .f32 s) :
    Calls Try.prog 100 #[.pointer (some ⟨g, 0, none⟩), .float .f32 s] w (OutS 4 a b c x y s g 88 (fun u v => #[.iface 143 (.agg #[.float .f32 a, .float .f32 b, .float .f32 c]), .float .f32 u, .float .f32 v]) w) := by
  have Hx := hid hx; have Hs := hid hs; clear hx hs
  have F := Frm.one R
  clear R
  go_enter Try.func100, Try.ntmps100
  go_upto_region 1 with (fail)
  refine region_tail (fun f args _ v => ∃ r p q, v = .tuple #[.float .f32 r, .agg #[.float .f32 p, .float .f32 q]] ∧ can .f32 r = outF 4 a b c x y s ∧ kept p = st0 4 a b c x y s ∧ kept q = st1 4 a b c x y s ∧ fits .f32 p ∧ fits .f32 q ∧ fits .f32 r) 17 (by kernel_rfl) (by kernel_rfl) ?_
  simp only [List.take_succ_cons, List.take_zero, List.drop_succ_cons, List.drop_zero]
  refine wpFree_one rfl (.pointer (some ⟨g, 0, none⟩)) (fun w1 _ => by kernel_rfl) ?_
  simp only [Act.put, List.setIfInBounds_toArray, List.set_cons_succ, List.set_cons_zero]
  refine wpFree_one rfl (.pointer (some ⟨g, 0, none⟩)) (fun w1 _ => by kernel_rfl) ?_
  simp only [Act.put, List.setIfInBounds_toArray, List.set_cons_succ, List.set_cons_zero]
  refine wpFree_one rfl (.pointer (some ⟨g, 0, none⟩)) (fun w1 _ => by kernel_rfl) ?_
  simp only [Act.put, List.setIfInBounds_toArray, List.set_cons_succ, List.set_cons_zero]
  refine wpFree_loadV F rfl rfl rfl rfl List.mem_cons_self rfl (fun w1 => by kernel_rfl) ?_
  simp only [Act.put, List.setIfInBounds_toArray, List.set_cons_succ, List.set_cons_zero]
  refine wpFree_one rfl (.pointer (some ⟨g, 0, none⟩)) (fun w1 _ => by kernel_rfl) ?_
  simp only [Act.put, List.setIfInBounds_toArray, List.set_cons_succ, List.set_cons_zero]
  refine wpFree_one rfl (.pointer (some ⟨g, 0, none⟩)) (fun w1 _ => by kernel_rfl) ?_
  simp only [Act.put, List.setIfInBounds_toArray, List.set_cons_succ, List.set_cons_zero]
  refine wpFree_one rfl (.pointer (some ⟨g, 1, none⟩)) (fun w1 _ => by kernel_rfl) ?_
  simp only [Act.put, List.setIfInBounds_toArray, List.set_cons_succ, List.set_cons_zero]
  refine wpFree_loadPart F rfl rfl rfl rfl (List.mem_cons_self) Try.underlying24 rfl [.float .f32 x, .float .f32 y] (fun j hj => by match j, hj with | 0, _ => rfl | 1, _ => rfl) info2 ?_
  simp only [Act.put, List.setIfInBounds_toArray, List.set_cons_succ, List.set_cons_zero]
  refine wpFree_one rfl (.float .f32 s) (fun w1 _ => by kernel_rfl) ?_
  simp only [Act.put, List.setIfInBounds_toArray, List.set_cons_succ, List.set_cons_zero]
  refine wpFree_one rfl (.iface 143 (.agg #[.float .f32 a, .float .f32 b, .float .f32 c])) (fun w1 _ => by kernel_rfl) ?_
  simp only [Act.put, List.setIfInBounds_toArray, List.set_cons_succ, List.set_cons_zero]
  refine wpFree_one rfl (.iface 143 (.agg #[.float .f32 a, .float .f32 b, .float .f32 c])) (fun w1 _ => by kernel_rfl) ?_
  simp only [Act.put, List.setIfInBounds_toArray, List.set_cons_succ, List.set_cons_zero]
  refine wpFree_callR rfl 134 #[.agg #[.float .f32 a, .float .f32 b, .float .f32 c], .agg #[.float .f32 x, .float .f32 y], .float .f32 s] (fun w1 => by kernel_rfl) (fun _ _ _ _ h => h) (fun w1 _ => (i_next4 a b c x y s w1 Hx.out Hs.out).mono ?_) ?_
  · rintro e w2 ⟨r, p, q, rfl, h1, h2, h3, h4, h5, h6, hl⟩
    exact ⟨_, rfl, hl, r, p, q, rfl, h1, h2, h3, h4, h5, h6⟩
  rintro v ⟨_, _, r, p, q, rfl, h1, h2, h3, h4, h5, h6⟩
  replace h1 := hid h1; replace h2 := hid h2; replace h3 := hid h3; replace h4 := hid h4; replace h5 := hid h5; replace h6 := hid h6
  simp only [Act.put, List.setIfInBounds_toArray, List.set_cons_succ, List.set_cons_zero]
  refine wpFree_one rfl (.tuple #[.float .f32 r, .agg #[.float .f32 p, .float .f32 q]]) (fun w1 _ => by kernel_rfl) ?_
  simp only [Act.put, List.setIfInBounds_toArray, List.set_cons_succ, List.set_cons_zero]
  refine wpFree_one rfl (.float .f32 r) (fun w1 _ => by kernel_rfl) ?_
  simp only [Act.put, List.setIfInBounds_toArray, List.set_cons_succ, List.set_cons_zero]
  refine wpFree_one rfl (.agg #[.float .f32 p, .float .f32 q]) (fun w1 _ => by kernel_rfl) ?_
  simp only [Act.put, List.setIfInBounds_toArray, List.set_cons_succ, List.set_cons_zero]
  refine wpFree_alloc rfl rfl #[.float .f32 0, .float .f32 0] alloc2 (fun g2 hg2 => ?_)
  simp only [Act.put, List.setIfInBounds_toArray, List.set_cons_succ, List.set_cons_zero]
  refine wpFree_one rfl (.float .f32 r) (fun w1 _ => by kernel_rfl) ?_
  simp only [Act.put, List.setIfInBounds_toArray, List.set_cons_succ, List.set_cons_zero]
  refine wpFree_nil (fun w3 hw3 hF => ?_)
  obtain ⟨_, b', hbb, _, hrow⟩ := hF
  obtain rfl : g2 = b' := by simpa using hbb
  have hlt : g < w.heap.size := F.lt List.mem_cons_self
  have hz : w.heap.size ≤ g2 := by simpa using hg2
  have hne : g ≠ g2 := by omega
  refine wpList_storeD rfl rfl rfl (cells := #[.float .f32 p, .float .f32 q]) rfl hrow info2 rfl (by simp [Value.oneCell']) (fun w4 KW => ?_)
  have R2 := KW.row
  have RG := KW.other _ _ _ hne (((F.drewN 1).le hw3).row List.mem_cons_self)
  have U := Upd.of_le (g := g) (KW.below _ _ (le_trans (le_drewN w 1) hw3) hz)
  replace hne := hid hne
  clear hbb hrow hw3 hg2 F KW hlt hz
  replace U := hid U
  replace RG := hid RG
  go_wp2_with (with_reducible refine wpList_loadDn rfl rfl rfl R2 Try.underlying24 rfl info2 (by simp) ?_)
  replace R2 := hid R2
  go_loopw [25] (fun i wr => ∃ j : Nat, j ≤ 2 ∧ i = .int .i64 j ∧ Hid (Row wr g 88 #[.iface 143 (.agg #[.float .f32 a, .float .f32 b, .float .f32 c]), .float .f32 (if j = 0 then x else st0 4 a b c x y s), .float .f32 (if j < 2 then y else st1 4 a b c x y s)]) ∧ Hid (Upd g w wr)) (fun i _ => 2 - (intOf i).toNat)
  case atStart => exact ⟨0, by omega, rfl, RG, U⟩
  case round =>
    obtain ⟨j, hj, rfl, RJ, UJ⟩ := hrel
    rcases (show j = 0 ∨ j = 1 ∨ j = 2 by omega) with rfl | rfl | rfl
    · simp only [if_true, if_pos (show (0 : Nat) < 2 by decide)] at RJ
      clear RG U
      have ix : ∀ w, (Instr.index 24 (.agg #[.float .f32 p, .float .f32 q]) (.int .i64 0)).run Try.prog w = .ok (.float .f32 p) w := fun w => by kernel_rfl
      rw [show ((0 : Nat) : Int) = 0 from rfl]
      go_wp2
      clear ix
      refine region_tail (fun _ _ _ v => v = .float .f32 (kept p)) 7 (by kernel_rfl) (by kernel_rfl) ?_
      simp only [List.take_succ_cons, List.take_zero, List.drop_succ_cons, List.drop_zero]
      refine wpFree_one rfl (.pointer (some ⟨g, 0, none⟩)) (fun w1 _ => by kernel_rfl) ?_
      simp only [Act.put, List.setIfInBounds_toArray, List.set_cons_succ, List.set_cons_zero]
      refine wpFree_one rfl (.int .i64 0) (fun w1 _ => by kernel_rfl) ?_
      simp only [Act.put, List.setIfInBounds_toArray, List.set_cons_succ, List.set_cons_zero]
      refine wpFree_one rfl (.float .f32 p) (fun w1 _ => by kernel_rfl) ?_
      simp only [Act.put, List.setIfInBounds_toArray, List.set_cons_succ, List.set_cons_zero]
      refine wpFree_call rfl rfl Try.func108 (by kernel_rfl) (by kernel_rfl) (args := #[.float .f32 p]) (by simp [Act.eval]) (fun _ _ _ _ h => h) (fun w1 _ => (i_kept p w1 h4.out).mono ?_) ?_
      · rintro e w2 ⟨rfl, rfl⟩
        exact ⟨_, rfl, le_refl _, rfl⟩
      rintro v ⟨_, _, rfl⟩
      simp only [Act.put, List.setIfInBounds_toArray, List.set_cons_succ, List.set_cons_zero]
      refine wpFree_one rfl (.pointer (some ⟨g, 0, none⟩)) (fun w1 _ => by kernel_rfl) ?_
      simp only [Act.put, List.setIfInBounds_toArray, List.set_cons_succ, List.set_cons_zero]
      refine wpFree_one rfl (.pointer (some ⟨g, 1, none⟩)) (fun w1 _ => by kernel_rfl) ?_
      simp only [Act.put, List.setIfInBounds_toArray, List.set_cons_succ, List.set_cons_zero]
      refine wpFree_one rfl (.pointer (some ⟨g, 1 + 0, none⟩)) (fun w1 _ => by kernel_rfl) ?_
      simp only [Act.put, List.setIfInBounds_toArray, List.set_cons_succ, List.set_cons_zero]
      refine wpFree_nil (fun w5 hw5 _ => ?_)
      have RR := (RJ.out.drewN 1).le hw5
      have UU := hid ((UJ.out.le (le_drewN _ 1)).le hw5)
      have cc := RR.cell? (1 + 0)
      have ff := RR.frozen (1 + 0)
      replace RR := hid RR
      clear hw5
      go_wp2
      go_roundw
      case rel => exact ⟨0 + 1, by omega, by go_num, by have := RR.out.set (1 + 0) (.float .f32 (kept p)); rw [h2.out] at this; show Row _ _ _ _; rw [h2.out]; simpa using this, UU.out.setCell rfl _⟩
      case measure => simp [intOf]
    · simp only [if_neg (show ¬ (1 : Nat) = 0 by decide), if_pos (show (1 : Nat) < 2 by decide)] at RJ
      clear RG U
      have ix : ∀ w, (Instr.index 24 (.agg #[.float .f32 p, .float .f32 q]) (.int .i64 1)).run Try.prog w = .ok (.float .f32 q) w := fun w => by kernel_rfl
      rw [show ((1 : Nat) : Int) = 1 from rfl]
      go_wp2
      clear ix
      refine region_tail (fun _ _ _ v => v = .float .f32 (kept q)) 7 (by kernel_rfl) (by kernel_rfl) ?_
      simp only [List.take_succ_cons, List.take_zero, List.drop_succ_cons, List.drop_zero]
      refine wpFree_one rfl (.pointer (some ⟨g, 0, none⟩)) (fun w1 _ => by kernel_rfl) ?_
      simp only [Act.put, List.setIfInBounds_toArray, List.set_cons_succ, List.set_cons_zero]
      refine wpFree_one rfl (.int .i64 1) (fun w1 _ => by kernel_rfl) ?_
      simp only [Act.put, List.setIfInBounds_toArray, List.set_cons_succ, List.set_cons_zero]
      refine wpFree_one rfl (.float .f32 q) (fun w1 _ => by kernel_rfl) ?_
      simp only [Act.put, List.setIfInBounds_toArray, List.set_cons_succ, List.set_cons_zero]
      refine wpFree_call rfl rfl Try.func108 (by kernel_rfl) (by kernel_rfl) (args := #[.float .f32 q]) (by simp [Act.eval]) (fun _ _ _ _ h => h) (fun w1 _ => (i_kept q w1 h5.out).mono ?_) ?_
      · rintro e w2 ⟨rfl, rfl⟩
        exact ⟨_, rfl, le_refl _, rfl⟩
      rintro v ⟨_, _, rfl⟩
      simp only [Act.put, List.setIfInBounds_toArray, List.set_cons_succ, List.set_cons_zero]
      refine wpFree_one rfl (.pointer (some ⟨g, 0, none⟩)) (fun w1 _ => by kernel_rfl) ?_
      simp only [Act.put, List.setIfInBounds_toArray, List.set_cons_succ, List.set_cons_zero]
      refine wpFree_one rfl (.pointer (some ⟨g, 1, none⟩)) (fun w1 _ => by kernel_rfl) ?_
      simp only [Act.put, List.setIfInBounds_toArray, List.set_cons_succ, List.set_cons_zero]
      refine wpFree_one rfl (.pointer (some ⟨g, 1 + 1, none⟩)) (fun w1 _ => by kernel_rfl) ?_
      simp only [Act.put, List.setIfInBounds_toArray, List.set_cons_succ, List.set_cons_zero]
      refine wpFree_nil (fun w5 hw5 _ => ?_)
      have RR := (RJ.out.drewN 1).le hw5
      have UU := hid ((UJ.out.le (le_drewN _ 1)).le hw5)
      have cc := RR.cell? (1 + 1)
      have ff := RR.frozen (1 + 1)
      replace RR := hid RR
      clear hw5
      go_wp2
      go_roundw
      case rel => exact ⟨1 + 1, by omega, by go_num, by have := RR.out.set (1 + 1) (.float .f32 (kept q)); rw [h3.out] at this; show Row _ _ _ _; rw [h3.out]; simpa using this, UU.out.setCell rfl _⟩
      case measure => simp [intOf]
    · simp only [if_neg (show ¬ (2 : Nat) = 0 by decide), if_neg (show ¬ (2 : Nat) < 2 by decide)] at RJ
      clear RG U
      go_wp2
      go_ret
      exact ⟨_, rfl, h1.out, h6.out, RJ.out, UJ.out⟩
set_option maxHeartbeats 2000000 in
theorem i_step5 (a b c x y s g : Nat) (w : World) (R : Row w g 88 #[.iface 144 (.agg #[.float .f32 a, .float .f32 b, .float .f32 c]), .float .f32 x, .float .f32 y]) (hx : fits .f32 x) (hs : fits .f32 s) :
    Calls Try.prog 100 #[.pointer (some ⟨g, 0, none⟩), .float .f32 s] w (OutS 5 a b c x y s g 88 (fun u v => #[.iface 144 (.agg #[.float .f32 a, .float .f32 b, .float .f32 c]), .float .f32 u, .float .f32 v]) w) := by
  have Hx := hid hx; have Hs := hid hs; clear hx hs
  have F := Frm.one R
  clear R
  go_enter Try.func100, Try.ntmps100
  go_upto_region 1 with (fail)
  refine region_tail (fun f args _ v => ∃ r p q, v = .tuple #[.float .f32 r, .agg #[.float .f32 p, .float .f32 q]] ∧ can .f32 r = outF 5 a b c x y s ∧ kept p = st0 5 a b c x y s ∧ kept q = st1 5 a b c x y s ∧ fits .f32 p ∧ fits .f32 q ∧ fits .f32 r) 17 (by kernel_rfl) (by kernel_rfl) ?_
  simp only [List.take_succ_cons, List.take_zero, List.drop_succ_cons, List.drop_zero]
  refine wpFree_one rfl (.pointer (some ⟨g, 0, none⟩)) (fun w1 _ => by kernel_rfl) ?_
  simp only [Act.put, List.setIfInBounds_toArray, List.set_cons_succ, List.set_cons_zero]
  refine wpFree_one rfl (.pointer (some ⟨g, 0, none⟩)) (fun w1 _ => by kernel_rfl) ?_
  simp only [Act.put, List.setIfInBounds_toArray, List.set_cons_succ, List.set_cons_zero]
  refine wpFree_one rfl (.pointer (some ⟨g, 0, none⟩)) (fun w1 _ => by kernel_rfl) ?_
  simp only [Act.put, List.setIfInBounds_toArray, List.set_cons_succ, List.set_cons_zero]
  refine wpFree_loadV F rfl rfl rfl rfl List.mem_cons_self rfl (fun w1 => by kernel_rfl) ?_
  simp only [Act.put, List.setIfInBounds_toArray, List.set_cons_succ, List.set_cons_zero]
  refine wpFree_one rfl (.pointer (some ⟨g, 0, none⟩)) (fun w1 _ => by kernel_rfl) ?_
  simp only [Act.put, List.setIfInBounds_toArray, List.set_cons_succ, List.set_cons_zero]
  refine wpFree_one rfl (.pointer (some ⟨g, 0, none⟩)) (fun w1 _ => by kernel_rfl) ?_
  simp only [Act.put, List.setIfInBounds_toArray, List.set_cons_succ, List.set_cons_zero]
  refine wpFree_one rfl (.pointer (some ⟨g, 1, none⟩)) (fun w1 _ => by kernel_rfl) ?_
  simp only [Act.put, List.setIfInBounds_toArray, List.set_cons_succ, List.set_cons_zero]
  refine wpFree_loadPart F rfl rfl rfl rfl (List.mem_cons_self) Try.underlying24 rfl [.float .f32 x, .float .f32 y] (fun j hj => by match j, hj with | 0, _ => rfl | 1, _ => rfl) info2 ?_
  simp only [Act.put, List.setIfInBounds_toArray, List.set_cons_succ, List.set_cons_zero]
  refine wpFree_one rfl (.float .f32 s) (fun w1 _ => by kernel_rfl) ?_
  simp only [Act.put, List.setIfInBounds_toArray, List.set_cons_succ, List.set_cons_zero]
  refine wpFree_one rfl (.iface 144 (.agg #[.float .f32 a, .float .f32 b, .float .f32 c])) (fun w1 _ => by kernel_rfl) ?_
  simp only [Act.put, List.setIfInBounds_toArray, List.set_cons_succ, List.set_cons_zero]
  refine wpFree_one rfl (.iface 144 (.agg #[.float .f32 a, .float .f32 b, .float .f32 c])) (fun w1 _ => by kernel_rfl) ?_
  simp only [Act.put, List.setIfInBounds_toArray, List.set_cons_succ, List.set_cons_zero]
  refine wpFree_callR rfl 135 #[.agg #[.float .f32 a, .float .f32 b, .float .f32 c], .agg #[.float .f32 x, .float .f32 y], .float .f32 s] (fun w1 => by kernel_rfl) (fun _ _ _ _ h => h) (fun w1 _ => (i_next5 a b c x y s w1 Hx.out Hs.out).mono ?_) ?_
  · rintro e w2 ⟨r, p, q, rfl, h1, h2, h3, h4, h5, h6, hl⟩
    exact ⟨_, rfl, hl, r, p, q, rfl, h1, h2, h3, h4, h5, h6⟩
  rintro v ⟨_, _, r, p, q, rfl, h1, h2, h3, h4, h5, h6⟩
  replace h1 := hid h1; replace h2 := hid h2; replace h3 := hid h3; replace h4 := hid h4; replace h5 := hid h5; replace h6 := hid h6
  simp only [Act.put, List.setIfInBounds_toArray, List.set_cons_succ, List.set_cons_zero]
  refine wpFree_one rfl (.tuple #[.float .f32 r, .agg #[.float .f32 p, .float .f32 q]]) (fun w1 _ => by kernel_rfl) ?_
  simp only [Act.put, List.setIfInBounds_toArray, List.set_cons_succ, List.set_cons_zero]
  refine wpFree_one rfl (.float .f32 r) (fun w1 _ => by kernel_rfl) ?_
  simp only [Act.put, List.setIfInBounds_toArray, List.set_cons_succ, List.set_cons_zero]
  refine wpFree_one rfl (.agg #[.float .f32 p, .float .f32 q]) (fun w1 _ => by kernel_rfl) ?_
  simp only [Act.put, List.setIfInBounds_toArray, List.set_cons_succ, List.set_cons_zero]
  refine wpFree_alloc rfl rfl #[.float .f32 0, .float .f32 0] alloc2 (fun g2 hg2 => ?_)
  simp only [Act.put, List.setIfInBounds_toArray, List.set_cons_succ, List.set_cons_zero]
  refine wpFree_one rfl (.float .f32 r) (fun w1 _ => by kernel_rfl) ?_
  simp only [Act.put, List.setIfInBounds_toArray, List.set_cons_succ, List.set_cons_zero]
  refine wpFree_nil (fun w3 hw3 hF => ?_)
  obtain ⟨_, b', hbb, _, hrow⟩ := hF
  obtain rfl : g2 = b' := by simpa using hbb
  have hlt : g < w.heap.size := F.lt List.mem_cons_self
  have hz : w.heap.size ≤ g2 := by simpa using hg2
  have hne : g ≠ g2 := by omega
  refine wpList_storeD rfl rfl rfl (cells := #[.float .f32 p, .float .f32 q]) rfl hrow info2 rfl (by simp [Value.oneCell']) (fun w4 KW => ?_)
  have R2 := KW.row
  have RG := KW.other _ _ _ hne (((F.drewN 1).le hw3).row List.mem_cons_self)
  have U := Upd.of_le (g := g) (KW.below _ _ (le_trans (le_drewN w 1) hw3) hz)
  replace hne := hid hne
  clear hbb hrow hw3 hg2 F KW hlt hz
  replace U := hid U
  replace RG := hid RG
  go_wp2_with (with_reducible refine wpList_loadDn rfl rfl rfl R2 Try.underlying24 rfl info2 (by simp) ?_)
  replace R2 := hid R2
  go_loopw [25] (fun i wr => ∃ j : Nat, j ≤ 2 ∧ i = .int .i64 j ∧ Hid (Row wr g 88 #[.iface 144 (.agg #[.float .f32 a, .float .f32 b, .float .f32 c]), .float .f32 (if j = 0 then x else st0 5 a b c x y s), .float .f32 (if j < 2 then y else st1 5 a b c x y s)]) ∧ Hid (Upd g w wr)) (fun i _ => 2 - (intOf i).toNat)
  case atStart => exact ⟨0, by omega, rfl, RG, U⟩
  case round =>
    obtain ⟨j, hj, rfl, RJ, UJ⟩ := hrel
    rcases (show j = 0 ∨ j = 1 ∨ j = 2 by omega) with rfl | rfl | rfl
    · simp only [if_true, if_pos (show (0 : Nat) < 2 by decide)] at RJ
      clear RG U
      have ix : ∀ w, (Instr.index 24 (.agg #[.float .f32 p, .float .f32 q]) (.int .i64 0)).run Try.prog w = .ok (.float .f32 p) w := fun w => by kernel_rfl
      rw [show ((0 : Nat) : Int) = 0 from rfl]
      go_wp2
      clear ix
      refine region_tail (fun _ _ _ v => v = .float .f32 (kept p)) 7 (by kernel_rfl) (by kernel_rfl) ?_
      simp only [List.take_succ_cons, List.take_zero, List.drop_succ_cons, List.drop_zero]
      refine wpFree_one rfl (.pointer (some ⟨g, 0, none⟩)) (fun w1 _ => by kernel_rfl) ?_
      simp only [Act.put, List.setIfInBounds_toArray, List.set_cons_succ, List.set_cons_zero]
      refine wpFree_one rfl (.int .i64 0) (fun w1 _ => by kernel_rfl) ?_
      simp only [Act.put, List.setIfInBounds_toArray, List.set_cons_succ, List.set_cons_zero]
      refine wpFree_one rfl (.float .f32 p) (fun w1 _ => by kernel_rfl) ?_
      simp only [Act.put, List.setIfInBounds_toArray, List.set_cons_succ, List.set_cons_zero]
      refine wpFree_call rfl rfl Try.func108 (by kernel_rfl) (by kernel_rfl) (args := #[.float .f32 p]) (by simp [Act.eval]) (fun _ _ _ _ h => h) (fun w1 _ => (i_kept p w1 h4.out).mono ?_) ?_
      · rintro e w2 ⟨rfl, rfl⟩
        exact ⟨_, rfl, le_refl _, rfl⟩
      rintro v ⟨_, _, rfl⟩
      simp only [Act.put, List.setIfInBounds_toArray, List.set_cons_succ, List.set_cons_zero]
      refine wpFree_one rfl (.pointer (some ⟨g, 0, none⟩)) (fun w1 _ => by kernel_rfl) ?_
      simp only [Act.put, List.setIfInBounds_toArray, List.set_cons_succ, List.set_cons_zero]
      refine wpFree_one rfl (.pointer (some ⟨g, 1, none⟩)) (fun w1 _ => by kernel_rfl) ?_
      simp only [Act.put, List.setIfInBounds_toArray, List.set_cons_succ, List.set_cons_zero]
      refine wpFree_one rfl (.pointer (some ⟨g, 1 + 0, none⟩)) (fun w1 _ => by kernel_rfl) ?_
      simp only [Act.put, List.setIfInBounds_toArray, List.set_cons_succ, List.set_cons_zero]
      refine wpFree_nil (fun w5 hw5 _ => ?_)
      have RR := (RJ.out.drewN 1).le hw5
      have UU := hid ((UJ.out.le (le_drewN _ 1)).le hw5)
      have cc := RR.cell? (1 + 0)
      have ff := RR.frozen (1 + 0)
      replace RR := hid RR
      clear hw5
      go_wp2
      go_roundw
      case rel => exact ⟨0 + 1, by omega, by go_num, by have := RR.out.set (1 + 0) (.float .f32 (kept p)); rw [h2.out] at this; show Row _ _ _ _; rw [h2.out]; simpa using this, UU.out.setCell rfl _⟩
      case measure => simp [intOf]
    · simp only [if_neg (show ¬ (1 : Nat) = 0 by decide), if_pos (show (1 : Nat) < 2 by decide)] at RJ
      clear RG U
      have ix : ∀ w, (Instr.index 24 (.agg #[.float .f32 p, .float .f32 q]) (.int .i64 1)).run Try.prog w = .ok (.float .f32 q) w := fun w => by kernel_rfl
      rw [show ((1 : Nat) : Int) = 1 from rfl]
      go_wp2
      clear ix
      refine region_tail (fun _ _ _ v => v = .float .f32 (kept q)) 7 (by kernel_rfl) (by kernel_rfl) ?_
      simp only [List.take_succ_cons, List.take_zero, List.drop_succ_cons, List.drop_zero]
      refine wpFree_one rfl (.pointer (some ⟨g, 0, none⟩)) (fun w1 _ => by kernel_rfl) ?_
      simp only [Act.put, List.setIfInBounds_toArray, List.set_cons_succ, List.set_cons_zero]
      refine wpFree_one rfl (.int .i64 1) (fun w1 _ => by kernel_rfl) ?_
      simp only [Act.put, List.setIfInBounds_toArray, List.set_cons_succ, List.set_cons_zero]
      refine wpFree_one rfl (.float .f32 q) (fun w1 _ => by kernel_rfl) ?_
      simp only [Act.put, List.setIfInBounds_toArray, List.set_cons_succ, List.set_cons_zero]
      refine wpFree_call rfl rfl Try.func108 (by kernel_rfl) (by kernel_rfl) (args := #[.float .f32 q]) (by simp [Act.eval]) (fun _ _ _ _ h => h) (fun w1 _ => (i_kept q w1 h5.out).mono ?_) ?_
      · rintro e w2 ⟨rfl, rfl⟩
        exact ⟨_, rfl, le_refl _, rfl⟩
      rintro v ⟨_, _, rfl⟩
      simp only [Act.put, List.setIfInBounds_toArray, List.set_cons_succ, List.set_cons_zero]
      refine wpFree_one rfl (.pointer (some ⟨g, 0, none⟩)) (fun w1 _ => by kernel_rfl) ?_
      simp only [Act.put, List.setIfInBounds_toArray, List.set_cons_succ, List.set_cons_zero]
      refine wpFree_one rfl (.pointer (some ⟨g, 1, none⟩)) (fun w1 _ => by kernel_rfl) ?_
      simp only [Act.put, List.setIfInBounds_toArray, List.set_cons_succ, List.set_cons_zero]
      refine wpFree_one rfl (.pointer (some ⟨g, 1 + 1, none⟩)) (fun w1 _ => by kernel_rfl) ?_
      simp only [Act.put, List.setIfInBounds_toArray, List.set_cons_succ, List.set_cons_zero]
      refine wpFree_nil (fun w5 hw5 _ => ?_)
      have RR := (RJ.out.drewN 1).le hw5
      have UU := hid ((UJ.out.le (le_drewN _ 1)).le hw5)
      have cc := RR.cell? (1 + 1)
      have ff := RR.frozen (1 + 1)
      replace RR := hid RR
      clear hw5
      go_wp2
      go_roundw
      case rel => exact ⟨1 + 1, by omega, by go_num, by have := RR.out.set (1 + 1) (.float .f32 (kept q)); rw [h3.out] at this; show Row _ _ _ _; rw [h3.out]; simpa using this, UU.out.setCell rfl _⟩
      case measure => simp [intOf]
    · simp only [if_neg (show ¬ (2 : Nat) = 0 by decide), if_neg (show ¬ (2 : Nat) < 2 by decide)] at RJ
      clear RG U
      go_wp2
      go_ret
      exact ⟨_, rfl, h1.out, h6.out, RJ.out, UJ.out⟩
end Go.Proofs.Ytmacednkpjfokaa

/- The model's step of a filter, kind by kind. -/
namespace Go.Proofs.Ytmacednkpjfokaa
open Go.RowKit Go.Fk
set_option maxRecDepth 100000 in
set_option maxHeartbeats 2000000 in
theorem s_Step1 (a b c x y s g : Nat) (w : World) (R : Row w g 28 (#[.int .i64 1, .float .f32 a, .float .f32 b, .float .f32 c, .float .f32 x, .float .f32 y] : Array Value)) (hx : fits .f32 x) (hs : fits .f32 s) (hy : y = 0) :
    Calls Try.prog 58 #[.pointer (some ⟨g, 0, none⟩), .float .f32 s] w (OutS 1 a b c x y s g 28 (fun u v => (#[.int .i64 1, .float .f32 a, .float .f32 b, .float .f32 c, .float .f32 u, .float .f32 v] : Array Value)) w) := by
  subst hy
  have Hx := hid hx; have Hs := hid hs; clear hx hs
  have F := Frm.one R
  have U := hid (Upd.refl g w)
  obtain ⟨c0, c1, c2, c3, c4, c5⟩ := R.six
  clear R
  go_enter Try.func58, Try.ntmps58
  go_wp2
  refine region_free (fun _ _ _ _ => True) (by kernel_rfl) (by kernel_rfl) ?_
  refine wpFree_one rfl (.pointer (some ⟨g, 0, none⟩)) (fun w1 _ => by kernel_rfl) ?_
  simp only [Act.put, List.setIfInBounds_toArray, List.set_cons_succ, List.set_cons_zero]
  refine wpFree_one rfl (.pointer (some ⟨g, 0, none⟩)) (fun w1 _ => by kernel_rfl) ?_
  simp only [Act.put, List.setIfInBounds_toArray, List.set_cons_succ, List.set_cons_zero]
  refine wpFree_one rfl (.pointer (some ⟨g, 1, none⟩)) (fun w1 _ => by kernel_rfl) ?_
  simp only [Act.put, List.setIfInBounds_toArray, List.set_cons_succ, List.set_cons_zero]
  refine wpFree_one rfl (.pointer (some ⟨g, 1, none⟩)) (fun w1 _ => by kernel_rfl) ?_
  simp only [Act.put, List.setIfInBounds_toArray, List.set_cons_succ, List.set_cons_zero]
  refine wpFree_loadF F rfl rfl rfl rfl List.mem_cons_self rfl Try.underlying22 ?_
  simp only [Act.put, List.setIfInBounds_toArray, List.set_cons_succ, List.set_cons_zero]
  refine wpFree_one rfl (.float .f32 s) (fun w1 _ => by kernel_rfl) ?_
  simp only [Act.put, List.setIfInBounds_toArray, List.set_cons_succ, List.set_cons_zero]
  refine wpFree_farith rfl rfl rfl rfl rfl (fun r53 h53 f53 => ?_)
  simp only [Act.put, List.setIfInBounds_toArray, List.set_cons_succ, List.set_cons_zero]
  refine wpFree_one rfl (.pointer (some ⟨g, 0, none⟩)) (fun w1 _ => by kernel_rfl) ?_
  simp only [Act.put, List.setIfInBounds_toArray, List.set_cons_succ, List.set_cons_zero]
  refine wpFree_one rfl (.pointer (some ⟨g, 0, none⟩)) (fun w1 _ => by kernel_rfl) ?_
  simp only [Act.put, List.setIfInBounds_toArray, List.set_cons_succ, List.set_cons_zero]
  refine wpFree_one rfl (.pointer (some ⟨g, 1, none⟩)) (fun w1 _ => by kernel_rfl) ?_
  simp only [Act.put, List.setIfInBounds_toArray, List.set_cons_succ, List.set_cons_zero]
  refine wpFree_one rfl (.pointer (some ⟨g, 1 + 1, none⟩)) (fun w1 _ => by kernel_rfl) ?_
  simp only [Act.put, List.setIfInBounds_toArray, List.set_cons_succ, List.set_cons_zero]
  refine wpFree_loadF F rfl rfl rfl rfl List.mem_cons_self rfl Try.underlying22 ?_
  simp only [Act.put, List.setIfInBounds_toArray, List.set_cons_succ, List.set_cons_zero]
  refine wpFree_one rfl (.float .f32 x) (fun w1 _ => by kernel_rfl) ?_
  simp only [Act.put, List.setIfInBounds_toArray, List.set_cons_succ, List.set_cons_zero]
  refine wpFree_farith rfl rfl rfl rfl rfl (fun r60 h60 f60 => ?_)
  simp only [Act.put, List.setIfInBounds_toArray, List.set_cons_succ, List.set_cons_zero]
  refine wpFree_farith rfl rfl rfl rfl rfl (fun r61 h61 f61 => ?_)
  simp only [Act.put, List.setIfInBounds_toArray, List.set_cons_succ, List.set_cons_zero]
  refine wpFree_one rfl (.float .f32 r61) (fun w1 _ => by kernel_rfl) ?_
  simp only [Act.put, List.setIfInBounds_toArray, List.set_cons_succ, List.set_cons_zero]
  refine wpFree_nil (fun w3 hw3 _ => ?_)
  replace U := hid ((U.out.le (le_drewN _ 1)).le hw3)
  replace F := Frm.one (((F.drewN 1).le hw3).row List.mem_cons_self)
  clear hw3 c0 c1 c2 c3 c4 c5
  have e : can .f32 r61 = outF 1 a b c x 0 s := (by rw [h61.out]; exact fop_congr (h53.out.trans (can_fop _ _ _ _).symm) (h60.out.trans (can_fop _ _ _ _).symm))
  have hf := f61
  replace e := hid e
  go_wp2
  refine region_tail (fun _ _ _ v => v = .float .f32 (kept r61)) 6 (by kernel_rfl) (by kernel_rfl) ?_
  simp only [List.take_succ_cons, List.take_zero, List.drop_succ_cons, List.drop_zero]
  refine wpFree_one rfl (.pointer (some ⟨g, 0, none⟩)) (fun w1 _ => by kernel_rfl) ?_
  simp only [Act.put, List.setIfInBounds_toArray, List.set_cons_succ, List.set_cons_zero]
  refine wpFree_one rfl (.float .f32 r61) (fun w1 _ => by kernel_rfl) ?_
  simp only [Act.put, List.setIfInBounds_toArray, List.set_cons_succ, List.set_cons_zero]
  refine wpFree_call rfl rfl Try.func89 (by kernel_rfl) (by kernel_rfl) (args := #[.float .f32 r61]) (by simp [Act.eval]) (fun _ _ _ _ h => h) (fun w1 _ => (s_Kept r61 w1 hf.out).mono ?_) ?_
  · rintro e w2 ⟨rfl, n, rfl⟩
    exact ⟨_, rfl, le_drewN _ n, rfl⟩
  rintro v ⟨_, _, rfl⟩
  simp only [Act.put, List.setIfInBounds_toArray, List.set_cons_succ, List.set_cons_zero]
  refine wpFree_one rfl (.pointer (some ⟨g, 0, none⟩)) (fun w1 _ => by kernel_rfl) ?_
  simp only [Act.put, List.setIfInBounds_toArray, List.set_cons_succ, List.set_cons_zero]
  refine wpFree_one rfl (.pointer (some ⟨g, 4, none⟩)) (fun w1 _ => by kernel_rfl) ?_
  simp only [Act.put, List.setIfInBounds_toArray, List.set_cons_succ, List.set_cons_zero]
  refine wpFree_one rfl (.pointer (some ⟨g, 4, none⟩)) (fun w1 _ => by kernel_rfl) ?_
  simp only [Act.put, List.setIfInBounds_toArray, List.set_cons_succ, List.set_cons_zero]
  refine wpFree_nil (fun w5 hw5 _ => ?_)
  have RR := ((F.drewN 1).le hw5).row List.mem_cons_self
  replace U := hid (((U.out.le (le_drewN _ 1)).le hw5).setCell (a := ⟨g, 4, none⟩) rfl (.float .f32 (kept r61)))
  have cc := RR.cell? 4
  have ff := RR.frozen 4
  have RN := RR.set 4 (.float .f32 (kept r61))
  replace RN : Row (w5.setCell ⟨g, 4, none⟩ (.float .f32 (kept r61))) g 28 (#[.int .i64 1, .float .f32 a, .float .f32 b, .float .f32 c, .float .f32 (kept r61), .float .f32 0] : Array Value) := by simpa using RN
  replace RR := hid RR
  clear hw5 F
  have F := Frm.one RN
  clear RN
  have RN := hid (F.row List.mem_cons_self)
  clear F
  go_wp2
  go_ret
  refine ⟨_, rfl, e.out, hf.out, ?_, U.out⟩
  have e0 : (kept r61) = st0 1 a b c x 0 s := by exact kept_can (e.out.trans (can_outF _ _ _ _ _ _ _).symm)
  have e1 : 0 = st1 1 a b c x 0 s := by rfl
  rw [← e0, ← e1]
  exact RN.out
set_option maxRecDepth 100000 in
set_option maxHeartbeats 2000000 in
theorem s_Step2 (a b c x y s g : Nat) (w : World) (R : Row w g 28 (#[.int .i64 2, .float .f32 a, .float .f32 b, .float .f32 c, .float .f32 x, .float .f32 y] : Array Value)) (hx : fits .f32 x) (hs : fits .f32 s) (hy : y = 0) :
    Calls Try.prog 58 #[.pointer (some ⟨g, 0, none⟩), .float .f32 s] w (OutS 2 a b c x y s g 28 (fun u v => (#[.int .i64 2, .float .f32 a, .float .f32 b, .float .f32 c, .float .f32 u, .float .f32 v] : Array Value)) w) := by
  subst hy
  have Hx := hid hx; have Hs := hid hs; clear hx hs
  have F := Frm.one R
  have U := hid (Upd.refl g w)
  obtain ⟨c0, c1, c2, c3, c4, c5⟩ := R.six
  clear R
  go_enter Try.func58, Try.ntmps58
  go_wp2
  refine region_free (fun _ _ _ _ => True) (by kernel_rfl) (by kernel_rfl) ?_
  refine wpFree_one rfl (.pointer (some ⟨g, 0, none⟩)) (fun w1 _ => by kernel_rfl) ?_
  simp only [Act.put, List.setIfInBounds_toArray, List.set_cons_succ, List.set_cons_zero]
  refine wpFree_one rfl (.pointer (some ⟨g, 0, none⟩)) (fun w1 _ => by kernel_rfl) ?_
  simp only [Act.put, List.setIfInBounds_toArray, List.set_cons_succ, List.set_cons_zero]
  refine wpFree_one rfl (.pointer (some ⟨g, 1, none⟩)) (fun w1 _ => by kernel_rfl) ?_
  simp only [Act.put, List.setIfInBounds_toArray, List.set_cons_succ, List.set_cons_zero]
  refine wpFree_one rfl (.pointer (some ⟨g, 1, none⟩)) (fun w1 _ => by kernel_rfl) ?_
  simp only [Act.put, List.setIfInBounds_toArray, List.set_cons_succ, List.set_cons_zero]
  refine wpFree_loadF F rfl rfl rfl rfl List.mem_cons_self rfl Try.underlying22 ?_
  simp only [Act.put, List.setIfInBounds_toArray, List.set_cons_succ, List.set_cons_zero]
  refine wpFree_one rfl (.float .f32 s) (fun w1 _ => by kernel_rfl) ?_
  simp only [Act.put, List.setIfInBounds_toArray, List.set_cons_succ, List.set_cons_zero]
  refine wpFree_farith rfl rfl rfl rfl rfl (fun r76 h76 f76 => ?_)
  simp only [Act.put, List.setIfInBounds_toArray, List.set_cons_succ, List.set_cons_zero]
  refine wpFree_one rfl (.pointer (some ⟨g, 0, none⟩)) (fun w1 _ => by kernel_rfl) ?_
  simp only [Act.put, List.setIfInBounds_toArray, List.set_cons_succ, List.set_cons_zero]
  refine wpFree_one rfl (.pointer (some ⟨g, 0, none⟩)) (fun w1 _ => by kernel_rfl) ?_
  simp only [Act.put, List.setIfInBounds_toArray, List.set_cons_succ, List.set_cons_zero]
  refine wpFree_one rfl (.pointer (some ⟨g, 1, none⟩)) (fun w1 _ => by kernel_rfl) ?_
  simp only [Act.put, List.setIfInBounds_toArray, List.set_cons_succ, List.set_cons_zero]
  refine wpFree_one rfl (.pointer (some ⟨g, 1 + 1, none⟩)) (fun w1 _ => by kernel_rfl) ?_
  simp only [Act.put, List.setIfInBounds_toArray, List.set_cons_succ, List.set_cons_zero]
  refine wpFree_loadF F rfl rfl rfl rfl List.mem_cons_self rfl Try.underlying22 ?_
  simp only [Act.put, List.setIfInBounds_toArray, List.set_cons_succ, List.set_cons_zero]
  refine wpFree_one rfl (.float .f32 x) (fun w1 _ => by kernel_rfl) ?_
  simp only [Act.put, List.setIfInBounds_toArray, List.set_cons_succ, List.set_cons_zero]
  refine wpFree_farith rfl rfl rfl rfl rfl (fun r83 h83 f83 => ?_)
  simp only [Act.put, List.setIfInBounds_toArray, List.set_cons_succ, List.set_cons_zero]
  refine wpFree_farith rfl rfl rfl rfl rfl (fun r84 h84 f84 => ?_)
  simp only [Act.put, List.setIfInBounds_toArray, List.set_cons_succ, List.set_cons_zero]
  refine wpFree_one rfl (.float .f32 r84) (fun w1 _ => by kernel_rfl) ?_
  simp only [Act.put, List.setIfInBounds_toArray, List.set_cons_succ, List.set_cons_zero]
  refine wpFree_nil (fun w3 hw3 _ => ?_)
  replace U := hid ((U.out.le (le_drewN _ 1)).le hw3)
  replace F := Frm.one (((F.drewN 1).le hw3).row List.mem_cons_self)
  clear hw3 c0 c1 c2 c3 c4 c5
  have e : can .f32 r84 = outF 2 a b c x 0 s := (by rw [h84.out]; exact fop_congr (h76.out.trans (can_fop _ _ _ _).symm) (h83.out.trans (can_fop _ _ _ _).symm))
  have hf := f84
  replace e := hid e
  go_wp2
  refine region_tail (fun _ _ _ v => v = .float .f32 (kept s)) 6 (by kernel_rfl) (by kernel_rfl) ?_
  simp only [List.take_succ_cons, List.take_zero, List.drop_succ_cons, List.drop_zero]
  refine wpFree_one rfl (.pointer (some ⟨g, 0, none⟩)) (fun w1 _ => by kernel_rfl) ?_
  simp only [Act.put, List.setIfInBounds_toArray, List.set_cons_succ, List.set_cons_zero]
  refine wpFree_one rfl (.float .f32 s) (fun w1 _ => by kernel_rfl) ?_
  simp only [Act.put, List.setIfInBounds_toArray, List.set_cons_succ, List.set_cons_zero]
  refine wpFree_call rfl rfl Try.func89 (by kernel_rfl) (by kernel_rfl) (args := #[.float .f32 s]) (by simp [Act.eval]) (fun _ _ _ _ h => h) (fun w1 _ => (s_Kept s w1 Hs.out).mono ?_) ?_
  · rintro e w2 ⟨rfl, n, rfl⟩
    exact ⟨_, rfl, le_drewN _ n, rfl⟩
  rintro v ⟨_, _, rfl⟩
  simp only [Act.put, List.setIfInBounds_toArray, List.set_cons_succ, List.set_cons_zero]
  refine wpFree_one rfl (.pointer (some ⟨g, 0, none⟩)) (fun w1 _ => by kernel_rfl) ?_
  simp only [Act.put, List.setIfInBounds_toArray, List.set_cons_succ, List.set_cons_zero]
  refine wpFree_one rfl (.pointer (some ⟨g, 4, none⟩)) (fun w1 _ => by kernel_rfl) ?_
  simp only [Act.put, List.setIfInBounds_toArray, List.set_cons_succ, List.set_cons_zero]
  refine wpFree_one rfl (.pointer (some ⟨g, 4, none⟩)) (fun w1 _ => by kernel_rfl) ?_
  simp only [Act.put, List.setIfInBounds_toArray, List.set_cons_succ, List.set_cons_zero]
  refine wpFree_nil (fun w5 hw5 _ => ?_)
  have RR := ((F.drewN 1).le hw5).row List.mem_cons_self
  replace U := hid (((U.out.le (le_drewN _ 1)).le hw5).setCell (a := ⟨g, 4, none⟩) rfl (.float .f32 (kept s)))
  have cc := RR.cell? 4
  have ff := RR.frozen 4
  have RN := RR.set 4 (.float .f32 (kept s))
  replace RN : Row (w5.setCell ⟨g, 4, none⟩ (.float .f32 (kept s))) g 28 (#[.int .i64 2, .float .f32 a, .float .f32 b, .float .f32 c, .float .f32 (kept s), .float .f32 0] : Array Value) := by simpa using RN
  replace RR := hid RR
  clear hw5 F
  have F := Frm.one RN
  clear RN
  have RN := hid (F.row List.mem_cons_self)
  clear F
  go_wp2
  go_ret
  refine ⟨_, rfl, e.out, hf.out, ?_, U.out⟩
  have e0 : (kept s) = st0 2 a b c x 0 s := by rfl
  have e1 : 0 = st1 2 a b c x 0 s := by rfl
  rw [← e0, ← e1]
  exact RN.out
set_option maxRecDepth 100000 in
set_option maxHeartbeats 2000000 in
theorem s_Step3 (a b c x y s g : Nat) (w : World) (R : Row w g 28 (#[.int .i64 3, .float .f32 a, .float .f32 b, .float .f32 c, .float .f32 x, .float .f32 y] : Array Value)) (hx : fits .f32 x) (hs : fits .f32 s) :
    Calls Try.prog 58 #[.pointer (some ⟨g, 0, none⟩), .float .f32 s] w (OutS 3 a b c x y s g 28 (fun u v => (#[.int .i64 3, .float .f32 a, .float .f32 b, .float .f32 c, .float .f32 u, .float .f32 v] : Array Value)) w) := by
  have Hx := hid hx; have Hs := hid hs; clear hx hs
  have F := Frm.one R
  have U := hid (Upd.refl g w)
  obtain ⟨c0, c1, c2, c3, c4, c5⟩ := R.six
  clear R
  go_enter Try.func58, Try.ntmps58
  go_wp2_with (with_reducible refine wpList_farith rfl rfl rfl rfl rfl ?_; intro r n hr hf)
  rename_i r1 n1 h1 f1 r2 n2 h2 f2 KK aa
  clear c0 c1 c2 c3 c4 c5
  have e : can .f32 r = outF 3 a b c x y s := (by rw [hr.out]; exact fop_congr (h2.out.trans ((fop_congr rfl (h1.out.trans (can_fop _ _ _ _).symm)).trans (can_fop _ _ _ _).symm)) rfl)
  replace U := hid (U.out.le (le_drewN _ (n1 + n2 + n)))
  replace F := Frm.one ((F.drewN (n1 + n2 + n)).row List.mem_cons_self)
  replace e := hid e
  refine region_tail (fun _ _ _ v => v = .float .f32 (kept s)) 6 (by kernel_rfl) (by kernel_rfl) ?_
  simp only [List.take_succ_cons, List.take_zero, List.drop_succ_cons, List.drop_zero]
  refine wpFree_one rfl (.pointer (some ⟨g, 0, none⟩)) (fun w1 _ => by kernel_rfl) ?_
  simp only [Act.put, List.setIfInBounds_toArray, List.set_cons_succ, List.set_cons_zero]
  refine wpFree_one rfl (.float .f32 s) (fun w1 _ => by kernel_rfl) ?_
  simp only [Act.put, List.setIfInBounds_toArray, List.set_cons_succ, List.set_cons_zero]
  refine wpFree_call rfl rfl Try.func89 (by kernel_rfl) (by kernel_rfl) (args := #[.float .f32 s]) (by simp [Act.eval]) (fun _ _ _ _ h => h) (fun w1 _ => (s_Kept s w1 Hs.out).mono ?_) ?_
  · rintro e w2 ⟨rfl, n, rfl⟩
    exact ⟨_, rfl, le_drewN _ n, rfl⟩
  rintro v ⟨_, _, rfl⟩
  simp only [Act.put, List.setIfInBounds_toArray, List.set_cons_succ, List.set_cons_zero]
  refine wpFree_one rfl (.pointer (some ⟨g, 0, none⟩)) (fun w1 _ => by kernel_rfl) ?_
  simp only [Act.put, List.setIfInBounds_toArray, List.set_cons_succ, List.set_cons_zero]
  refine wpFree_one rfl (.pointer (some ⟨g, 4, none⟩)) (fun w1 _ => by kernel_rfl) ?_
  simp only [Act.put, List.setIfInBounds_toArray, List.set_cons_succ, List.set_cons_zero]
  refine wpFree_one rfl (.pointer (some ⟨g, 4, none⟩)) (fun w1 _ => by kernel_rfl) ?_
  simp only [Act.put, List.setIfInBounds_toArray, List.set_cons_succ, List.set_cons_zero]
  refine wpFree_nil (fun w5 hw5 _ => ?_)
  have RR := ((F.drewN 1).le hw5).row List.mem_cons_self
  replace U := hid (((U.out.le (le_drewN _ 1)).le hw5).setCell (a := ⟨g, 4, none⟩) rfl (.float .f32 (kept s)))
  have cc := RR.cell? 4
  have ff := RR.frozen 4
  have RN := RR.set 4 (.float .f32 (kept s))
  replace RN : Row (w5.setCell ⟨g, 4, none⟩ (.float .f32 (kept s))) g 28 (#[.int .i64 3, .float .f32 a, .float .f32 b, .float .f32 c, .float .f32 (kept s), .float .f32 y] : Array Value) := by simpa using RN
  replace RR := hid RR
  clear hw5 F
  have F := Frm.one RN
  clear RN
  go_wp2
  refine region_tail (fun _ _ _ v => v = .float .f32 (kept r)) 6 (by kernel_rfl) (by kernel_rfl) ?_
  simp only [List.take_succ_cons, List.take_zero, List.drop_succ_cons, List.drop_zero]
  refine wpFree_one rfl (.pointer (some ⟨g, 0, none⟩)) (fun w1 _ => by kernel_rfl) ?_
  simp only [Act.put, List.setIfInBounds_toArray, List.set_cons_succ, List.set_cons_zero]
  refine wpFree_one rfl (.float .f32 r) (fun w1 _ => by kernel_rfl) ?_
  simp only [Act.put, List.setIfInBounds_toArray, List.set_cons_succ, List.set_cons_zero]
  refine wpFree_call rfl rfl Try.func89 (by kernel_rfl) (by kernel_rfl) (args := #[.float .f32 r]) (by simp [Act.eval]) (fun _ _ _ _ h => h) (fun w1 _ => (s_Kept r w1 hf.out).mono ?_) ?_
  · rintro e w2 ⟨rfl, n, rfl⟩
    exact ⟨_, rfl, le_drewN _ n, rfl⟩
  rintro v ⟨_, _, rfl⟩
  simp only [Act.put, List.setIfInBounds_toArray, List.set_cons_succ, List.set_cons_zero]
  refine wpFree_one rfl (.pointer (some ⟨g, 0, none⟩)) (fun w1 _ => by kernel_rfl) ?_
  simp only [Act.put, List.setIfInBounds_toArray, List.set_cons_succ, List.set_cons_zero]
  refine wpFree_one rfl (.pointer (some ⟨g, 4, none⟩)) (fun w1 _ => by kernel_rfl) ?_
  simp only [Act.put, List.setIfInBounds_toArray, List.set_cons_succ, List.set_cons_zero]
  refine wpFree_one rfl (.pointer (some ⟨g, 4 + 1, none⟩)) (fun w1 _ => by kernel_rfl) ?_
  simp only [Act.put, List.setIfInBounds_toArray, List.set_cons_succ, List.set_cons_zero]
  refine wpFree_nil (fun w5 hw5 _ => ?_)
  have RR := ((F.drewN 1).le hw5).row List.mem_cons_self
  replace U := hid (((U.out.le (le_drewN _ 1)).le hw5).setCell (a := ⟨g, 5, none⟩) rfl (.float .f32 (kept r)))
  have cc := RR.cell? 5
  have ff := RR.frozen 5
  have RN := RR.set 5 (.float .f32 (kept r))
  replace RN : Row (w5.setCell ⟨g, 5, none⟩ (.float .f32 (kept r))) g 28 (#[.int .i64 3, .float .f32 a, .float .f32 b, .float .f32 c, .float .f32 (kept s), .float .f32 (kept r)] : Array Value) := by simpa using RN
  replace RR := hid RR
  clear hw5 F
  have F := Frm.one RN
  clear RN
  have RN := hid (F.row List.mem_cons_self)
  clear F
  go_wp2
  go_ret
  refine ⟨_, rfl, e.out, hf.out, ?_, U.out⟩
  have e0 : (kept s) = st0 3 a b c x y s := by rfl
  have e1 : (kept r) = st1 3 a b c x y s := by exact kept_can (e.out.trans (can_outF _ _ _ _ _ _ _).symm)
  rw [← e0, ← e1]
  exact RN.out
set_option maxRecDepth 100000 in
set_option maxHeartbeats 2000000 in
theorem s_Step4 (a b c x y s g : Nat) (w : World) (R : Row w g 28 (#[.int .i64 4, .float .f32 a, .float .f32 b, .float .f32 c, .float .f32 x, .float .f32 y] : Array Value)) (hx : fits .f32 x) (hs : fits .f32 s) :
    Calls Try.prog 58 #[.pointer (some ⟨g, 0, none⟩), .float .f32 s] w (OutS 4 a b c x y s g 28 (fun u v => (#[.int .i64 4, .float .f32 a, .float .f32 b, .float .f32 c, .float .f32 u, .float .f32 v] : Array Value)) w) := by
  have Hx := hid hx; have Hs := hid hs; clear hx hs
  have F := Frm.one R
  have U := hid (Upd.refl g w)
  obtain ⟨c0, c1, c2, c3, c4, c5⟩ := R.six
  clear R
  go_enter Try.func58, Try.ntmps58
  go_wp2
  refine region_free (fun _ _ _ _ => True) (by kernel_rfl) (by kernel_rfl) ?_
  refine wpFree_one rfl (.pointer (some ⟨g, 0, none⟩)) (fun w1 _ => by kernel_rfl) ?_
  simp only [Act.put, List.setIfInBounds_toArray, List.set_cons_succ, List.set_cons_zero]
  refine wpFree_one rfl (.pointer (some ⟨g, 0, none⟩)) (fun w1 _ => by kernel_rfl) ?_
  simp only [Act.put, List.setIfInBounds_toArray, List.set_cons_succ, List.set_cons_zero]
  refine wpFree_one rfl (.pointer (some ⟨g, 1, none⟩)) (fun w1 _ => by kernel_rfl) ?_
  simp only [Act.put, List.setIfInBounds_toArray, List.set_cons_succ, List.set_cons_zero]
  refine wpFree_one rfl (.pointer (some ⟨g, 1, none⟩)) (fun w1 _ => by kernel_rfl) ?_
  simp only [Act.put, List.setIfInBounds_toArray, List.set_cons_succ, List.set_cons_zero]
  refine wpFree_loadF F rfl rfl rfl rfl List.mem_cons_self rfl Try.underlying22 ?_
  simp only [Act.put, List.setIfInBounds_toArray, List.set_cons_succ, List.set_cons_zero]
  refine wpFree_one rfl (.float .f32 s) (fun w1 _ => by kernel_rfl) ?_
  simp only [Act.put, List.setIfInBounds_toArray, List.set_cons_succ, List.set_cons_zero]
  refine wpFree_farith rfl rfl rfl rfl rfl (fun r124 h124 f124 => ?_)
  simp only [Act.put, List.setIfInBounds_toArray, List.set_cons_succ, List.set_cons_zero]
  refine wpFree_one rfl (.pointer (some ⟨g, 0, none⟩)) (fun w1 _ => by kernel_rfl) ?_
  simp only [Act.put, List.setIfInBounds_toArray, List.set_cons_succ, List.set_cons_zero]
  refine wpFree_one rfl (.pointer (some ⟨g, 0, none⟩)) (fun w1 _ => by kernel_rfl) ?_
  simp only [Act.put, List.setIfInBounds_toArray, List.set_cons_succ, List.set_cons_zero]
  refine wpFree_one rfl (.pointer (some ⟨g, 1, none⟩)) (fun w1 _ => by kernel_rfl) ?_
  simp only [Act.put, List.setIfInBounds_toArray, List.set_cons_succ, List.set_cons_zero]
  refine wpFree_one rfl (.pointer (some ⟨g, 1 + 1, none⟩)) (fun w1 _ => by kernel_rfl) ?_
  simp only [Act.put, List.setIfInBounds_toArray, List.set_cons_succ, List.set_cons_zero]
  refine wpFree_loadF F rfl rfl rfl rfl List.mem_cons_self rfl Try.underlying22 ?_
  simp only [Act.put, List.setIfInBounds_toArray, List.set_cons_succ, List.set_cons_zero]
  refine wpFree_one rfl (.float .f32 x) (fun w1 _ => by kernel_rfl) ?_
  simp only [Act.put, List.setIfInBounds_toArray, List.set_cons_succ, List.set_cons_zero]
  refine wpFree_farith rfl rfl rfl rfl rfl (fun r131 h131 f131 => ?_)
  simp only [Act.put, List.setIfInBounds_toArray, List.set_cons_succ, List.set_cons_zero]
  refine wpFree_farith rfl rfl rfl rfl rfl (fun r132 h132 f132 => ?_)
  simp only [Act.put, List.setIfInBounds_toArray, List.set_cons_succ, List.set_cons_zero]
  refine wpFree_one rfl (.pointer (some ⟨g, 0, none⟩)) (fun w1 _ => by kernel_rfl) ?_
  simp only [Act.put, List.setIfInBounds_toArray, List.set_cons_succ, List.set_cons_zero]
  refine wpFree_one rfl (.pointer (some ⟨g, 0, none⟩)) (fun w1 _ => by kernel_rfl) ?_
  simp only [Act.put, List.setIfInBounds_toArray, List.set_cons_succ, List.set_cons_zero]
  refine wpFree_one rfl (.pointer (some ⟨g, 1, none⟩)) (fun w1 _ => by kernel_rfl) ?_
  simp only [Act.put, List.setIfInBounds_toArray, List.set_cons_succ, List.set_cons_zero]
  refine wpFree_one rfl (.pointer (some ⟨g, 1 + 2, none⟩)) (fun w1 _ => by kernel_rfl) ?_
  simp only [Act.put, List.setIfInBounds_toArray, List.set_cons_succ, List.set_cons_zero]
  refine wpFree_loadF F rfl rfl rfl rfl List.mem_cons_self rfl Try.underlying22 ?_
  simp only [Act.put, List.setIfInBounds_toArray, List.set_cons_succ, List.set_cons_zero]
  refine wpFree_one rfl (.float .f32 y) (fun w1 _ => by kernel_rfl) ?_
  simp only [Act.put, List.setIfInBounds_toArray, List.set_cons_succ, List.set_cons_zero]
  refine wpFree_farith rfl rfl rfl rfl rfl (fun r139 h139 f139 => ?_)
  simp only [Act.put, List.setIfInBounds_toArray, List.set_cons_succ, List.set_cons_zero]
  refine wpFree_farith rfl rfl rfl rfl rfl (fun r140 h140 f140 => ?_)
  simp only [Act.put, List.setIfInBounds_toArray, List.set_cons_succ, List.set_cons_zero]
  refine wpFree_one rfl (.float .f32 r140) (fun w1 _ => by kernel_rfl) ?_
  simp only [Act.put, List.setIfInBounds_toArray, List.set_cons_succ, List.set_cons_zero]
  refine wpFree_nil (fun w3 hw3 _ => ?_)
  replace U := hid ((U.out.le (le_drewN _ 1)).le hw3)
  replace F := Frm.one (((F.drewN 1).le hw3).row List.mem_cons_self)
  clear hw3 c0 c1 c2 c3 c4 c5
  have e : can .f32 r140 = outF 4 a b c x y s := (by rw [h140.out]; exact fop_congr (h132.out.trans ((fop_congr (h124.out.trans (can_fop _ _ _ _).symm) (h131.out.trans (can_fop _ _ _ _).symm)).trans (can_fop _ _ _ _).symm)) (h139.out.trans (can_fop _ _ _ _).symm))
  have hf := f140
  replace e := hid e
  go_wp2
  refine region_tail (fun _ _ _ v => v = .float .f32 (kept x)) 6 (by kernel_rfl) (by kernel_rfl) ?_
  simp only [List.take_succ_cons, List.take_zero, List.drop_succ_cons, List.drop_zero]
  refine wpFree_one rfl (.pointer (some ⟨g, 0, none⟩)) (fun w1 _ => by kernel_rfl) ?_
  simp only [Act.put, List.setIfInBounds_toArray, List.set_cons_succ, List.set_cons_zero]
  refine wpFree_one rfl (.float .f32 x) (fun w1 _ => by kernel_rfl) ?_
  simp only [Act.put, List.setIfInBounds_toArray, List.set_cons_succ, List.set_cons_zero]
  refine wpFree_call rfl rfl Try.func89 (by kernel_rfl) (by kernel_rfl) (args := #[.float .f32 x]) (by simp [Act.eval]) (fun _ _ _ _ h => h) (fun w1 _ => (s_Kept x w1 Hx.out).mono ?_) ?_
  · rintro e w2 ⟨rfl, n, rfl⟩
    exact ⟨_, rfl, le_drewN _ n, rfl⟩
  rintro v ⟨_, _, rfl⟩
  simp only [Act.put, List.setIfInBounds_toArray, List.set_cons_succ, List.set_cons_zero]
  refine wpFree_one rfl (.pointer (some ⟨g, 0, none⟩)) (fun w1 _ => by kernel_rfl) ?_
  simp only [Act.put, List.setIfInBounds_toArray, List.set_cons_succ, List.set_cons_zero]
  refine wpFree_one rfl (.pointer (some ⟨g, 4, none⟩)) (fun w1 _ => by kernel_rfl) ?_
  simp only [Act.put, List.setIfInBounds_toArray, List.set_cons_succ, List.set_cons_zero]
  refine wpFree_one rfl (.pointer (some ⟨g, 4 + 1, none⟩)) (fun w1 _ => by kernel_rfl) ?_
  simp only [Act.put, List.setIfInBounds_toArray, List.set_cons_succ, List.set_cons_zero]
  refine wpFree_nil (fun w5 hw5 _ => ?_)
  have RR := ((F.drewN 1).le hw5).row List.mem_cons_self
  replace U := hid (((U.out.le (le_drewN _ 1)).le hw5).setCell (a := ⟨g, 5, none⟩) rfl (.float .f32 (kept x)))
  have cc := RR.cell? 5
  have ff := RR.frozen 5
  have RN := RR.set 5 (.float .f32 (kept x))
  replace RN : Row (w5.setCell ⟨g, 5, none⟩ (.float .f32 (kept x))) g 28 (#[.int .i64 4, .float .f32 a, .float .f32 b, .float .f32 c, .float .f32 x, .float .f32 (kept x)] : Array Value) := by simpa using RN
  replace RR := hid RR
  clear hw5 F
  have F := Frm.one RN
  clear RN
  go_wp2
  refine region_tail (fun _ _ _ v => v = .float .f32 (kept r140)) 6 (by kernel_rfl) (by kernel_rfl) ?_
  simp only [List.take_succ_cons, List.take_zero, List.drop_succ_cons, List.drop_zero]
  refine wpFree_one rfl (.pointer (some ⟨g, 0, none⟩)) (fun w1 _ => by kernel_rfl) ?_
  simp only [Act.put, List.setIfInBounds_toArray, List.set_cons_succ, List.set_cons_zero]
  refine wpFree_one rfl (.float .f32 r140) (fun w1 _ => by kernel_rfl) ?_
  simp only [Act.put, List.setIfInBounds_toArray, List.set_cons_succ, List.set_cons_zero]
  refine wpFree_call rfl rfl Try.func89 (by kernel_rfl) (by kernel_rfl) (args := #[.float .f32 r140]) (by simp [Act.eval]) (fun _ _ _ _ h => h) (fun w1 _ => (s_Kept r140 w1 hf.out).mono ?_) ?_
  · rintro e w2 ⟨rfl, n, rfl⟩
    exact ⟨_, rfl, le_drewN _ n, rfl⟩
  rintro v ⟨_, _, rfl⟩
  simp only [Act.put, List.setIfInBounds_toArray, List.set_cons_succ, List.set_cons_zero]
  refine wpFree_one rfl (.pointer (some ⟨g, 0, none⟩)) (fun w1 _ => by kernel_rfl) ?_
  simp only [Act.put, List.setIfInBounds_toArray, List.set_cons_succ, List.set_cons_zero]
  refine wpFree_one rfl (.pointer (some ⟨g, 4, none⟩)) (fun w1 _ => by kernel_rfl) ?_
  simp only [Act.put, List.setIfInBounds_toArray, List.set_cons_succ, List.set_cons_zero]
  refine wpFree_one rfl (.pointer (some ⟨g, 4, none⟩)) (fun w1 _ => by kernel_rfl) ?_
  simp only [Act.put, List.setIfInBounds_toArray, List.set_cons_succ, List.set_cons_zero]
  refine wpFree_nil (fun w5 hw5 _ => ?_)
  have RR := ((F.drewN 1).le hw5).row List.mem_cons_self
  replace U := hid (((U.out.le (le_drewN _ 1)).le hw5).setCell (a := ⟨g, 4, none⟩) rfl (.float .f32 (kept r140)))
  have cc := RR.cell? 4
  have ff := RR.frozen 4
  have RN := RR.set 4 (.float .f32 (kept r140))
  replace RN : Row (w5.setCell ⟨g, 4, none⟩ (.float .f32 (kept r140))) g 28 (#[.int .i64 4, .float .f32 a, .float .f32 b, .float .f32 c, .float .f32 (kept r140), .float .f32 (kept x)] : Array Value) := by simpa using RN
  replace RR := hid RR
  clear hw5 F
  have F := Frm.one RN
  clear RN
  have RN := hid (F.row List.mem_cons_self)
  clear F
  go_wp2
  go_ret
  refine ⟨_, rfl, e.out, hf.out, ?_, U.out⟩
  have e0 : (kept r140) = st0 4 a b c x y s := by exact kept_can (e.out.trans (can_outF _ _ _ _ _ _ _).symm)
  have e1 : (kept x) = st1 4 a b c x y s := by rfl
  rw [← e0, ← e1]
  exact RN.out
set_option maxRecDepth 100000 in
set_option maxHeartbeats 2000000 in
theorem s_Step5 (a b c x y s g : Nat) (w : World) (R : Row w g 28 (#[.int .i64 5, .float .f32 a, .float .f32 b, .float .f32 c, .float .f32 x, .float .f32 y] : Array Value)) (hx : fits .f32 x) (hs : fits .f32 s) :
    Calls Try.prog 58 #[.pointer (some ⟨g, 0, none⟩), .float .f32 s] w (OutS 5 a b c x y s g 28 (fun u v => (#[.int .i64 5, .float .f32 a, .float .f32 b, .float .f32 c, .float .f32 u, .float .f32 v] : Array Value)) w) := by
  have Hx := hid hx; have Hs := hid hs; clear hx hs
  have F := Frm.one R
  have U := hid (Upd.refl g w)
  obtain ⟨c0, c1, c2, c3, c4, c5⟩ := R.six
  clear R
  go_enter Try.func58, Try.ntmps58
  go_wp2_with (with_reducible refine wpList_farith rfl rfl rfl rfl rfl ?_; intro r n hr hf)
  rename_i r1 n1 h1 f1 r2 n2 h2 f2 KK aa
  clear c0 c1 c2 c3 c4 c5
  have e : can .f32 r = outF 5 a b c x y s := (by rw [hr.out]; exact fop_congr (h1.out.trans (can_fop _ _ _ _).symm) (h2.out.trans (can_fop _ _ _ _).symm))
  replace U := hid (U.out.le (le_drewN _ (n1 + n2 + n)))
  replace F := Frm.one ((F.drewN (n1 + n2 + n)).row List.mem_cons_self)
  replace e := hid e
  refine region_tail (fun _ _ _ v => v = .float .f32 (kept s)) 6 (by kernel_rfl) (by kernel_rfl) ?_
  simp only [List.take_succ_cons, List.take_zero, List.drop_succ_cons, List.drop_zero]
  refine wpFree_one rfl (.pointer (some ⟨g, 0, none⟩)) (fun w1 _ => by kernel_rfl) ?_
  simp only [Act.put, List.setIfInBounds_toArray, List.set_cons_succ, List.set_cons_zero]
  refine wpFree_one rfl (.float .f32 s) (fun w1 _ => by kernel_rfl) ?_
  simp only [Act.put, List.setIfInBounds_toArray, List.set_cons_succ, List.set_cons_zero]
  refine wpFree_call rfl rfl Try.func89 (by kernel_rfl) (by kernel_rfl) (args := #[.float .f32 s]) (by simp [Act.eval]) (fun _ _ _ _ h => h) (fun w1 _ => (s_Kept s w1 Hs.out).mono ?_) ?_
  · rintro e w2 ⟨rfl, n, rfl⟩
    exact ⟨_, rfl, le_drewN _ n, rfl⟩
  rintro v ⟨_, _, rfl⟩
  simp only [Act.put, List.setIfInBounds_toArray, List.set_cons_succ, List.set_cons_zero]
  refine wpFree_one rfl (.pointer (some ⟨g, 0, none⟩)) (fun w1 _ => by kernel_rfl) ?_
  simp only [Act.put, List.setIfInBounds_toArray, List.set_cons_succ, List.set_cons_zero]
  refine wpFree_one rfl (.pointer (some ⟨g, 4, none⟩)) (fun w1 _ => by kernel_rfl) ?_
  simp only [Act.put, List.setIfInBounds_toArray, List.set_cons_succ, List.set_cons_zero]
  refine wpFree_one rfl (.pointer (some ⟨g, 4, none⟩)) (fun w1 _ => by kernel_rfl) ?_
  simp only [Act.put, List.setIfInBounds_toArray, List.set_cons_succ, List.set_cons_zero]
  refine wpFree_nil (fun w5 hw5 _ => ?_)
  have RR := ((F.drewN 1).le hw5).row List.mem_cons_self
  replace U := hid (((U.out.le (le_drewN _ 1)).le hw5).setCell (a := ⟨g, 4, none⟩) rfl (.float .f32 (kept s)))
  have cc := RR.cell? 4
  have ff := RR.frozen 4
  have RN := RR.set 4 (.float .f32 (kept s))
  replace RN : Row (w5.setCell ⟨g, 4, none⟩ (.float .f32 (kept s))) g 28 (#[.int .i64 5, .float .f32 a, .float .f32 b, .float .f32 c, .float .f32 (kept s), .float .f32 y] : Array Value) := by simpa using RN
  replace RR := hid RR
  clear hw5 F
  have F := Frm.one RN
  clear RN
  go_wp2
  refine region_tail (fun _ _ _ v => v = .float .f32 (kept r)) 6 (by kernel_rfl) (by kernel_rfl) ?_
  simp only [List.take_succ_cons, List.take_zero, List.drop_succ_cons, List.drop_zero]
  refine wpFree_one rfl (.pointer (some ⟨g, 0, none⟩)) (fun w1 _ => by kernel_rfl) ?_
  simp only [Act.put, List.setIfInBounds_toArray, List.set_cons_succ, List.set_cons_zero]
  refine wpFree_one rfl (.float .f32 r) (fun w1 _ => by kernel_rfl) ?_
  simp only [Act.put, List.setIfInBounds_toArray, List.set_cons_succ, List.set_cons_zero]
  refine wpFree_call rfl rfl Try.func89 (by kernel_rfl) (by kernel_rfl) (args := #[.float .f32 r]) (by simp [Act.eval]) (fun _ _ _ _ h => h) (fun w1 _ => (s_Kept r w1 hf.out).mono ?_) ?_
  · rintro e w2 ⟨rfl, n, rfl⟩
    exact ⟨_, rfl, le_drewN _ n, rfl⟩
  rintro v ⟨_, _, rfl⟩
  simp only [Act.put, List.setIfInBounds_toArray, List.set_cons_succ, List.set_cons_zero]
  refine wpFree_one rfl (.pointer (some ⟨g, 0, none⟩)) (fun w1 _ => by kernel_rfl) ?_
  simp only [Act.put, List.setIfInBounds_toArray, List.set_cons_succ, List.set_cons_zero]
  refine wpFree_one rfl (.pointer (some ⟨g, 4, none⟩)) (fun w1 _ => by kernel_rfl) ?_
  simp only [Act.put, List.setIfInBounds_toArray, List.set_cons_succ, List.set_cons_zero]
  refine wpFree_one rfl (.pointer (some ⟨g, 4 + 1, none⟩)) (fun w1 _ => by kernel_rfl) ?_
  simp only [Act.put, List.setIfInBounds_toArray, List.set_cons_succ, List.set_cons_zero]
  refine wpFree_nil (fun w5 hw5 _ => ?_)
  have RR := ((F.drewN 1).le hw5).row List.mem_cons_self
  replace U := hid (((U.out.le (le_drewN _ 1)).le hw5).setCell (a := ⟨g, 5, none⟩) rfl (.float .f32 (kept r)))
  have cc := RR.cell? 5
  have ff := RR.frozen 5
  have RN := RR.set 5 (.float .f32 (kept r))
  replace RN : Row (w5.setCell ⟨g, 5, none⟩ (.float .f32 (kept r))) g 28 (#[.int .i64 5, .float .f32 a, .float .f32 b, .float .f32 c, .float .f32 (kept s), .float .f32 (kept r)] : Array Value) := by simpa using RN
  replace RR := hid RR
  clear hw5 F
  have F := Frm.one RN
  clear RN
  have RN := hid (F.row List.mem_cons_self)
  clear F
  go_wp2
  go_ret
  refine ⟨_, rfl, e.out, hf.out, ?_, U.out⟩
  have e0 : (kept s) = st0 5 a b c x y s := by rfl
  have e1 : (kept r) = st1 5 a b c x y s := by exact kept_can (e.out.trans (can_outF _ _ _ _ _ _ _).symm)
  rw [← e0, ← e1]
  exact RN.out
end Go.Proofs.Ytmacednkpjfokaa

/- 'StepFilter' of both. -/
namespace Go.Fk
open Go Go.RowKit
theorem zero_of_same {y : Nat} (h : sameB y 0 = true) : y = 0 := by
  have e : can .f32 y = can .f32 0 := by
    simp only [sameB, beq_iff_eq] at h
    exact_mod_cast h
  exact (eq_of_can e.symm (by decide)).symm
theorem okF_y {k : Int} {a b c x y : Nat} (h : okF k a b c x y = true) (hk : k = 1 ∨ k = 2) : y = 0 := by
  simp only [okF, Bool.and_eq_true] at h
  have h2 := h.2.2
  rw [show sU k = 1 by simp [sU, hk]] at h2
  simp only [usedB, List.all_eq_true, List.mem_range] at h2
  exact zero_of_same (h2 1 (by omega))
theorem part12 {v0 v1 v2 : Value} : ∀ j, j < [v1, v2].length → (#[v0, v1, v2] : Array Value)[1 + j]? = [v1, v2][j]? := by
  intro j hj
  match j, hj with
  | 0, _ => rfl
  | 1, _ => rfl
/-- What 'StepFilter' gives of a valid filter. -/
def OutSF (k : Int) (a b c x y s : Nat) (w : World) (e : Ending) (w' : World) : Prop := ∃ r, e = .returned (.tuple #[(.agg #[.int .i64 k, .float .f32 a, .float .f32 b, .float .f32 c, .float .f32 (st0 k a b c x y s), .float .f32 (st1 k a b c x y s)]), .float .f32 r, .int .i64 0]) ∧ can .f32 r = outF k a b c x y s ∧ le w w'
theorem fits_st0 {k : Int} {a b c x y s : Nat} (hs : fits .f32 s) (ho : fits .f32 (outF k a b c x y s)) : fits .f32 (st0 k a b c x y s) := by
  unfold st0; split; exact fits_kept ho; exact fits_kept hs
end Go.Fk
namespace Go.Proofs.Ytmacednkpjfokaa
open Go.RowKit Go.Fk
theorem i_step (k : Int) (a b c x y s g : Nat) (w : World) (hk : 1 ≤ k ∧ k ≤ 5) (R : Row w g 88 #[mdl k a b c, .float .f32 x, .float .f32 y]) (hx : fits .f32 x) (hs : fits .f32 s) :
    Calls Try.prog 100 #[.pointer (some ⟨g, 0, none⟩), .float .f32 s] w (OutS k a b c x y s g 88 (fun u v => #[mdl k a b c, .float .f32 u, .float .f32 v]) w) := by
  rcases (show k = 1 ∨ k = 2 ∨ k = 3 ∨ k = 4 ∨ k = 5 by omega) with rfl | rfl | rfl | rfl | rfl
  · simp only [mdl1] at R ⊢; exact i_step1 a b c x y s g w R hx hs
  · simp only [mdl2] at R ⊢; exact i_step2 a b c x y s g w R hx hs
  · simp only [mdl3] at R ⊢; exact i_step3 a b c x y s g w R hx hs
  · simp only [mdl4] at R ⊢; exact i_step4 a b c x y s g w R hx hs
  · simp only [mdl5] at R ⊢; exact i_step5 a b c x y s g w R hx hs
theorem s_Step (k : Int) (a b c x y s g : Nat) (w : World) (hv : okF k a b c x y = true) (R : Row w g 28 (#[.int .i64 k, .float .f32 a, .float .f32 b, .float .f32 c, .float .f32 x, .float .f32 y] : Array Value)) (hx : fits .f32 x) (hs : fits .f32 s) :
    Calls Try.prog 58 #[.pointer (some ⟨g, 0, none⟩), .float .f32 s] w (OutS k a b c x y s g 28 (fun u v => (#[.int .i64 k, .float .f32 a, .float .f32 b, .float .f32 c, .float .f32 u, .float .f32 v] : Array Value)) w) := by
  have hk := okF_kind hv
  rcases (show k = 1 ∨ k = 2 ∨ k = 3 ∨ k = 4 ∨ k = 5 by omega) with rfl | rfl | rfl | rfl | rfl
  · exact s_Step1 a b c x y s g w R hx hs (okF_y hv (.inl rfl))
  · exact s_Step2 a b c x y s g w R hx hs (okF_y hv (.inr rfl))
  · exact s_Step3 a b c x y s g w R hx hs
  · exact s_Step4 a b c x y s g w R hx hs
  · exact s_Step5 a b c x y s g w R hx hs
end Go.Proofs.Ytmacednkpjfokaa

/- Equality of arrays of floats. Nothing here names a program. -/
namespace Go.Fk
open Go Go.RowKit
theorem run_all_loop {P : Program} (w : World) (c : Nat → Bool) (g : Nat → Option Bool × Unit → Sem (ForInStep (Option Bool × Unit))) : ∀ (l : List Nat),
    (∀ i, i ∈ l → ∀ s, (g i s).run P w = .ok (if c i then ForInStep.yield (none, ()) else ForInStep.done (some false, ())) w) →
    (forIn l ((none, ()) : Option Bool × Unit) g).run P w = .ok (if l.all c then (none, ()) else (some false, ())) w := by
  intro l
  induction l with
  | nil => intro _; rfl
  | cons i l ih =>
    intro h
    rw [List.forIn_cons, Sem.run_bind, h i (by simp) (none, ()), Result.andThen_ok]
    cases hc : c i
    · simp [hc]
    · simp only [if_true, hc, List.all_cons, Bool.true_and]
      exact ih (fun j hj => h j (by simp [hj]))

theorem run_equalIn_farr {P : Program} (w : World) (d n : Nat) {t e : TypeId} {k : FloatKind} (x y : Nat → Nat) (h : P.underlying t = some (.array n e)) (he : P.underlying e = some (.float k)) (hs : (P.info? e).map (·.size) = some 1) :
    (Op.equalIn (d + 2) t (.agg (ftab k x n)) (.agg (ftab k y n))).run P w = .ok ((List.range n).all (fun j => k.format.order (x j) (y j) == some .eq)) w := by
  cases hq : P.info? e with
  | none => simp [hq] at hs
  | some i =>
    have hsz : i.size = 1 := by simpa [hq] using hs
    unfold Op.equalIn
    simp only [Sem.run_bind, run_underlying h, Result.andThen_ok, sizeOf, typeInfo, hq, hsz, Nat.mul_one, run_program, Sem.run_pure, Std.Legacy.Range.forIn_eq_forIn_range']
    have key := run_all_loop (P := P) w (fun j => k.format.order (x j) (y j) == some .eq) (fun i _ => (do
            let a ← part e (ftab k x n) i
            let b ← part e (ftab k y n) i
            let r ← Op.equalIn (d + 1) e a b
            if (!r) = true then pure (ForInStep.done (some false, ())) else pure (ForInStep.yield (none, ())) : Sem (ForInStep (Option Bool × Unit)))) (List.range' 0 n) (by
      intro j hj s
      have hjn : j < n := by simpa using hj
      have p1 : ∀ z : Nat → Nat, (part e (ftab k z n) j).run P w = .ok (.float k (z j)) w := by
        intro z
        simp [part, isAgg, run_underlying he, get_ftab k z n j hjn]
      have p2 : (Op.equalIn (d + 1) e (.float k (x j)) (.float k (y j))).run P w = .ok (k.format.order (x j) (y j) == some .eq) w := by
        simp [Op.equalIn, run_underlying he, Op.floatEq]
      simp only [Sem.run_bind, p1, p2, Result.andThen_ok]
      cases (k.format.order (x j) (y j) == some .eq) <;> simp)
    have hr : [:n].size = n := by simp [Std.Legacy.Range.size]
    rw [hr, key, Result.andThen_ok, List.range_eq_range']
    cases (List.range' 0 n).all (fun j => k.format.order (x j) (y j) == some .eq) <;> simp
/-- '==' on arrays of floats. -/
theorem run_eql_farr {P : Program} (w : World) (n : Nat) {t e : TypeId} {k : FloatKind} (x y : Nat → Nat) (h : P.underlying t = some (.array n e)) (he : P.underlying e = some (.float k)) (hs : (P.info? e).map (·.size) = some 1) :
    (binOp .eql t (.agg (ftab k x n)) (.agg (ftab k y n))).run P w = .ok (.bool ((List.range n).all (fun j => k.format.order (x j) (y j) == some .eq))) w := by
  rw [run_eql_struct, run_equalIn_farr w 9998 n x y h he hs]; rfl
end Go.Fk

/- Stillness: 'IsStill', 'StepsToStill' of both. -/
namespace Go.Fk
open Go Go.RowKit
def zeroF (x : Nat) : Bool := FloatKind.f32.format.order x 0 == some .eq
def stillB (x y : Nat) : Bool := zeroF x && zeroF y
theorem stillB_arr (x y : Nat) : (List.range 2).all (fun j => FloatKind.f32.format.order (duo x y j) 0 == some .eq) = stillB x y := by
  simp [stillB, zeroF, duo, List.range_succ]
end Go.Fk
namespace Go.Proofs.Ytmacednkpjfokaa
open Go.RowKit Go.Fk
theorem i_isStill (v : Value) (x y g : Nat) (w : World) (R : Row w g 88 #[v, .float .f32 x, .float .f32 y]) :
    Calls Try.prog 103 #[.pointer (some ⟨g, 0, none⟩)] w fun e w' => e = .returned (.bool (stillB x y)) ∧ w = w' := by
  have heq : ∀ w, (binOp .eql 24 (.agg #[.float .f32 x, .float .f32 y]) (.agg #[.float .f32 0, .float .f32 0])).run Try.prog w = .ok (.bool (stillB x y)) w := fun w => by
    have h := run_eql_farr (P := Try.prog) w 2 (duo x y) (fun _ => 0) Try.underlying24 Try.underlying22 (by kernel_rfl)
    rw [stillB_arr] at h; exact h
  have hgd : Try.prog.eqGuardType Try.prog.depth 24 = false := by kernel_rfl
  have F := Frm.one R
  clear R
  go_enter Try.func103, Try.ntmps103
  go_wp2_with ((with_reducible refine wpList_loadPartFr F [.float .f32 x, .float .f32 y] rfl rfl rfl List.mem_cons_self Try.underlying24 rfl part12 info2 (by simp) ?_))
  go_ret
  exact ⟨rfl, rfl⟩
theorem s_l02StillAt (x y g f : Nat) (w : World) (c4 : w.cell? ⟨g, f + 4, none⟩ = some (.float .f32 x)) (c5 : w.cell? ⟨g, f + 5, none⟩ = some (.float .f32 y)) :
    Calls Try.prog 57 #[.pointer (some ⟨g, f, none⟩)] w fun e w' => e = .returned (.bool (stillB x y)) ∧ w = w' := by
  have c5' : w.cell? ⟨g, f + 4 + 1, none⟩ = some (.float .f32 y) := c5
  cases h1 : zeroF x <;> cases h2 : zeroF y
  all_goals
    rw [show stillB x y = (zeroF x && zeroF y) from rfl, h1, h2]
    unfold zeroF at h1 h2
    go_enter Try.func57, Try.ntmps57
    go_wp2
    go_ret
    exact ⟨rfl, rfl⟩
theorem s_l02Still (k : Int) (a b c x y g : Nat) (w : World) (R : Row w g 28 (#[.int .i64 k, .float .f32 a, .float .f32 b, .float .f32 c, .float .f32 x, .float .f32 y] : Array Value)) :
    Calls Try.prog 57 #[.pointer (some ⟨g, 0, none⟩)] w fun e w' => e = .returned (.bool (stillB x y)) ∧ w = w' :=
  s_l02StillAt x y g 0 w R.six.2.2.2.2.1 R.six.2.2.2.2.2
end Go.Proofs.Ytmacednkpjfokaa

/- How states go on, plainly. Nothing here names a program. -/
namespace Go.Fk
open Go Go.RowKit
theorem fits_fop (op : BinOp) (k : FloatKind) (x y : Nat) : fits k (fop op k x y) := by
  unfold fop
  split
  · rename_i r h
    unfold can; split
    · cases k <;> simp [fits, Lit.wf, qnan]
    · exact floatBits_wf h
  · cases k <;> simp [fits, Lit.wf, qnan]
theorem fits_outF (k : Int) (a b c x y s : Nat) : fits .f32 (outF k a b c x y s) := by
  unfold outF; split; exact fits_fop _ _ _ _; split; exact fits_fop _ _ _ _; split <;> exact fits_fop _ _ _ _
theorem fits_st1 {k : Int} {a b c x y s : Nat} (hx : fits .f32 x) : fits .f32 (st1 k a b c x y s) := by
  unfold st1; split; exact fits_zero; split; exact fits_kept hx; exact fits_kept (fits_outF _ _ _ _ _ _ _)
theorem fin_kept (v : Nat) : fin (kept v) = true := by
  unfold kept; split
  · rename_i h
    unfold flush; split
    · decide
    · exact h
  · decide
theorem usedB_three {a b c u : Nat} : usedB (tri a b c) 3 u = ((if 0 < u then fin a else sameB a 0) && (if 1 < u then fin b else sameB b 0) && (if 2 < u then fin c else sameB c 0)) := by
  simp [usedB, tri, List.range_succ, Bool.and_assoc]
theorem usedB_two {x y u : Nat} : usedB (duo x y) 2 u = ((if 0 < u then fin x else sameB x 0) && (if 1 < u then fin y else sameB y 0)) := by
  simp [usedB, duo, List.range_succ]
theorem same00 : sameB 0 0 = true := by decide
theorem okF_step {k : Int} {a b c x y s : Nat} (h : okF k a b c x y = true) : okF k a b c (st0 k a b c x y s) (st1 k a b c x y s) = true := by
  simp only [okF, Bool.and_eq_true] at h ⊢
  refine ⟨h.1, h.2.1, ?_⟩
  rw [usedB_two]
  have h0 : fin (st0 k a b c x y s) = true := by unfold st0; split <;> exact fin_kept _
  by_cases hk : k = 1 ∨ k = 2
  · have : sU k = 1 := by simp [sU, hk]
    have h1 : st1 k a b c x y s = 0 := by simp [st1, hk]
    rw [this, h1, h0]; simp [same00]
  · have : sU k = 2 := by simp [sU, hk]
    have h1 : fin (st1 k a b c x y s) = true := by unfold st1; rw [if_neg hk]; split <;> exact fin_kept _
    rw [this, h0, h1]; simp
/-- The states of a filter that gets zeros. -/
def stN (k : Int) (a b c x y : Nat) : Nat → Nat × Nat
  | 0 => (x, y)
  | n + 1 => (st0 k a b c (stN k a b c x y n).1 (stN k a b c x y n).2 0, st1 k a b c (stN k a b c x y n).1 (stN k a b c x y n).2 0)
theorem okF_stN {k : Int} {a b c x y : Nat} (h : okF k a b c x y = true) (n : Nat) : okF k a b c (stN k a b c x y n).1 (stN k a b c x y n).2 = true := by
  induction n with
  | zero => exact h
  | succ n ih => exact okF_step ih
theorem fits_stN {k : Int} {a b c x y : Nat} (hx : fits .f32 x) (hy : fits .f32 y) (n : Nat) : fits .f32 (stN k a b c x y n).1 ∧ fits .f32 (stN k a b c x y n).2 := by
  induction n with
  | zero => exact ⟨hx, hy⟩
  | succ n ih => exact ⟨fits_st0 fits_zero (fits_outF _ _ _ _ _ _ _), fits_st1 ih.1⟩
def stillN (k : Int) (a b c x y n : Nat) : Bool := stillB (stN k a b c x y n).1 (stN k a b c x y n).2
/-- What 'StepsToStill' gives. -/
def ResST (k : Int) (a b c x y K : Nat) (n code : Int) : Prop :=
  (code = 0 ∧ ∃ m : Nat, n = m ∧ m ≤ K ∧ stillN k a b c x y m = true ∧ ∀ i, i < m → stillN k a b c x y i = false) ∨ (code = 7 ∧ n = 0 ∧ ∀ i, i ≤ K → stillN k a b c x y i = false)
theorem ResST.one {k : Int} {a b c x y K : Nat} {n d n' d' : Int} (h : ResST k a b c x y K n d) (h' : ResST k a b c x y K n' d') : n = n' ∧ d = d' := by
  rcases h with ⟨rfl, m, rfl, h1, h2, h3⟩ | ⟨rfl, rfl, h1⟩ <;> rcases h' with ⟨rfl, m', rfl, h1', h2', h3'⟩ | ⟨rfl, rfl, h1'⟩
  · rcases Nat.lt_trichotomy m m' with h | h | h
    · rw [h3' m h] at h2; cases h2
    · subst h; exact ⟨rfl, rfl⟩
    · rw [h3 m' h] at h2'; cases h2'
  · rw [h1' m h1] at h2; cases h2
  · rw [h1 m' h1'] at h2'; cases h2'
  · exact ⟨rfl, rfl⟩
def OutST (k : Int) (a b c x y K : Nat) (w : World) (e : Ending) (w' : World) : Prop := ∃ n d, e = .returned (.tuple #[.int .i64 n, .int .i64 d]) ∧ ResST k a b c x y K n d ∧ le w w'
end Go.Fk

/- 'StepsToStill' of both. -/
namespace Go.Proofs.Ytmacednkpjfokaa
open Go.RowKit Go.Fk
set_option maxHeartbeats 2000000 in
theorem i_leastSteps (k : Int) (a b c x y K g : Nat) (w : World) (hk : 1 ≤ k ∧ k ≤ 5) (hK : K ≤ 100000) (hx : fits .f32 x) (hy : fits .f32 y) (R : Row w g 88 #[mdl k a b c, .float .f32 x, .float .f32 y]) :
    Calls Try.prog 59 #[.iface 82 (.pointer (some ⟨g, 0, none⟩)), .int .i64 K, .int .i64 100000] w fun e w' => ∃ n d, e = .returned (.tuple #[.int .i64 n, .int .i64 d]) ∧ ResST k a b c x y K n d ∧ Upd g w w' := by
  have HK := hid hk
  have HN := hid (fun n => fits_stN (k := k) (a := a) (b := b) (c := c) hx hy n)
  have hK1 : (K : Int) ≤ 100000 := by omega
  have hK0 : 0 ≤ (K : Int) := by omega
  have HR := hid R; clear R hx hy hk
  go_enter Try.func59, Try.ntmps59
  go_wp2_with fail
  go_loopw [18] (fun i wr => ∃ j : Nat, j ≤ K + 1 ∧ i = .int .i64 j ∧ Hid (∀ m, m < j → stillN k a b c x y m = false) ∧ Hid (Row wr g 88 #[mdl k a b c, .float .f32 (stN k a b c x y j).1, .float .f32 (stN k a b c x y j).2]) ∧ Hid (Upd g w wr)) (fun i _ => (K + 1) - (intOf i).toNat)
  case atStart => exact ⟨0, by omega, rfl, fun m hm => absurd hm (by omega), HR.out, Upd.refl g w⟩
  case round =>
    obtain ⟨j, hj, rfl, HJ, RJ, UJ⟩ := hrel
    by_cases hlt : j < K + 1
    · have hlt' : (j : Int) < (K : Int) + 1 := by omega
      cases hs : stillB (stN k a b c x y j).1 (stN k a b c x y j).2
      · have hS := hid (fun w R => i_isStill (mdl k a b c) (stN k a b c x y j).1 (stN k a b c x y j).2 g w R)
        rw [hs] at hS
        replace hs := hid hs
        go_wp2_with (first | (go_at_call 103; ((with_reducible refine (hS.out _ RJ.out).mono ?_); rintro e w3 ⟨rfl, rfl⟩)) | (go_at_call 100; ((with_reducible refine (i_step _ _ _ _ _ _ _ _ _ HK.out RJ.out (HN.out _).1 fits_zero).mono ?_); rintro e w4 ⟨r, rfl, hr, fr, hR, hU⟩; replace RJ := hid hR; replace UJ := hid (UJ.out.trans hU); clear hR hU hr fr)))
        go_roundw
        case rel => exact ⟨j + 1, by omega, by go_num, fun m hm => by rcases Nat.lt_or_ge m j with h | h; exact HJ.out m h; rw [show m = j by omega]; exact hs.out, RJ.out, UJ.out⟩
        case measure => simp [intOf]; omega
      · have hS := hid (fun w R => i_isStill (mdl k a b c) (stN k a b c x y j).1 (stN k a b c x y j).2 g w R)
        rw [hs] at hS
        replace hs := hid hs
        go_wp2_with (first | (go_at_call 103; ((with_reducible refine (hS.out _ RJ.out).mono ?_); rintro e w3 ⟨rfl, rfl⟩)))
        go_ret2
        exact ⟨_, _, rfl, .inl ⟨rfl, j, rfl, by omega, hs.out, HJ.out⟩, UJ.out⟩
    · have hlt' : ¬ (j : Int) < (K : Int) + 1 := by omega
      obtain rfl : j = K + 1 := by omega
      go_wp2
      go_ret2
      exact ⟨_, _, rfl, .inr ⟨rfl, rfl, fun i hi => HJ.out i (by omega)⟩, UJ.out⟩
theorem i_leastSteps_out (v : Value) (m : Int) (w : World) (hm : m < 0 ∨ 100000 < m) :
    Calls Try.prog 59 #[v, .int .i64 m, .int .i64 100000] w fun e w' => e = .returned (.tuple #[.int .i64 0, .int .i64 2]) ∧ w = w' := by
  rcases (show m < 0 ∨ (¬ m < 0 ∧ 100000 < m) by omega) with h | ⟨h, h'⟩
  all_goals
    clear hm
    go_enter Try.func59, Try.ntmps59
    go_wp2
    go_ret2
    exact ⟨rfl, rfl⟩
set_option maxHeartbeats 2000000 in
theorem i_Steps_yes (k : Int) (a b c x y K : Nat) (w : World) (hv : okF k a b c x y = true) (hK : K ≤ 100000) (hf : fits .f32 a ∧ fits .f32 b ∧ fits .f32 c ∧ fits .f32 x ∧ fits .f32 y) :
    Calls Try.prog 20 #[(.agg #[.int .i64 k, .float .f32 a, .float .f32 b, .float .f32 c, .float .f32 x, .float .f32 y]), .int .i64 K] w (OutST k a b c x y K w) := by
  have Hf := hid hf; clear hf
  have hV := hid (fun w => i_ValidFilter k a b c x y w Hf.out)
  have HK := hid (okF_kind hv)
  rw [hv] at hV
  clear hv
  have HL := hid (fun (w : World) (g : Nat) (R : Row w g 88 #[mdl k a b c, .float .f32 x, .float .f32 y]) => i_leastSteps k a b c x y K g w HK.out hK Hf.out.2.2.2.1 Hf.out.2.2.2.2 R)
  have F := (Frm.nil w).box 28 (#[.int .i64 k, .float .f32 a, .float .f32 b, .float .f32 c, .float .f32 x, .float .f32 y] : Array Value)
  go_enter Try.func20, Try.ntmps20
  go_wp2_with (first | ((with_reducible refine at_load rfl ?_); first | (with_reducible refine wpList_loadFr F rfl rfl rfl (by first | exact List.mem_cons_self | exact List.mem_cons_of_mem _ (List.mem_cons_self) | exact List.mem_cons_of_mem _ (List.mem_cons_of_mem _ (List.mem_cons_self)) | exact List.mem_cons_of_mem _ (List.mem_cons_of_mem _ (List.mem_cons_of_mem _ (List.mem_cons_self))) | exact List.mem_cons_of_mem _ (List.mem_cons_of_mem _ (List.mem_cons_of_mem _ (List.mem_cons_of_mem _ (List.mem_cons_self)))) | exact List.mem_cons_of_mem _ (List.mem_cons_of_mem _ (List.mem_cons_of_mem _ (List.mem_cons_of_mem _ (List.mem_cons_of_mem _ (List.mem_cons_self))))) | exact List.mem_cons_of_mem _ (List.mem_cons_of_mem _ (List.mem_cons_of_mem _ (List.mem_cons_of_mem _ (List.mem_cons_of_mem _ (List.mem_cons_of_mem _ (List.mem_cons_self))))))) Try.underlying28 rfl infoFil (by simp [size_ftab]) ?_) | (with_reducible refine wpList_loadFr (F.box _ _) rfl rfl rfl (by first | exact List.mem_cons_self | exact List.mem_cons_of_mem _ (List.mem_cons_self) | exact List.mem_cons_of_mem _ (List.mem_cons_of_mem _ (List.mem_cons_self)) | exact List.mem_cons_of_mem _ (List.mem_cons_of_mem _ (List.mem_cons_of_mem _ (List.mem_cons_self))) | exact List.mem_cons_of_mem _ (List.mem_cons_of_mem _ (List.mem_cons_of_mem _ (List.mem_cons_of_mem _ (List.mem_cons_self)))) | exact List.mem_cons_of_mem _ (List.mem_cons_of_mem _ (List.mem_cons_of_mem _ (List.mem_cons_of_mem _ (List.mem_cons_of_mem _ (List.mem_cons_self))))) | exact List.mem_cons_of_mem _ (List.mem_cons_of_mem _ (List.mem_cons_of_mem _ (List.mem_cons_of_mem _ (List.mem_cons_of_mem _ (List.mem_cons_of_mem _ (List.mem_cons_self))))))) Try.underlying28 rfl infoFil (by simp [size_ftab]) ?_)) | (go_at_call 51; ((with_reducible refine (hV.out _).mono ?_); rintro e w1 ⟨rfl, hb1⟩; replace F := F.le hb1)) | (go_at_call 52; ((with_reducible refine (i_newRunner _ _ _ _ _ _ _ HK.out).mono ?_); rintro e w2 ⟨g, rfl, hg, hR, hl⟩; have hge := hid (Nat.le_trans F.below.size hg); have hle2 := hid (le_trans F.below hl); replace F := hid hR; clear hR hl hg)) | (go_at_call 59; ((with_reducible refine (HL.out _ _ F.out).mono ?_); rintro e w3 ⟨n, d, rfl, hres, hU⟩; replace hres := hid hres; replace hU := hid hU)))
  go_ret2
  exact ⟨_, _, rfl, hres.out, Below.trans hle2.out (hU.out.below hge.out hle2.out.size)⟩
set_option maxHeartbeats 2000000 in
theorem s_Steps_yes (k : Int) (a b c x y K : Nat) (w : World) (hv : okF k a b c x y = true) (hK : K ≤ 100000) (hx : fits .f32 x) (hy : fits .f32 y) :
    Calls Try.prog 19 #[(.agg #[.int .i64 k, .float .f32 a, .float .f32 b, .float .f32 c, .float .f32 x, .float .f32 y]), .int .i64 K] w (OutST k a b c x y K w) := by
  have hV := hid (fun g w (R : Row w g 28 (#[.int .i64 k, .float .f32 a, .float .f32 b, .float .f32 c, .float .f32 x, .float .f32 y] : Array Value)) => s_Ok k a b c x y g w R)
  have HV := hid (fun n => okF_stN hv n)
  have HN := hid (fun n => fits_stN (k := k) (a := a) (b := b) (c := c) hx hy n)
  rw [hv] at hV
  clear hv hx hy
  have hK1 : (K : Int) ≤ 100000 := by omega
  have hK0 : 0 ≤ (K : Int) := by omega
  have hIn : Hid (∀ w, Calls Try.prog 56 #[.int .i64 K, .int .i64 0, .int .i64 100000] w fun e w' => e = .returned (.bool true) ∧ w = w') := fun w => by
    have h := s_In K 0 100000 w
    rwa [show (decide ((0 : Int) ≤ K) && decide ((K : Int) ≤ 100000)) = true by simp only [Bool.and_eq_true, decide_eq_true_eq]; omega] at h
  have F := (Frm.nil w).box 28 (#[.int .i64 k, .float .f32 a, .float .f32 b, .float .f32 c, .float .f32 x, .float .f32 y] : Array Value)
  go_enter Try.func19, Try.ntmps19
  go_wp2_with (first | (go_at_call 47; ((with_reducible refine (hV.out _ _ (F.row List.mem_cons_self)).mono ?_); rintro e w1 ⟨rfl, n1, rfl⟩; replace F := F.drewN n1)) | (go_at_call 56; ((with_reducible refine (hIn.out _).mono ?_); rintro e w1 ⟨rfl, rfl⟩)))
  replace F := hid F
  go_loopw [6] (fun i wr => ∃ j : Nat, j ≤ K + 1 ∧ i = .int .i64 j ∧ Hid (∀ m, m < j → stillN k a b c x y m = false) ∧ Hid (Frm w wr [(w.heap.size, 28, (#[.int .i64 k, .float .f32 a, .float .f32 b, .float .f32 c, .float .f32 (stN k a b c x y j).1, .float .f32 (stN k a b c x y j).2] : Array Value))])) (fun i _ => (K + 1) - (intOf i).toNat)
  case atStart => exact ⟨0, by omega, rfl, fun m hm => absurd hm (by omega), F⟩
  case round =>
    obtain ⟨j, hj, rfl, HJ, FJ⟩ := hrel
    clear F
    by_cases hlt : j ≤ K
    · have hjK : (j : Int) ≤ K := by omega
      cases hs : stillB (stN k a b c x y j).1 (stN k a b c x y j).2
      · have hS := hid (fun w R => s_l02Still k a b c (stN k a b c x y j).1 (stN k a b c x y j).2 w.heap.size w R)
        have hS := hid (fun w g R => s_l02Still k a b c (stN k a b c x y j).1 (stN k a b c x y j).2 g w R)
        rw [hs] at hS
        replace hs := hid hs
        go_wp2_with (first | (go_at_call 57; ((with_reducible refine (hS.out _ _ (FJ.out.row List.mem_cons_self)).mono ?_); rintro e w3 ⟨rfl, rfl⟩)) | (go_at_call 58; ((with_reducible refine (s_Step _ _ _ _ _ _ _ _ _ (HV.out _) (FJ.out.row List.mem_cons_self) (HN.out _).1 fits_zero).mono ?_); rintro e w3 ⟨r, rfl, _, _, hR, hU⟩; replace FJ := hid (FJ.out.upd hR hU (Nat.le_refl _) (L' := []) (by simp)); clear hR hU)))
        go_roundw
        case rel => exact ⟨j + 1, by omega, by go_num, fun m hm => by rcases Nat.lt_or_ge m j with h | h; exact HJ.out m h; rw [show m = j by omega]; exact hs.out, FJ⟩
        case measure => simp [intOf]; omega
      · have hS := hid (fun w g R => s_l02Still k a b c (stN k a b c x y j).1 (stN k a b c x y j).2 g w R)
        rw [hs] at hS
        replace hs := hid hs
        go_wp2_with (first | (go_at_call 57; ((with_reducible refine (hS.out _ _ (FJ.out.row List.mem_cons_self)).mono ?_); rintro e w3 ⟨rfl, rfl⟩)))
        go_ret2
        exact ⟨_, _, rfl, .inl ⟨rfl, j, rfl, by omega, hs.out, HJ.out⟩, FJ.out.below⟩
    · have hjK : ¬ (j : Int) ≤ K := by omega
      obtain rfl : j = K + 1 := by omega
      go_wp2
      go_ret2
      exact ⟨_, _, rfl, .inr ⟨rfl, rfl, fun i hi => HJ.out i (by omega)⟩, FJ.out.below⟩
set_option maxHeartbeats 1000000 in
theorem i_Steps_no (k : Int) (a b c x y : Nat) (m : Int) (w : World) (hv : okF k a b c x y = false) (hf : fits .f32 a ∧ fits .f32 b ∧ fits .f32 c ∧ fits .f32 x ∧ fits .f32 y) :
    Calls Try.prog 20 #[(.agg #[.int .i64 k, .float .f32 a, .float .f32 b, .float .f32 c, .float .f32 x, .float .f32 y]), .int .i64 m] w fun e w' => e = .returned (.tuple #[.int .i64 0, .int .i64 1]) ∧ le w w' := by
  have Hf := hid hf; clear hf
  have hV := hid (fun w => i_ValidFilter k a b c x y w Hf.out)
  rw [hv] at hV
  clear hv
  have F := (Frm.nil w).box 28 (#[.int .i64 k, .float .f32 a, .float .f32 b, .float .f32 c, .float .f32 x, .float .f32 y] : Array Value)
  go_enter Try.func20, Try.ntmps20
  go_wp2_with (first | ((with_reducible refine at_load rfl ?_); first | (with_reducible refine wpList_loadFr F rfl rfl rfl (by first | exact List.mem_cons_self | exact List.mem_cons_of_mem _ (List.mem_cons_self) | exact List.mem_cons_of_mem _ (List.mem_cons_of_mem _ (List.mem_cons_self)) | exact List.mem_cons_of_mem _ (List.mem_cons_of_mem _ (List.mem_cons_of_mem _ (List.mem_cons_self))) | exact List.mem_cons_of_mem _ (List.mem_cons_of_mem _ (List.mem_cons_of_mem _ (List.mem_cons_of_mem _ (List.mem_cons_self)))) | exact List.mem_cons_of_mem _ (List.mem_cons_of_mem _ (List.mem_cons_of_mem _ (List.mem_cons_of_mem _ (List.mem_cons_of_mem _ (List.mem_cons_self))))) | exact List.mem_cons_of_mem _ (List.mem_cons_of_mem _ (List.mem_cons_of_mem _ (List.mem_cons_of_mem _ (List.mem_cons_of_mem _ (List.mem_cons_of_mem _ (List.mem_cons_self))))))) Try.underlying28 rfl infoFil (by simp [size_ftab]) ?_) | (with_reducible refine wpList_loadFr (F.box _ _) rfl rfl rfl (by first | exact List.mem_cons_self | exact List.mem_cons_of_mem _ (List.mem_cons_self) | exact List.mem_cons_of_mem _ (List.mem_cons_of_mem _ (List.mem_cons_self)) | exact List.mem_cons_of_mem _ (List.mem_cons_of_mem _ (List.mem_cons_of_mem _ (List.mem_cons_self))) | exact List.mem_cons_of_mem _ (List.mem_cons_of_mem _ (List.mem_cons_of_mem _ (List.mem_cons_of_mem _ (List.mem_cons_self)))) | exact List.mem_cons_of_mem _ (List.mem_cons_of_mem _ (List.mem_cons_of_mem _ (List.mem_cons_of_mem _ (List.mem_cons_of_mem _ (List.mem_cons_self))))) | exact List.mem_cons_of_mem _ (List.mem_cons_of_mem _ (List.mem_cons_of_mem _ (List.mem_cons_of_mem _ (List.mem_cons_of_mem _ (List.mem_cons_of_mem _ (List.mem_cons_self))))))) Try.underlying28 rfl infoFil (by simp [size_ftab]) ?_)) | (go_at_call 51; ((with_reducible refine (hV.out _).mono ?_); rintro e w1 ⟨rfl, hb1⟩; replace F := F.le hb1)))
  go_ret2
  exact ⟨rfl, F.below⟩
set_option maxHeartbeats 1000000 in
theorem i_Steps_out (k : Int) (a b c x y : Nat) (m : Int) (w : World) (hv : okF k a b c x y = true) (hm : m < 0 ∨ 100000 < m) (hf : fits .f32 a ∧ fits .f32 b ∧ fits .f32 c ∧ fits .f32 x ∧ fits .f32 y) :
    Calls Try.prog 20 #[(.agg #[.int .i64 k, .float .f32 a, .float .f32 b, .float .f32 c, .float .f32 x, .float .f32 y]), .int .i64 m] w fun e w' => e = .returned (.tuple #[.int .i64 0, .int .i64 2]) ∧ le w w' := by
  have Hf := hid hf; clear hf
  have hV := hid (fun w => i_ValidFilter k a b c x y w Hf.out)
  have hk := okF_kind hv
  rw [hv] at hV
  clear hv
  have F := (Frm.nil w).box 28 (#[.int .i64 k, .float .f32 a, .float .f32 b, .float .f32 c, .float .f32 x, .float .f32 y] : Array Value)
  have HK := hid hk
  have HL := hid (fun (v : Value) (w : World) => i_leastSteps_out v m w hm)
  clear hm hk
  go_enter Try.func20, Try.ntmps20
  go_wp2_with (first | ((with_reducible refine at_load rfl ?_); first | (with_reducible refine wpList_loadFr F rfl rfl rfl (by first | exact List.mem_cons_self | exact List.mem_cons_of_mem _ (List.mem_cons_self) | exact List.mem_cons_of_mem _ (List.mem_cons_of_mem _ (List.mem_cons_self)) | exact List.mem_cons_of_mem _ (List.mem_cons_of_mem _ (List.mem_cons_of_mem _ (List.mem_cons_self))) | exact List.mem_cons_of_mem _ (List.mem_cons_of_mem _ (List.mem_cons_of_mem _ (List.mem_cons_of_mem _ (List.mem_cons_self)))) | exact List.mem_cons_of_mem _ (List.mem_cons_of_mem _ (List.mem_cons_of_mem _ (List.mem_cons_of_mem _ (List.mem_cons_of_mem _ (List.mem_cons_self))))) | exact List.mem_cons_of_mem _ (List.mem_cons_of_mem _ (List.mem_cons_of_mem _ (List.mem_cons_of_mem _ (List.mem_cons_of_mem _ (List.mem_cons_of_mem _ (List.mem_cons_self))))))) Try.underlying28 rfl infoFil (by simp [size_ftab]) ?_) | (with_reducible refine wpList_loadFr (F.box _ _) rfl rfl rfl (by first | exact List.mem_cons_self | exact List.mem_cons_of_mem _ (List.mem_cons_self) | exact List.mem_cons_of_mem _ (List.mem_cons_of_mem _ (List.mem_cons_self)) | exact List.mem_cons_of_mem _ (List.mem_cons_of_mem _ (List.mem_cons_of_mem _ (List.mem_cons_self))) | exact List.mem_cons_of_mem _ (List.mem_cons_of_mem _ (List.mem_cons_of_mem _ (List.mem_cons_of_mem _ (List.mem_cons_self)))) | exact List.mem_cons_of_mem _ (List.mem_cons_of_mem _ (List.mem_cons_of_mem _ (List.mem_cons_of_mem _ (List.mem_cons_of_mem _ (List.mem_cons_self))))) | exact List.mem_cons_of_mem _ (List.mem_cons_of_mem _ (List.mem_cons_of_mem _ (List.mem_cons_of_mem _ (List.mem_cons_of_mem _ (List.mem_cons_of_mem _ (List.mem_cons_self))))))) Try.underlying28 rfl infoFil (by simp [size_ftab]) ?_)) | (go_at_call 51; ((with_reducible refine (hV.out _).mono ?_); rintro e w1 ⟨rfl, hb1⟩; replace F := F.le hb1)) | (go_at_call 52; ((with_reducible refine (i_newRunner _ _ _ _ _ _ _ HK.out).mono ?_); rintro e w2 ⟨g, rfl, hg, hR, hl⟩; replace F := F.le hl; clear hR hl hg)) | (go_at_call 59; ((with_reducible refine (HL.out _ _).mono ?_); rintro e w3 ⟨rfl, rfl⟩)))
  go_ret2
  exact ⟨rfl, F.below⟩
set_option maxHeartbeats 1000000 in
theorem s_Steps_no (k : Int) (a b c x y : Nat) (m : Int) (w : World) (hv : okF k a b c x y = false) :
    Calls Try.prog 19 #[(.agg #[.int .i64 k, .float .f32 a, .float .f32 b, .float .f32 c, .float .f32 x, .float .f32 y]), .int .i64 m] w fun e w' => e = .returned (.tuple #[.int .i64 0, .int .i64 1]) ∧ le w w' := by
  have hV := hid (fun g w (R : Row w g 28 (#[.int .i64 k, .float .f32 a, .float .f32 b, .float .f32 c, .float .f32 x, .float .f32 y] : Array Value)) => s_Ok k a b c x y g w R)
  rw [hv] at hV
  clear hv
  have F := (Frm.nil w).box 28 (#[.int .i64 k, .float .f32 a, .float .f32 b, .float .f32 c, .float .f32 x, .float .f32 y] : Array Value)
  go_enter Try.func19, Try.ntmps19
  go_wp2_with (first | (go_at_call 47; ((with_reducible refine (hV.out _ _ (F.row List.mem_cons_self)).mono ?_); rintro e w1 ⟨rfl, n1, rfl⟩; replace F := F.drewN n1)))
  go_ret2
  exact ⟨rfl, F.below⟩
set_option maxHeartbeats 1000000 in
theorem s_Steps_out (k : Int) (a b c x y : Nat) (m : Int) (w : World) (hv : okF k a b c x y = true) (hm : m < 0 ∨ 100000 < m) :
    Calls Try.prog 19 #[(.agg #[.int .i64 k, .float .f32 a, .float .f32 b, .float .f32 c, .float .f32 x, .float .f32 y]), .int .i64 m] w fun e w' => e = .returned (.tuple #[.int .i64 0, .int .i64 2]) ∧ le w w' := by
  have hV := hid (fun g w (R : Row w g 28 (#[.int .i64 k, .float .f32 a, .float .f32 b, .float .f32 c, .float .f32 x, .float .f32 y] : Array Value)) => s_Ok k a b c x y g w R)
  rw [hv] at hV
  clear hv
  have hIn : Hid (∀ w, Calls Try.prog 56 #[.int .i64 m, .int .i64 0, .int .i64 100000] w fun e w' => e = .returned (.bool false) ∧ w = w') := fun w => by
    have h := s_In m 0 100000 w
    rwa [show (decide ((0 : Int) ≤ m) && decide (m ≤ 100000)) = false by simp only [Bool.and_eq_false_iff, decide_eq_false_iff_not]; omega] at h
  have F := (Frm.nil w).box 28 (#[.int .i64 k, .float .f32 a, .float .f32 b, .float .f32 c, .float .f32 x, .float .f32 y] : Array Value)
  clear hm
  go_enter Try.func19, Try.ntmps19
  go_wp2_with (first | (go_at_call 47; ((with_reducible refine (hV.out _ _ (F.row List.mem_cons_self)).mono ?_); rintro e w1 ⟨rfl, n1, rfl⟩; replace F := F.drewN n1)) | (go_at_call 56; ((with_reducible refine (hIn.out _).mono ?_); rintro e w1 ⟨rfl, rfl⟩)))
  go_ret2
  exact ⟨rfl, F.below⟩
end Go.Proofs.Ytmacednkpjfokaa

/- The walk of 'FnExactStepsToStill'. -/
namespace Go.Proofs.Ytmacednkpjfokaa.fnExactStepsToStill
open Go.RowKit Go.Fk
set_option maxRecDepth 100000 in
set_option maxHeartbeats 2000000 in
theorem walk (k0 : Int) (a0 b0 c0 x0 y0 : Nat) (a1 : Int) (w : World) (w0 : (Lit.int .i64 k0).wf = true ∧ fits .f32 a0 ∧ fits .f32 b0 ∧ fits .f32 c0 ∧ fits .f32 x0 ∧ fits .f32 y0) (w1 : (Lit.int .i64 a1).wf = true) :
    Calls Try.prog 4 #[(.agg #[.int .i64 k0, .float .f32 a0, .float .f32 b0, .float .f32 c0, .float .f32 x0, .float .f32 y0]), .int .i64 a1] w fun e w' => e = .returned (.bool true) ∧ Below w.heap.size w w' := by
  have F := (Frm.nil w).box 26 (#[.int .i64 k0, .float .f32 a0, .float .f32 b0, .float .f32 c0, .float .f32 x0, .float .f32 y0] : Array Value)
  have W0 := hid w0.2; clear w0 w1
  cases hv : okF k0 a0 b0 c0 x0 y0
  · have hS := hid (fun w => s_Steps_no k0 a0 b0 c0 x0 y0 a1 w hv)
    have hI := hid (fun w => i_Steps_no k0 a0 b0 c0 x0 y0 a1 w hv W0.out)
    clear hv
    go_enter Try.func4, Try.ntmps4
    go_wp2_with (first | ((with_reducible refine at_load rfl ?_); first | (with_reducible refine wpList_loadFr F rfl rfl rfl (by first | exact List.mem_cons_self | exact List.mem_cons_of_mem _ (List.mem_cons_self) | exact List.mem_cons_of_mem _ (List.mem_cons_of_mem _ (List.mem_cons_self)) | exact List.mem_cons_of_mem _ (List.mem_cons_of_mem _ (List.mem_cons_of_mem _ (List.mem_cons_self))) | exact List.mem_cons_of_mem _ (List.mem_cons_of_mem _ (List.mem_cons_of_mem _ (List.mem_cons_of_mem _ (List.mem_cons_self)))) | exact List.mem_cons_of_mem _ (List.mem_cons_of_mem _ (List.mem_cons_of_mem _ (List.mem_cons_of_mem _ (List.mem_cons_of_mem _ (List.mem_cons_self))))) | exact List.mem_cons_of_mem _ (List.mem_cons_of_mem _ (List.mem_cons_of_mem _ (List.mem_cons_of_mem _ (List.mem_cons_of_mem _ (List.mem_cons_of_mem _ (List.mem_cons_self))))))) Try.underlying26 rfl infoFilL (by simp [size_ftab]) ?_) | (with_reducible refine wpList_loadFr (F.box _ _) rfl rfl rfl (by first | exact List.mem_cons_self | exact List.mem_cons_of_mem _ (List.mem_cons_self) | exact List.mem_cons_of_mem _ (List.mem_cons_of_mem _ (List.mem_cons_self)) | exact List.mem_cons_of_mem _ (List.mem_cons_of_mem _ (List.mem_cons_of_mem _ (List.mem_cons_self))) | exact List.mem_cons_of_mem _ (List.mem_cons_of_mem _ (List.mem_cons_of_mem _ (List.mem_cons_of_mem _ (List.mem_cons_self)))) | exact List.mem_cons_of_mem _ (List.mem_cons_of_mem _ (List.mem_cons_of_mem _ (List.mem_cons_of_mem _ (List.mem_cons_of_mem _ (List.mem_cons_self))))) | exact List.mem_cons_of_mem _ (List.mem_cons_of_mem _ (List.mem_cons_of_mem _ (List.mem_cons_of_mem _ (List.mem_cons_of_mem _ (List.mem_cons_of_mem _ (List.mem_cons_self))))))) Try.underlying26 rfl infoFilL (by simp [size_ftab]) ?_) | (with_reducible refine wpList_loadFr ((F.box _ _).box _ _) rfl rfl rfl (by first | exact List.mem_cons_self | exact List.mem_cons_of_mem _ (List.mem_cons_self) | exact List.mem_cons_of_mem _ (List.mem_cons_of_mem _ (List.mem_cons_self)) | exact List.mem_cons_of_mem _ (List.mem_cons_of_mem _ (List.mem_cons_of_mem _ (List.mem_cons_self))) | exact List.mem_cons_of_mem _ (List.mem_cons_of_mem _ (List.mem_cons_of_mem _ (List.mem_cons_of_mem _ (List.mem_cons_self)))) | exact List.mem_cons_of_mem _ (List.mem_cons_of_mem _ (List.mem_cons_of_mem _ (List.mem_cons_of_mem _ (List.mem_cons_of_mem _ (List.mem_cons_self))))) | exact List.mem_cons_of_mem _ (List.mem_cons_of_mem _ (List.mem_cons_of_mem _ (List.mem_cons_of_mem _ (List.mem_cons_of_mem _ (List.mem_cons_of_mem _ (List.mem_cons_self))))))) Try.underlying26 rfl infoFilL (by simp [size_ftab]) ?_)) | (go_at_call 14; ((with_reducible refine (toFil_any _ _ _ _ _ _ _).mono ?_); rintro e w1 ⟨rfl, hb1⟩; (first | replace F := F.le hb1 | replace F := (F.box _ _).le hb1 | replace F := ((F.box _ _).box _ _).le hb1 | replace F := (F.drewN _).le hb1 | replace F := ((F.box _ _).drewN _).le hb1))) | (go_at_call 19; ((with_reducible refine (hS.out _).mono ?_); rintro e w2 ⟨rfl, hb2⟩; (first | replace F := F.le hb2 | replace F := (F.box _ _).le hb2 | replace F := ((F.box _ _).box _ _).le hb2 | replace F := (F.drewN _).le hb2 | replace F := ((F.box _ _).drewN _).le hb2))) | (go_at_call 20; ((with_reducible refine (hI.out _).mono ?_); rintro e w3 ⟨rfl, hb3⟩; (first | replace F := F.le hb3 | replace F := (F.box _ _).le hb3 | replace F := ((F.box _ _).box _ _).le hb3 | replace F := (F.drewN _).le hb3 | replace F := ((F.box _ _).drewN _).le hb3))))
    go_ret
    first | exact ⟨rfl, F.below⟩ | exact ⟨rfl, below_drewN F.below _⟩
  · by_cases hm : a1 < 0 ∨ 100000 < a1
    · have hS := hid (fun w => s_Steps_out k0 a0 b0 c0 x0 y0 a1 w hv hm)
      have hI := hid (fun w => i_Steps_out k0 a0 b0 c0 x0 y0 a1 w hv hm W0.out)
      clear hv hm
      go_enter Try.func4, Try.ntmps4
      go_wp2_with (first | ((with_reducible refine at_load rfl ?_); first | (with_reducible refine wpList_loadFr F rfl rfl rfl (by first | exact List.mem_cons_self | exact List.mem_cons_of_mem _ (List.mem_cons_self) | exact List.mem_cons_of_mem _ (List.mem_cons_of_mem _ (List.mem_cons_self)) | exact List.mem_cons_of_mem _ (List.mem_cons_of_mem _ (List.mem_cons_of_mem _ (List.mem_cons_self))) | exact List.mem_cons_of_mem _ (List.mem_cons_of_mem _ (List.mem_cons_of_mem _ (List.mem_cons_of_mem _ (List.mem_cons_self)))) | exact List.mem_cons_of_mem _ (List.mem_cons_of_mem _ (List.mem_cons_of_mem _ (List.mem_cons_of_mem _ (List.mem_cons_of_mem _ (List.mem_cons_self))))) | exact List.mem_cons_of_mem _ (List.mem_cons_of_mem _ (List.mem_cons_of_mem _ (List.mem_cons_of_mem _ (List.mem_cons_of_mem _ (List.mem_cons_of_mem _ (List.mem_cons_self))))))) Try.underlying26 rfl infoFilL (by simp [size_ftab]) ?_) | (with_reducible refine wpList_loadFr (F.box _ _) rfl rfl rfl (by first | exact List.mem_cons_self | exact List.mem_cons_of_mem _ (List.mem_cons_self) | exact List.mem_cons_of_mem _ (List.mem_cons_of_mem _ (List.mem_cons_self)) | exact List.mem_cons_of_mem _ (List.mem_cons_of_mem _ (List.mem_cons_of_mem _ (List.mem_cons_self))) | exact List.mem_cons_of_mem _ (List.mem_cons_of_mem _ (List.mem_cons_of_mem _ (List.mem_cons_of_mem _ (List.mem_cons_self)))) | exact List.mem_cons_of_mem _ (List.mem_cons_of_mem _ (List.mem_cons_of_mem _ (List.mem_cons_of_mem _ (List.mem_cons_of_mem _ (List.mem_cons_self))))) | exact List.mem_cons_of_mem _ (List.mem_cons_of_mem _ (List.mem_cons_of_mem _ (List.mem_cons_of_mem _ (List.mem_cons_of_mem _ (List.mem_cons_of_mem _ (List.mem_cons_self))))))) Try.underlying26 rfl infoFilL (by simp [size_ftab]) ?_) | (with_reducible refine wpList_loadFr ((F.box _ _).box _ _) rfl rfl rfl (by first | exact List.mem_cons_self | exact List.mem_cons_of_mem _ (List.mem_cons_self) | exact List.mem_cons_of_mem _ (List.mem_cons_of_mem _ (List.mem_cons_self)) | exact List.mem_cons_of_mem _ (List.mem_cons_of_mem _ (List.mem_cons_of_mem _ (List.mem_cons_self))) | exact List.mem_cons_of_mem _ (List.mem_cons_of_mem _ (List.mem_cons_of_mem _ (List.mem_cons_of_mem _ (List.mem_cons_self)))) | exact List.mem_cons_of_mem _ (List.mem_cons_of_mem _ (List.mem_cons_of_mem _ (List.mem_cons_of_mem _ (List.mem_cons_of_mem _ (List.mem_cons_self))))) | exact List.mem_cons_of_mem _ (List.mem_cons_of_mem _ (List.mem_cons_of_mem _ (List.mem_cons_of_mem _ (List.mem_cons_of_mem _ (List.mem_cons_of_mem _ (List.mem_cons_self))))))) Try.underlying26 rfl infoFilL (by simp [size_ftab]) ?_)) | (go_at_call 14; ((with_reducible refine (toFil_any _ _ _ _ _ _ _).mono ?_); rintro e w1 ⟨rfl, hb1⟩; (first | replace F := F.le hb1 | replace F := (F.box _ _).le hb1 | replace F := ((F.box _ _).box _ _).le hb1 | replace F := (F.drewN _).le hb1 | replace F := ((F.box _ _).drewN _).le hb1))) | (go_at_call 19; ((with_reducible refine (hS.out _).mono ?_); rintro e w2 ⟨rfl, hb2⟩; (first | replace F := F.le hb2 | replace F := (F.box _ _).le hb2 | replace F := ((F.box _ _).box _ _).le hb2 | replace F := (F.drewN _).le hb2 | replace F := ((F.box _ _).drewN _).le hb2))) | (go_at_call 20; ((with_reducible refine (hI.out _).mono ?_); rintro e w3 ⟨rfl, hb3⟩; (first | replace F := F.le hb3 | replace F := (F.box _ _).le hb3 | replace F := ((F.box _ _).box _ _).le hb3 | replace F := (F.drewN _).le hb3 | replace F := ((F.box _ _).drewN _).le hb3))))
      go_ret
      first | exact ⟨rfl, F.below⟩ | exact ⟨rfl, below_drewN F.below _⟩
    · obtain ⟨K, rfl⟩ : ∃ K : Nat, a1 = K := ⟨a1.toNat, by omega⟩
      have hK : K ≤ 100000 := by omega
      have hS := hid (fun w => s_Steps_yes k0 a0 b0 c0 x0 y0 K w hv hK W0.out.2.2.2.1 W0.out.2.2.2.2)
      have hI := hid (fun w => i_Steps_yes k0 a0 b0 c0 x0 y0 K w hv hK W0.out)
      clear hv hm
      go_enter Try.func4, Try.ntmps4
      go_wp2_with (first | ((with_reducible refine at_load rfl ?_); first | (with_reducible refine wpList_loadFr F rfl rfl rfl (by first | exact List.mem_cons_self | exact List.mem_cons_of_mem _ (List.mem_cons_self) | exact List.mem_cons_of_mem _ (List.mem_cons_of_mem _ (List.mem_cons_self)) | exact List.mem_cons_of_mem _ (List.mem_cons_of_mem _ (List.mem_cons_of_mem _ (List.mem_cons_self))) | exact List.mem_cons_of_mem _ (List.mem_cons_of_mem _ (List.mem_cons_of_mem _ (List.mem_cons_of_mem _ (List.mem_cons_self)))) | exact List.mem_cons_of_mem _ (List.mem_cons_of_mem _ (List.mem_cons_of_mem _ (List.mem_cons_of_mem _ (List.mem_cons_of_mem _ (List.mem_cons_self))))) | exact List.mem_cons_of_mem _ (List.mem_cons_of_mem _ (List.mem_cons_of_mem _ (List.mem_cons_of_mem _ (List.mem_cons_of_mem _ (List.mem_cons_of_mem _ (List.mem_cons_self))))))) Try.underlying26 rfl infoFilL (by simp [size_ftab]) ?_) | (with_reducible refine wpList_loadFr (F.box _ _) rfl rfl rfl (by first | exact List.mem_cons_self | exact List.mem_cons_of_mem _ (List.mem_cons_self) | exact List.mem_cons_of_mem _ (List.mem_cons_of_mem _ (List.mem_cons_self)) | exact List.mem_cons_of_mem _ (List.mem_cons_of_mem _ (List.mem_cons_of_mem _ (List.mem_cons_self))) | exact List.mem_cons_of_mem _ (List.mem_cons_of_mem _ (List.mem_cons_of_mem _ (List.mem_cons_of_mem _ (List.mem_cons_self)))) | exact List.mem_cons_of_mem _ (List.mem_cons_of_mem _ (List.mem_cons_of_mem _ (List.mem_cons_of_mem _ (List.mem_cons_of_mem _ (List.mem_cons_self))))) | exact List.mem_cons_of_mem _ (List.mem_cons_of_mem _ (List.mem_cons_of_mem _ (List.mem_cons_of_mem _ (List.mem_cons_of_mem _ (List.mem_cons_of_mem _ (List.mem_cons_self))))))) Try.underlying26 rfl infoFilL (by simp [size_ftab]) ?_) | (with_reducible refine wpList_loadFr ((F.box _ _).box _ _) rfl rfl rfl (by first | exact List.mem_cons_self | exact List.mem_cons_of_mem _ (List.mem_cons_self) | exact List.mem_cons_of_mem _ (List.mem_cons_of_mem _ (List.mem_cons_self)) | exact List.mem_cons_of_mem _ (List.mem_cons_of_mem _ (List.mem_cons_of_mem _ (List.mem_cons_self))) | exact List.mem_cons_of_mem _ (List.mem_cons_of_mem _ (List.mem_cons_of_mem _ (List.mem_cons_of_mem _ (List.mem_cons_self)))) | exact List.mem_cons_of_mem _ (List.mem_cons_of_mem _ (List.mem_cons_of_mem _ (List.mem_cons_of_mem _ (List.mem_cons_of_mem _ (List.mem_cons_self))))) | exact List.mem_cons_of_mem _ (List.mem_cons_of_mem _ (List.mem_cons_of_mem _ (List.mem_cons_of_mem _ (List.mem_cons_of_mem _ (List.mem_cons_of_mem _ (List.mem_cons_self))))))) Try.underlying26 rfl infoFilL (by simp [size_ftab]) ?_)) | (go_at_call 14; ((with_reducible refine (toFil_any _ _ _ _ _ _ _).mono ?_); rintro e w1 ⟨rfl, hb1⟩; (first | replace F := F.le hb1 | replace F := (F.box _ _).le hb1 | replace F := ((F.box _ _).box _ _).le hb1 | replace F := (F.drewN _).le hb1 | replace F := ((F.box _ _).drewN _).le hb1))) | (go_at_call 19; ((with_reducible refine (hS.out _).mono ?_); rintro e w2 ⟨n, d, rfl, hr, hb2⟩; replace hr := hid hr; (first | replace F := F.le hb2 | replace F := (F.box _ _).le hb2 | replace F := ((F.box _ _).box _ _).le hb2 | replace F := (F.drewN _).le hb2 | replace F := ((F.box _ _).drewN _).le hb2))) | (go_at_call 20; ((with_reducible refine (hI.out _).mono ?_); rintro e w3 ⟨n1, d1, rfl, hr1, hb3⟩; obtain ⟨rfl, rfl⟩ := hr.out.one hr1; clear hr1; (first | replace F := F.le hb3 | replace F := (F.box _ _).le hb3 | replace F := ((F.box _ _).box _ _).le hb3 | replace F := (F.drewN _).le hb3 | replace F := ((F.box _ _).drewN _).le hb3))))
      go_ret
      first | exact ⟨rfl, F.below⟩ | exact ⟨rfl, below_drewN F.below _⟩
end Go.Proofs.Ytmacednkpjfokaa.fnExactStepsToStill
