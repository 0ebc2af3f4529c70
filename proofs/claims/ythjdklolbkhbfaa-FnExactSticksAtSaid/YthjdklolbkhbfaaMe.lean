/- Texts of the walk, laid in one file. -/
import Derived.Laws.StructEq
import Derived.Deep.RegionWith
import Derived.IntWalk
import Derived.Test.YthjdklolbkhbfaaMd
set_option linter.unusedVariables false
set_option linter.unusedSimpArgs false
/- The model's step of a filter, kind by kind. -/
namespace Go.Proofs.Ythjdklolbkhbfaa
open Go.RowKit Go.Fk
set_option maxRecDepth 100000 in
set_option maxHeartbeats 2000000 in
theorem s_Step1 (a b c x y s g : Nat) (w : World) (R : Row w g 36 (#[.int .i64 1, .float .f32 a, .float .f32 b, .float .f32 c, .float .f32 x, .float .f32 y] : Array Value)) (hx : fits .f32 x) (hs : fits .f32 s) (hy : y = 0) :
    Calls Try.prog 46 #[.pointer (some ⟨g, 0, none⟩), .float .f32 s] w (OutS 1 a b c x y s g 36 (fun u v => (#[.int .i64 1, .float .f32 a, .float .f32 b, .float .f32 c, .float .f32 u, .float .f32 v] : Array Value)) w) := by
  subst hy
  have Hx := hid hx; have Hs := hid hs; clear hx hs
  have F := Frm.one R
  have U := hid (Upd.refl g w)
  obtain ⟨c0, c1, c2, c3, c4, c5⟩ := R.six
  clear R
  go_enter Try.func46, Try.ntmps46
  go_wp2
  refine region_free (fun _ _ _ _ => True) (by kernel_rfl) (by kernel_rfl) ?_
  refine wpFree_one rfl (.pointer (some ⟨g, 0, none⟩)) (fun w1 _ => by kernel_rfl) ?_
  simp only [Act.put, List.setIfInBounds_toArray, List.set_cons_succ, List.set_cons_zero]
  refine wpFree_one rfl (.pointer (some ⟨g, 0, none⟩)) (fun w1 _ => by kernel_rfl) ?_
  simp only [Act.put, List.setIfInBounds_toArray, List.set_cons_succ, List.set_cons_zero]
  refine wpFree_one rfl (.pointer (some ⟨g, 1, none⟩)) (fun w1 _ => by kernel_rfl) ?_
  simp only [Act.put, List.setIfInBounds_toArray, List.set_cons_succ, List.set_cons_zero]
  refine wpFree_one rfl (.pointer (some ⟨g, 1, none⟩)) (fun w1 _ => by kernel_rfl) ?_
  simp only [Act.put, List.setIfInBounds_toArray, List.set_cons_succ, List.set_cons_zero]
  refine wpFree_loadF F rfl rfl rfl rfl List.mem_cons_self rfl Try.underlying25 ?_
  simp only [Act.put, List.setIfInBounds_toArray, List.set_cons_succ, List.set_cons_zero]
  refine wpFree_one rfl (.float .f32 s) (fun w1 _ => by kernel_rfl) ?_
  simp only [Act.put, List.setIfInBounds_toArray, List.set_cons_succ, List.set_cons_zero]
  refine wpFree_farith rfl rfl rfl rfl rfl (fun r53 h53 f53 => ?_)
  simp only [Act.put, List.setIfInBounds_toArray, List.set_cons_succ, List.set_cons_zero]
  refine wpFree_one rfl (.pointer (some ⟨g, 0, none⟩)) (fun w1 _ => by kernel_rfl) ?_
  simp only [Act.put, List.setIfInBounds_toArray, List.set_cons_succ, List.set_cons_zero]
  refine wpFree_one rfl (.pointer (some ⟨g, 0, none⟩)) (fun w1 _ => by kernel_rfl) ?_
  simp only [Act.put, List.setIfInBounds_toArray, List.set_cons_succ, List.set_cons_zero]
  refine wpFree_one rfl (.pointer (some ⟨g, 1, none⟩)) (fun w1 _ => by kernel_rfl) ?_
  simp only [Act.put, List.setIfInBounds_toArray, List.set_cons_succ, List.set_cons_zero]
  refine wpFree_one rfl (.pointer (some ⟨g, 1 + 1, none⟩)) (fun w1 _ => by kernel_rfl) ?_
  simp only [Act.put, List.setIfInBounds_toArray, List.set_cons_succ, List.set_cons_zero]
  refine wpFree_loadF F rfl rfl rfl rfl List.mem_cons_self rfl Try.underlying25 ?_
  simp only [Act.put, List.setIfInBounds_toArray, List.set_cons_succ, List.set_cons_zero]
  refine wpFree_one rfl (.float .f32 x) (fun w1 _ => by kernel_rfl) ?_
  simp only [Act.put, List.setIfInBounds_toArray, List.set_cons_succ, List.set_cons_zero]
  refine wpFree_farith rfl rfl rfl rfl rfl (fun r60 h60 f60 => ?_)
  simp only [Act.put, List.setIfInBounds_toArray, List.set_cons_succ, List.set_cons_zero]
  refine wpFree_farith rfl rfl rfl rfl rfl (fun r61 h61 f61 => ?_)
  simp only [Act.put, List.setIfInBounds_toArray, List.set_cons_succ, List.set_cons_zero]
  refine wpFree_one rfl (.float .f32 r61) (fun w1 _ => by kernel_rfl) ?_
  simp only [Act.put, List.setIfInBounds_toArray, List.set_cons_succ, List.set_cons_zero]
  refine wpFree_nil (fun w3 hw3 _ => ?_)
  replace U := hid ((U.out.le (le_drewN _ 1)).le hw3)
  replace F := Frm.one (((F.drewN 1).le hw3).row List.mem_cons_self)
  clear hw3 c0 c1 c2 c3 c4 c5
  have e : can .f32 r61 = outF 1 a b c x 0 s := (by rw [h61.out]; exact fop_congr (h53.out.trans (can_fop _ _ _ _).symm) (h60.out.trans (can_fop _ _ _ _).symm))
  have hf := f61
  replace e := hid e
  go_wp2
  refine region_tail (fun _ _ _ v => v = .float .f32 (kept r61)) 6 (by kernel_rfl) (by kernel_rfl) ?_
  simp only [List.take_succ_cons, List.take_zero, List.drop_succ_cons, List.drop_zero]
  refine wpFree_one rfl (.pointer (some ⟨g, 0, none⟩)) (fun w1 _ => by kernel_rfl) ?_
  simp only [Act.put, List.setIfInBounds_toArray, List.set_cons_succ, List.set_cons_zero]
  refine wpFree_one rfl (.float .f32 r61) (fun w1 _ => by kernel_rfl) ?_
  simp only [Act.put, List.setIfInBounds_toArray, List.set_cons_succ, List.set_cons_zero]
  refine wpFree_call rfl rfl Try.func61 (by kernel_rfl) (by kernel_rfl) (args := #[.float .f32 r61]) (by simp [Act.eval]) (fun _ _ _ _ h => h) (fun w1 _ => (s_Kept r61 w1 hf.out).mono ?_) ?_
  · rintro e w2 ⟨rfl, n, rfl⟩
    exact ⟨_, rfl, le_drewN _ n, rfl⟩
  rintro v ⟨_, _, rfl⟩
  simp only [Act.put, List.setIfInBounds_toArray, List.set_cons_succ, List.set_cons_zero]
  refine wpFree_one rfl (.pointer (some ⟨g, 0, none⟩)) (fun w1 _ => by kernel_rfl) ?_
  simp only [Act.put, List.setIfInBounds_toArray, List.set_cons_succ, List.set_cons_zero]
  refine wpFree_one rfl (.pointer (some ⟨g, 4, none⟩)) (fun w1 _ => by kernel_rfl) ?_
  simp only [Act.put, List.setIfInBounds_toArray, List.set_cons_succ, List.set_cons_zero]
  refine wpFree_one rfl (.pointer (some ⟨g, 4, none⟩)) (fun w1 _ => by kernel_rfl) ?_
  simp only [Act.put, List.setIfInBounds_toArray, List.set_cons_succ, List.set_cons_zero]
  refine wpFree_nil (fun w5 hw5 _ => ?_)
  have RR := ((F.drewN 1).le hw5).row List.mem_cons_self
  replace U := hid (((U.out.le (le_drewN _ 1)).le hw5).setCell (a := ⟨g, 4, none⟩) rfl (.float .f32 (kept r61)))
  have cc := RR.cell? 4
  have ff := RR.frozen 4
  have RN := RR.set 4 (.float .f32 (kept r61))
  replace RN : Row (w5.setCell ⟨g, 4, none⟩ (.float .f32 (kept r61))) g 36 (#[.int .i64 1, .float .f32 a, .float .f32 b, .float .f32 c, .float .f32 (kept r61), .float .f32 0] : Array Value) := by simpa using RN
  replace RR := hid RR
  clear hw5 F
  have F := Frm.one RN
  clear RN
  have RN := hid (F.row List.mem_cons_self)
  clear F
  go_wp2
  go_ret
  refine ⟨_, rfl, e.out, hf.out, ?_, U.out⟩
  have e0 : (kept r61) = st0 1 a b c x 0 s := by exact kept_can (e.out.trans (can_outF _ _ _ _ _ _ _).symm)
  have e1 : 0 = st1 1 a b c x 0 s := by rfl
  rw [← e0, ← e1]
  exact RN.out
set_option maxRecDepth 100000 in
set_option maxHeartbeats 2000000 in
theorem s_Step2 (a b c x y s g : Nat) (w : World) (R : Row w g 36 (#[.int .i64 2, .float .f32 a, .float .f32 b, .float .f32 c, .float .f32 x, .float .f32 y] : Array Value)) (hx : fits .f32 x) (hs : fits .f32 s) (hy : y = 0) :
    Calls Try.prog 46 #[.pointer (some ⟨g, 0, none⟩), .float .f32 s] w (OutS 2 a b c x y s g 36 (fun u v => (#[.int .i64 2, .float .f32 a, .float .f32 b, .float .f32 c, .float .f32 u, .float .f32 v] : Array Value)) w) := by
  subst hy
  have Hx := hid hx; have Hs := hid hs; clear hx hs
  have F := Frm.one R
  have U := hid (Upd.refl g w)
  obtain ⟨c0, c1, c2, c3, c4, c5⟩ := R.six
  clear R
  go_enter Try.func46, Try.ntmps46
  go_wp2
  refine region_free (fun _ _ _ _ => True) (by kernel_rfl) (by kernel_rfl) ?_
  refine wpFree_one rfl (.pointer (some ⟨g, 0, none⟩)) (fun w1 _ => by kernel_rfl) ?_
  simp only [Act.put, List.setIfInBounds_toArray, List.set_cons_succ, List.set_cons_zero]
  refine wpFree_one rfl (.pointer (some ⟨g, 0, none⟩)) (fun w1 _ => by kernel_rfl) ?_
  simp only [Act.put, List.setIfInBounds_toArray, List.set_cons_succ, List.set_cons_zero]
  refine wpFree_one rfl (.pointer (some ⟨g, 1, none⟩)) (fun w1 _ => by kernel_rfl) ?_
  simp only [Act.put, List.setIfInBounds_toArray, List.set_cons_succ, List.set_cons_zero]
  refine wpFree_one rfl (.pointer (some ⟨g, 1, none⟩)) (fun w1 _ => by kernel_rfl) ?_
  simp only [Act.put, List.setIfInBounds_toArray, List.set_cons_succ, List.set_cons_zero]
  refine wpFree_loadF F rfl rfl rfl rfl List.mem_cons_self rfl Try.underlying25 ?_
  simp only [Act.put, List.setIfInBounds_toArray, List.set_cons_succ, List.set_cons_zero]
  refine wpFree_one rfl (.float .f32 s) (fun w1 _ => by kernel_rfl) ?_
  simp only [Act.put, List.setIfInBounds_toArray, List.set_cons_succ, List.set_cons_zero]
  refine wpFree_farith rfl rfl rfl rfl rfl (fun r76 h76 f76 => ?_)
  simp only [Act.put, List.setIfInBounds_toArray, List.set_cons_succ, List.set_cons_zero]
  refine wpFree_one rfl (.pointer (some ⟨g, 0, none⟩)) (fun w1 _ => by kernel_rfl) ?_
  simp only [Act.put, List.setIfInBounds_toArray, List.set_cons_succ, List.set_cons_zero]
  refine wpFree_one rfl (.pointer (some ⟨g, 0, none⟩)) (fun w1 _ => by kernel_rfl) ?_
  simp only [Act.put, List.setIfInBounds_toArray, List.set_cons_succ, List.set_cons_zero]
  refine wpFree_one rfl (.pointer (some ⟨g, 1, none⟩)) (fun w1 _ => by kernel_rfl) ?_
  simp only [Act.put, List.setIfInBounds_toArray, List.set_cons_succ, List.set_cons_zero]
  refine wpFree_one rfl (.pointer (some ⟨g, 1 + 1, none⟩)) (fun w1 _ => by kernel_rfl) ?_
  simp only [Act.put, List.setIfInBounds_toArray, List.set_cons_succ, List.set_cons_zero]
  refine wpFree_loadF F rfl rfl rfl rfl List.mem_cons_self rfl Try.underlying25 ?_
  simp only [Act.put, List.setIfInBounds_toArray, List.set_cons_succ, List.set_cons_zero]
  refine wpFree_one rfl (.float .f32 x) (fun w1 _ => by kernel_rfl) ?_
  simp only [Act.put, List.setIfInBounds_toArray, List.set_cons_succ, List.set_cons_zero]
  refine wpFree_farith rfl rfl rfl rfl rfl (fun r83 h83 f83 => ?_)
  simp only [Act.put, List.setIfInBounds_toArray, List.set_cons_succ, List.set_cons_zero]
  refine wpFree_farith rfl rfl rfl rfl rfl (fun r84 h84 f84 => ?_)
  simp only [Act.put, List.setIfInBounds_toArray, List.set_cons_succ, List.set_cons_zero]
  refine wpFree_one rfl (.float .f32 r84) (fun w1 _ => by kernel_rfl) ?_
  simp only [Act.put, List.setIfInBounds_toArray, List.set_cons_succ, List.set_cons_zero]
  refine wpFree_nil (fun w3 hw3 _ => ?_)
  replace U := hid ((U.out.le (le_drewN _ 1)).le hw3)
  replace F := Frm.one (((F.drewN 1).le hw3).row List.mem_cons_self)
  clear hw3 c0 c1 c2 c3 c4 c5
  have e : can .f32 r84 = outF 2 a b c x 0 s := (by rw [h84.out]; exact fop_congr (h76.out.trans (can_fop _ _ _ _).symm) (h83.out.trans (can_fop _ _ _ _).symm))
  have hf := f84
  replace e := hid e
  go_wp2
  refine region_tail (fun _ _ _ v => v = .float .f32 (kept s)) 6 (by kernel_rfl) (by kernel_rfl) ?_
  simp only [List.take_succ_cons, List.take_zero, List.drop_succ_cons, List.drop_zero]
  refine wpFree_one rfl (.pointer (some ⟨g, 0, none⟩)) (fun w1 _ => by kernel_rfl) ?_
  simp only [Act.put, List.setIfInBounds_toArray, List.set_cons_succ, List.set_cons_zero]
  refine wpFree_one rfl (.float .f32 s) (fun w1 _ => by kernel_rfl) ?_
  simp only [Act.put, List.setIfInBounds_toArray, List.set_cons_succ, List.set_cons_zero]
  refine wpFree_call rfl rfl Try.func61 (by kernel_rfl) (by kernel_rfl) (args := #[.float .f32 s]) (by simp [Act.eval]) (fun _ _ _ _ h => h) (fun w1 _ => (s_Kept s w1 Hs.out).mono ?_) ?_
  · rintro e w2 ⟨rfl, n, rfl⟩
    exact ⟨_, rfl, le_drewN _ n, rfl⟩
  rintro v ⟨_, _, rfl⟩
  simp only [Act.put, List.setIfInBounds_toArray, List.set_cons_succ, List.set_cons_zero]
  refine wpFree_one rfl (.pointer (some ⟨g, 0, none⟩)) (fun w1 _ => by kernel_rfl) ?_
  simp only [Act.put, List.setIfInBounds_toArray, List.set_cons_succ, List.set_cons_zero]
  refine wpFree_one rfl (.pointer (some ⟨g, 4, none⟩)) (fun w1 _ => by kernel_rfl) ?_
  simp only [Act.put, List.setIfInBounds_toArray, List.set_cons_succ, List.set_cons_zero]
  refine wpFree_one rfl (.pointer (some ⟨g, 4, none⟩)) (fun w1 _ => by kernel_rfl) ?_
  simp only [Act.put, List.setIfInBounds_toArray, List.set_cons_succ, List.set_cons_zero]
  refine wpFree_nil (fun w5 hw5 _ => ?_)
  have RR := ((F.drewN 1).le hw5).row List.mem_cons_self
  replace U := hid (((U.out.le (le_drewN _ 1)).le hw5).setCell (a := ⟨g, 4, none⟩) rfl (.float .f32 (kept s)))
  have cc := RR.cell? 4
  have ff := RR.frozen 4
  have RN := RR.set 4 (.float .f32 (kept s))
  replace RN : Row (w5.setCell ⟨g, 4, none⟩ (.float .f32 (kept s))) g 36 (#[.int .i64 2, .float .f32 a, .float .f32 b, .float .f32 c, .float .f32 (kept s), .float .f32 0] : Array Value) := by simpa using RN
  replace RR := hid RR
  clear hw5 F
  have F := Frm.one RN
  clear RN
  have RN := hid (F.row List.mem_cons_self)
  clear F
  go_wp2
  go_ret
  refine ⟨_, rfl, e.out, hf.out, ?_, U.out⟩
  have e0 : (kept s) = st0 2 a b c x 0 s := by rfl
  have e1 : 0 = st1 2 a b c x 0 s := by rfl
  rw [← e0, ← e1]
  exact RN.out
set_option maxRecDepth 100000 in
set_option maxHeartbeats 2000000 in
theorem s_Step3 (a b c x y s g : Nat) (w : World) (R : Row w g 36 (#[.int .i64 3, .float .f32 a, .float .f32 b, .float .f32 c, .float .f32 x, .float .f32 y] : Array Value)) (hx : fits .f32 x) (hs : fits .f32 s) :
    Calls Try.prog 46 #[.pointer (some ⟨g, 0, none⟩), .float .f32 s] w (OutS 3 a b c x y s g 36 (fun u v => (#[.int .i64 3, .float .f32 a, .float .f32 b, .float .f32 c, .float .f32 u, .float .f32 v] : Array Value)) w) := by
  have Hx := hid hx; have Hs := hid hs; clear hx hs
  have F := Frm.one R
  have U := hid (Upd.refl g w)
  obtain ⟨c0, c1, c2, c3, c4, c5⟩ := R.six
  clear R
  go_enter Try.func46, Try.ntmps46
  go_wp2_with (with_reducible refine wpList_farith rfl rfl rfl rfl rfl ?_; intro r n hr hf)
  rename_i r1 n1 h1 f1 r2 n2 h2 f2 KK aa
  clear c0 c1 c2 c3 c4 c5
  have e : can .f32 r = outF 3 a b c x y s := (by rw [hr.out]; exact fop_congr (h2.out.trans ((fop_congr rfl (h1.out.trans (can_fop _ _ _ _).symm)).trans (can_fop _ _ _ _).symm)) rfl)
  replace U := hid (U.out.le (le_drewN _ (n1 + n2 + n)))
  replace F := Frm.one ((F.drewN (n1 + n2 + n)).row List.mem_cons_self)
  replace e := hid e
  refine region_tail (fun _ _ _ v => v = .float .f32 (kept s)) 6 (by kernel_rfl) (by kernel_rfl) ?_
  simp only [List.take_succ_cons, List.take_zero, List.drop_succ_cons, List.drop_zero]
  refine wpFree_one rfl (.pointer (some ⟨g, 0, none⟩)) (fun w1 _ => by kernel_rfl) ?_
  simp only [Act.put, List.setIfInBounds_toArray, List.set_cons_succ, List.set_cons_zero]
  refine wpFree_one rfl (.float .f32 s) (fun w1 _ => by kernel_rfl) ?_
  simp only [Act.put, List.setIfInBounds_toArray, List.set_cons_succ, List.set_cons_zero]
  refine wpFree_call rfl rfl Try.func61 (by kernel_rfl) (by kernel_rfl) (args := #[.float .f32 s]) (by simp [Act.eval]) (fun _ _ _ _ h => h) (fun w1 _ => (s_Kept s w1 Hs.out).mono ?_) ?_
  · rintro e w2 ⟨rfl, n, rfl⟩
    exact ⟨_, rfl, le_drewN _ n, rfl⟩
  rintro v ⟨_, _, rfl⟩
  simp only [Act.put, List.setIfInBounds_toArray, List.set_cons_succ, List.set_cons_zero]
  refine wpFree_one rfl (.pointer (some ⟨g, 0, none⟩)) (fun w1 _ => by kernel_rfl) ?_
  simp only [Act.put, List.setIfInBounds_toArray, List.set_cons_succ, List.set_cons_zero]
  refine wpFree_one rfl (.pointer (some ⟨g, 4, none⟩)) (fun w1 _ => by kernel_rfl) ?_
  simp only [Act.put, List.setIfInBounds_toArray, List.set_cons_succ, List.set_cons_zero]
  refine wpFree_one rfl (.pointer (some ⟨g, 4, none⟩)) (fun w1 _ => by kernel_rfl) ?_
  simp only [Act.put, List.setIfInBounds_toArray, List.set_cons_succ, List.set_cons_zero]
  refine wpFree_nil (fun w5 hw5 _ => ?_)
  have RR := ((F.drewN 1).le hw5).row List.mem_cons_self
  replace U := hid (((U.out.le (le_drewN _ 1)).le hw5).setCell (a := ⟨g, 4, none⟩) rfl (.float .f32 (kept s)))
  have cc := RR.cell? 4
  have ff := RR.frozen 4
  have RN := RR.set 4 (.float .f32 (kept s))
  replace RN : Row (w5.setCell ⟨g, 4, none⟩ (.float .f32 (kept s))) g 36 (#[.int .i64 3, .float .f32 a, .float .f32 b, .float .f32 c, .float .f32 (kept s), .float .f32 y] : Array Value) := by simpa using RN
  replace RR := hid RR
  clear hw5 F
  have F := Frm.one RN
  clear RN
  go_wp2
  refine region_tail (fun _ _ _ v => v = .float .f32 (kept r)) 6 (by kernel_rfl) (by kernel_rfl) ?_
  simp only [List.take_succ_cons, List.take_zero, List.drop_succ_cons, List.drop_zero]
  refine wpFree_one rfl (.pointer (some ⟨g, 0, none⟩)) (fun w1 _ => by kernel_rfl) ?_
  simp only [Act.put, List.setIfInBounds_toArray, List.set_cons_succ, List.set_cons_zero]
  refine wpFree_one rfl (.float .f32 r) (fun w1 _ => by kernel_rfl) ?_
  simp only [Act.put, List.setIfInBounds_toArray, List.set_cons_succ, List.set_cons_zero]
  refine wpFree_call rfl rfl Try.func61 (by kernel_rfl) (by kernel_rfl) (args := #[.float .f32 r]) (by simp [Act.eval]) (fun _ _ _ _ h => h) (fun w1 _ => (s_Kept r w1 hf.out).mono ?_) ?_
  · rintro e w2 ⟨rfl, n, rfl⟩
    exact ⟨_, rfl, le_drewN _ n, rfl⟩
  rintro v ⟨_, _, rfl⟩
  simp only [Act.put, List.setIfInBounds_toArray, List.set_cons_succ, List.set_cons_zero]
  refine wpFree_one rfl (.pointer (some ⟨g, 0, none⟩)) (fun w1 _ => by kernel_rfl) ?_
  simp only [Act.put, List.setIfInBounds_toArray, List.set_cons_succ, List.set_cons_zero]
  refine wpFree_one rfl (.pointer (some ⟨g, 4, none⟩)) (fun w1 _ => by kernel_rfl) ?_
  simp only [Act.put, List.setIfInBounds_toArray, List.set_cons_succ, List.set_cons_zero]
  refine wpFree_one rfl (.pointer (some ⟨g, 4 + 1, none⟩)) (fun w1 _ => by kernel_rfl) ?_
  simp only [Act.put, List.setIfInBounds_toArray, List.set_cons_succ, List.set_cons_zero]
  refine wpFree_nil (fun w5 hw5 _ => ?_)
  have RR := ((F.drewN 1).le hw5).row List.mem_cons_self
  replace U := hid (((U.out.le (le_drewN _ 1)).le hw5).setCell (a := ⟨g, 5, none⟩) rfl (.float .f32 (kept r)))
  have cc := RR.cell? 5
  have ff := RR.frozen 5
  have RN := RR.set 5 (.float .f32 (kept r))
  replace RN : Row (w5.setCell ⟨g, 5, none⟩ (.float .f32 (kept r))) g 36 (#[.int .i64 3, .float .f32 a, .float .f32 b, .float .f32 c, .float .f32 (kept s), .float .f32 (kept r)] : Array Value) := by simpa using RN
  replace RR := hid RR
  clear hw5 F
  have F := Frm.one RN
  clear RN
  have RN := hid (F.row List.mem_cons_self)
  clear F
  go_wp2
  go_ret
  refine ⟨_, rfl, e.out, hf.out, ?_, U.out⟩
  have e0 : (kept s) = st0 3 a b c x y s := by rfl
  have e1 : (kept r) = st1 3 a b c x y s := by exact kept_can (e.out.trans (can_outF _ _ _ _ _ _ _).symm)
  rw [← e0, ← e1]
  exact RN.out
set_option maxRecDepth 100000 in
set_option maxHeartbeats 2000000 in
theorem s_Step4 (a b c x y s g : Nat) (w : World) (R : Row w g 36 (#[.int .i64 4, .float .f32 a, .float .f32 b, .float .f32 c, .float .f32 x, .float .f32 y] : Array Value)) (hx : fits .f32 x) (hs : fits .f32 s) :
    Calls Try.prog 46 #[.pointer (some ⟨g, 0, none⟩), .float .f32 s] w (OutS 4 a b c x y s g 36 (fun u v => (#[.int .i64 4, .float .f32 a, .float .f32 b, .float .f32 c, .float .f32 u, .float .f32 v] : Array Value)) w) := by
  have Hx := hid hx; have Hs := hid hs; clear hx hs
  have F := Frm.one R
  have U := hid (Upd.refl g w)
  obtain ⟨c0, c1, c2, c3, c4, c5⟩ := R.six
  clear R
  go_enter Try.func46, Try.ntmps46
  go_wp2
  refine region_free (fun _ _ _ _ => True) (by kernel_rfl) (by kernel_rfl) ?_
  refine wpFree_one rfl (.pointer (some ⟨g, 0, none⟩)) (fun w1 _ => by kernel_rfl) ?_
  simp only [Act.put, List.setIfInBounds_toArray, List.set_cons_succ, List.set_cons_zero]
  refine wpFree_one rfl (.pointer (some ⟨g, 0, none⟩)) (fun w1 _ => by kernel_rfl) ?_
  simp only [Act.put, List.setIfInBounds_toArray, List.set_cons_succ, List.set_cons_zero]
  refine wpFree_one rfl (.pointer (some ⟨g, 1, none⟩)) (fun w1 _ => by kernel_rfl) ?_
  simp only [Act.put, List.setIfInBounds_toArray, List.set_cons_succ, List.set_cons_zero]
  refine wpFree_one rfl (.pointer (some ⟨g, 1, none⟩)) (fun w1 _ => by kernel_rfl) ?_
  simp only [Act.put, List.setIfInBounds_toArray, List.set_cons_succ, List.set_cons_zero]
  refine wpFree_loadF F rfl rfl rfl rfl List.mem_cons_self rfl Try.underlying25 ?_
  simp only [Act.put, List.setIfInBounds_toArray, List.set_cons_succ, List.set_cons_zero]
  refine wpFree_one rfl (.float .f32 s) (fun w1 _ => by kernel_rfl) ?_
  simp only [Act.put, List.setIfInBounds_toArray, List.set_cons_succ, List.set_cons_zero]
  refine wpFree_farith rfl rfl rfl rfl rfl (fun r124 h124 f124 => ?_)
  simp only [Act.put, List.setIfInBounds_toArray, List.set_cons_succ, List.set_cons_zero]
  refine wpFree_one rfl (.pointer (some ⟨g, 0, none⟩)) (fun w1 _ => by kernel_rfl) ?_
  simp only [Act.put, List.setIfInBounds_toArray, List.set_cons_succ, List.set_cons_zero]
  refine wpFree_one rfl (.pointer (some ⟨g, 0, none⟩)) (fun w1 _ => by kernel_rfl) ?_
  simp only [Act.put, List.setIfInBounds_toArray, List.set_cons_succ, List.set_cons_zero]
  refine wpFree_one rfl (.pointer (some ⟨g, 1, none⟩)) (fun w1 _ => by kernel_rfl) ?_
  simp only [Act.put, List.setIfInBounds_toArray, List.set_cons_succ, List.set_cons_zero]
  refine wpFree_one rfl (.pointer (some ⟨g, 1 + 1, none⟩)) (fun w1 _ => by kernel_rfl) ?_
  simp only [Act.put, List.setIfInBounds_toArray, List.set_cons_succ, List.set_cons_zero]
  refine wpFree_loadF F rfl rfl rfl rfl List.mem_cons_self rfl Try.underlying25 ?_
  simp only [Act.put, List.setIfInBounds_toArray, List.set_cons_succ, List.set_cons_zero]
  refine wpFree_one rfl (.float .f32 x) (fun w1 _ => by kernel_rfl) ?_
  simp only [Act.put, List.setIfInBounds_toArray, List.set_cons_succ, List.set_cons_zero]
  refine wpFree_farith rfl rfl rfl rfl rfl (fun r131 h131 f131 => ?_)
  simp only [Act.put, List.setIfInBounds_toArray, List.set_cons_succ, List.set_cons_zero]
  refine wpFree_farith rfl rfl rfl rfl rfl (fun r132 h132 f132 => ?_)
  simp only [Act.put, List.setIfInBounds_toArray, List.set_cons_succ, List.set_cons_zero]
  refine wpFree_one rfl (.pointer (some ⟨g, 0, none⟩)) (fun w1 _ => by kernel_rfl) ?_
  simp only [Act.put, List.setIfInBounds_toArray, List.set_cons_succ, List.set_cons_zero]
  refine wpFree_one rfl (.pointer (some ⟨g, 0, none⟩)) (fun w1 _ => by kernel_rfl) ?_
  simp only [Act.put, List.setIfInBounds_toArray, List.set_cons_succ, List.set_cons_zero]
  refine wpFree_one rfl (.pointer (some ⟨g, 1, none⟩)) (fun w1 _ => by kernel_rfl) ?_
  simp only [Act.put, List.setIfInBounds_toArray, List.set_cons_succ, List.set_cons_zero]
  refine wpFree_one rfl (.pointer (some ⟨g, 1 + 2, none⟩)) (fun w1 _ => by kernel_rfl) ?_
  simp only [Act.put, List.setIfInBounds_toArray, List.set_cons_succ, List.set_cons_zero]
  refine wpFree_loadF F rfl rfl rfl rfl List.mem_cons_self rfl Try.underlying25 ?_
  simp only [Act.put, List.setIfInBounds_toArray, List.set_cons_succ, List.set_cons_zero]
  refine wpFree_one rfl (.float .f32 y) (fun w1 _ => by kernel_rfl) ?_
  simp only [Act.put, List.setIfInBounds_toArray, List.set_cons_succ, List.set_cons_zero]
  refine wpFree_farith rfl rfl rfl rfl rfl (fun r139 h139 f139 => ?_)
  simp only [Act.put, List.setIfInBounds_toArray, List.set_cons_succ, List.set_cons_zero]
  refine wpFree_farith rfl rfl rfl rfl rfl (fun r140 h140 f140 => ?_)
  simp only [Act.put, List.setIfInBounds_toArray, List.set_cons_succ, List.set_cons_zero]
  refine wpFree_one rfl (.float .f32 r140) (fun w1 _ => by kernel_rfl) ?_
  simp only [Act.put, List.setIfInBounds_toArray, List.set_cons_succ, List.set_cons_zero]
  refine wpFree_nil (fun w3 hw3 _ => ?_)
  replace U := hid ((U.out.le (le_drewN _ 1)).le hw3)
  replace F := Frm.one (((F.drewN 1).le hw3).row List.mem_cons_self)
  clear hw3 c0 c1 c2 c3 c4 c5
  have e : can .f32 r140 = outF 4 a b c x y s := (by rw [h140.out]; exact fop_congr (h132.out.trans ((fop_congr (h124.out.trans (can_fop _ _ _ _).symm) (h131.out.trans (can_fop _ _ _ _).symm)).trans (can_fop _ _ _ _).symm)) (h139.out.trans (can_fop _ _ _ _).symm))
  have hf := f140
  replace e := hid e
  go_wp2
  refine region_tail (fun _ _ _ v => v = .float .f32 (kept x)) 6 (by kernel_rfl) (by kernel_rfl) ?_
  simp only [List.take_succ_cons, List.take_zero, List.drop_succ_cons, List.drop_zero]
  refine wpFree_one rfl (.pointer (some ⟨g, 0, none⟩)) (fun w1 _ => by kernel_rfl) ?_
  simp only [Act.put, List.setIfInBounds_toArray, List.set_cons_succ, List.set_cons_zero]
  refine wpFree_one rfl (.float .f32 x) (fun w1 _ => by kernel_rfl) ?_
  simp only [Act.put, List.setIfInBounds_toArray, List.set_cons_succ, List.set_cons_zero]
  refine wpFree_call rfl rfl Try.func61 (by kernel_rfl) (by kernel_rfl) (args := #[.float .f32 x]) (by simp [Act.eval]) (fun _ _ _ _ h => h) (fun w1 _ => (s_Kept x w1 Hx.out).mono ?_) ?_
  · rintro e w2 ⟨rfl, n, rfl⟩
    exact ⟨_, rfl, le_drewN _ n, rfl⟩
  rintro v ⟨_, _, rfl⟩
  simp only [Act.put, List.setIfInBounds_toArray, List.set_cons_succ, List.set_cons_zero]
  refine wpFree_one rfl (.pointer (some ⟨g, 0, none⟩)) (fun w1 _ => by kernel_rfl) ?_
  simp only [Act.put, List.setIfInBounds_toArray, List.set_cons_succ, List.set_cons_zero]
  refine wpFree_one rfl (.pointer (some ⟨g, 4, none⟩)) (fun w1 _ => by kernel_rfl) ?_
  simp only [Act.put, List.setIfInBounds_toArray, List.set_cons_succ, List.set_cons_zero]
  refine wpFree_one rfl (.pointer (some ⟨g, 4 + 1, none⟩)) (fun w1 _ => by kernel_rfl) ?_
  simp only [Act.put, List.setIfInBounds_toArray, List.set_cons_succ, List.set_cons_zero]
  refine wpFree_nil (fun w5 hw5 _ => ?_)
  have RR := ((F.drewN 1).le hw5).row List.mem_cons_self
  replace U := hid (((U.out.le (le_drewN _ 1)).le hw5).setCell (a := ⟨g, 5, none⟩) rfl (.float .f32 (kept x)))
  have cc := RR.cell? 5
  have ff := RR.frozen 5
  have RN := RR.set 5 (.float .f32 (kept x))
  replace RN : Row (w5.setCell ⟨g, 5, none⟩ (.float .f32 (kept x))) g 36 (#[.int .i64 4, .float .f32 a, .float .f32 b, .float .f32 c, .float .f32 x, .float .f32 (kept x)] : Array Value) := by simpa using RN
  replace RR := hid RR
  clear hw5 F
  have F := Frm.one RN
  clear RN
  go_wp2
  refine region_tail (fun _ _ _ v => v = .float .f32 (kept r140)) 6 (by kernel_rfl) (by kernel_rfl) ?_
  simp only [List.take_succ_cons, List.take_zero, List.drop_succ_cons, List.drop_zero]
  refine wpFree_one rfl (.pointer (some ⟨g, 0, none⟩)) (fun w1 _ => by kernel_rfl) ?_
  simp only [Act.put, List.setIfInBounds_toArray, List.set_cons_succ, List.set_cons_zero]
  refine wpFree_one rfl (.float .f32 r140) (fun w1 _ => by kernel_rfl) ?_
  simp only [Act.put, List.setIfInBounds_toArray, List.set_cons_succ, List.set_cons_zero]
  refine wpFree_call rfl rfl Try.func61 (by kernel_rfl) (by kernel_rfl) (args := #[.float .f32 r140]) (by simp [Act.eval]) (fun _ _ _ _ h => h) (fun w1 _ => (s_Kept r140 w1 hf.out).mono ?_) ?_
  · rintro e w2 ⟨rfl, n, rfl⟩
    exact ⟨_, rfl, le_drewN _ n, rfl⟩
  rintro v ⟨_, _, rfl⟩
  simp only [Act.put, List.setIfInBounds_toArray, List.set_cons_succ, List.set_cons_zero]
  refine wpFree_one rfl (.pointer (some ⟨g, 0, none⟩)) (fun w1 _ => by kernel_rfl) ?_
  simp only [Act.put, List.setIfInBounds_toArray, List.set_cons_succ, List.set_cons_zero]
  refine wpFree_one rfl (.pointer (some ⟨g, 4, none⟩)) (fun w1 _ => by kernel_rfl) ?_
  simp only [Act.put, List.setIfInBounds_toArray, List.set_cons_succ, List.set_cons_zero]
  refine wpFree_one rfl (.pointer (some ⟨g, 4, none⟩)) (fun w1 _ => by kernel_rfl) ?_
  simp only [Act.put, List.setIfInBounds_toArray, List.set_cons_succ, List.set_cons_zero]
  refine wpFree_nil (fun w5 hw5 _ => ?_)
  have RR := ((F.drewN 1).le hw5).row List.mem_cons_self
  replace U := hid (((U.out.le (le_drewN _ 1)).le hw5).setCell (a := ⟨g, 4, none⟩) rfl (.float .f32 (kept r140)))
  have cc := RR.cell? 4
  have ff := RR.frozen 4
  have RN := RR.set 4 (.float .f32 (kept r140))
  replace RN : Row (w5.setCell ⟨g, 4, none⟩ (.float .f32 (kept r140))) g 36 (#[.int .i64 4, .float .f32 a, .float .f32 b, .float .f32 c, .float .f32 (kept r140), .float .f32 (kept x)] : Array Value) := by simpa using RN
  replace RR := hid RR
  clear hw5 F
  have F := Frm.one RN
  clear RN
  have RN := hid (F.row List.mem_cons_self)
  clear F
  go_wp2
  go_ret
  refine ⟨_, rfl, e.out, hf.out, ?_, U.out⟩
  have e0 : (kept r140) = st0 4 a b c x y s := by exact kept_can (e.out.trans (can_outF _ _ _ _ _ _ _).symm)
  have e1 : (kept x) = st1 4 a b c x y s := by rfl
  rw [← e0, ← e1]
  exact RN.out
set_option maxRecDepth 100000 in
set_option maxHeartbeats 2000000 in
theorem s_Step5 (a b c x y s g : Nat) (w : World) (R : Row w g 36 (#[.int .i64 5, .float .f32 a, .float .f32 b, .float .f32 c, .float .f32 x, .float .f32 y] : Array Value)) (hx : fits .f32 x) (hs : fits .f32 s) :
    Calls Try.prog 46 #[.pointer (some ⟨g, 0, none⟩), .float .f32 s] w (OutS 5 a b c x y s g 36 (fun u v => (#[.int .i64 5, .float .f32 a, .float .f32 b, .float .f32 c, .float .f32 u, .float .f32 v] : Array Value)) w) := by
  have Hx := hid hx; have Hs := hid hs; clear hx hs
  have F := Frm.one R
  have U := hid (Upd.refl g w)
  obtain ⟨c0, c1, c2, c3, c4, c5⟩ := R.six
  clear R
  go_enter Try.func46, Try.ntmps46
  go_wp2_with (with_reducible refine wpList_farith rfl rfl rfl rfl rfl ?_; intro r n hr hf)
  rename_i r1 n1 h1 f1 r2 n2 h2 f2 KK aa
  clear c0 c1 c2 c3 c4 c5
  have e : can .f32 r = outF 5 a b c x y s := (by rw [hr.out]; exact fop_congr (h1.out.trans (can_fop _ _ _ _).symm) (h2.out.trans (can_fop _ _ _ _).symm))
  replace U := hid (U.out.le (le_drewN _ (n1 + n2 + n)))
  replace F := Frm.one ((F.drewN (n1 + n2 + n)).row List.mem_cons_self)
  replace e := hid e
  refine region_tail (fun _ _ _ v => v = .float .f32 (kept s)) 6 (by kernel_rfl) (by kernel_rfl) ?_
  simp only [List.take_succ_cons, List.take_zero, List.drop_succ_cons, List.drop_zero]
  refine wpFree_one rfl (.pointer (some ⟨g, 0, none⟩)) (fun w1 _ => by kernel_rfl) ?_
  simp only [Act.put, List.setIfInBounds_toArray, List.set_cons_succ, List.set_cons_zero]
  refine wpFree_one rfl (.float .f32 s) (fun w1 _ => by kernel_rfl) ?_
  simp only [Act.put, List.setIfInBounds_toArray, List.set_cons_succ, List.set_cons_zero]
  refine wpFree_call rfl rfl Try.func61 (by kernel_rfl) (by kernel_rfl) (args := #[.float .f32 s]) (by simp [Act.eval]) (fun _ _ _ _ h => h) (fun w1 _ => (s_Kept s w1 Hs.out).mono ?_) ?_
  · rintro e w2 ⟨rfl, n, rfl⟩
    exact ⟨_, rfl, le_drewN _ n, rfl⟩
  rintro v ⟨_, _, rfl⟩
  simp only [Act.put, List.setIfInBounds_toArray, List.set_cons_succ, List.set_cons_zero]
  refine wpFree_one rfl (.pointer (some ⟨g, 0, none⟩)) (fun w1 _ => by kernel_rfl) ?_
  simp only [Act.put, List.setIfInBounds_toArray, List.set_cons_succ, List.set_cons_zero]
  refine wpFree_one rfl (.pointer (some ⟨g, 4, none⟩)) (fun w1 _ => by kernel_rfl) ?_
  simp only [Act.put, List.setIfInBounds_toArray, List.set_cons_succ, List.set_cons_zero]
  refine wpFree_one rfl (.pointer (some ⟨g, 4, none⟩)) (fun w1 _ => by kernel_rfl) ?_
  simp only [Act.put, List.setIfInBounds_toArray, List.set_cons_succ, List.set_cons_zero]
  refine wpFree_nil (fun w5 hw5 _ => ?_)
  have RR := ((F.drewN 1).le hw5).row List.mem_cons_self
  replace U := hid (((U.out.le (le_drewN _ 1)).le hw5).setCell (a := ⟨g, 4, none⟩) rfl (.float .f32 (kept s)))
  have cc := RR.cell? 4
  have ff := RR.frozen 4
  have RN := RR.set 4 (.float .f32 (kept s))
  replace RN : Row (w5.setCell ⟨g, 4, none⟩ (.float .f32 (kept s))) g 36 (#[.int .i64 5, .float .f32 a, .float .f32 b, .float .f32 c, .float .f32 (kept s), .float .f32 y] : Array Value) := by simpa using RN
  replace RR := hid RR
  clear hw5 F
  have F := Frm.one RN
  clear RN
  go_wp2
  refine region_tail (fun _ _ _ v => v = .float .f32 (kept r)) 6 (by kernel_rfl) (by kernel_rfl) ?_
  simp only [List.take_succ_cons, List.take_zero, List.drop_succ_cons, List.drop_zero]
  refine wpFree_one rfl (.pointer (some ⟨g, 0, none⟩)) (fun w1 _ => by kernel_rfl) ?_
  simp only [Act.put, List.setIfInBounds_toArray, List.set_cons_succ, List.set_cons_zero]
  refine wpFree_one rfl (.float .f32 r) (fun w1 _ => by kernel_rfl) ?_
  simp only [Act.put, List.setIfInBounds_toArray, List.set_cons_succ, List.set_cons_zero]
  refine wpFree_call rfl rfl Try.func61 (by kernel_rfl) (by kernel_rfl) (args := #[.float .f32 r]) (by simp [Act.eval]) (fun _ _ _ _ h => h) (fun w1 _ => (s_Kept r w1 hf.out).mono ?_) ?_
  · rintro e w2 ⟨rfl, n, rfl⟩
    exact ⟨_, rfl, le_drewN _ n, rfl⟩
  rintro v ⟨_, _, rfl⟩
  simp only [Act.put, List.setIfInBounds_toArray, List.set_cons_succ, List.set_cons_zero]
  refine wpFree_one rfl (.pointer (some ⟨g, 0, none⟩)) (fun w1 _ => by kernel_rfl) ?_
  simp only [Act.put, List.setIfInBounds_toArray, List.set_cons_succ, List.set_cons_zero]
  refine wpFree_one rfl (.pointer (some ⟨g, 4, none⟩)) (fun w1 _ => by kernel_rfl) ?_
  simp only [Act.put, List.setIfInBounds_toArray, List.set_cons_succ, List.set_cons_zero]
  refine wpFree_one rfl (.pointer (some ⟨g, 4 + 1, none⟩)) (fun w1 _ => by kernel_rfl) ?_
  simp only [Act.put, List.setIfInBounds_toArray, List.set_cons_succ, List.set_cons_zero]
  refine wpFree_nil (fun w5 hw5 _ => ?_)
  have RR := ((F.drewN 1).le hw5).row List.mem_cons_self
  replace U := hid (((U.out.le (le_drewN _ 1)).le hw5).setCell (a := ⟨g, 5, none⟩) rfl (.float .f32 (kept r)))
  have cc := RR.cell? 5
  have ff := RR.frozen 5
  have RN := RR.set 5 (.float .f32 (kept r))
  replace RN : Row (w5.setCell ⟨g, 5, none⟩ (.float .f32 (kept r))) g 36 (#[.int .i64 5, .float .f32 a, .float .f32 b, .float .f32 c, .float .f32 (kept s), .float .f32 (kept r)] : Array Value) := by simpa using RN
  replace RR := hid RR
  clear hw5 F
  have F := Frm.one RN
  clear RN
  have RN := hid (F.row List.mem_cons_self)
  clear F
  go_wp2
  go_ret
  refine ⟨_, rfl, e.out, hf.out, ?_, U.out⟩
  have e0 : (kept s) = st0 5 a b c x y s := by rfl
  have e1 : (kept r) = st1 5 a b c x y s := by exact kept_can (e.out.trans (can_outF _ _ _ _ _ _ _).symm)
  rw [← e0, ← e1]
  exact RN.out
end Go.Proofs.Ythjdklolbkhbfaa

/- 'StepFilter' of both. -/
namespace Go.Fk
open Go Go.RowKit
theorem zero_of_same {y : Nat} (h : sameB y 0 = true) : y = 0 := by
  have e : can .f32 y = can .f32 0 := by
    simp only [sameB, beq_iff_eq] at h
    exact_mod_cast h
  exact (eq_of_can e.symm (by decide)).symm
theorem okF_y {k : Int} {a b c x y : Nat} (h : okF k a b c x y = true) (hk : k = 1 ∨ k = 2) : y = 0 := by
  simp only [okF, Bool.and_eq_true] at h
  have h2 := h.2.2
  rw [show sU k = 1 by simp [sU, hk]] at h2
  simp only [usedB, List.all_eq_true, List.mem_range] at h2
  exact zero_of_same (h2 1 (by omega))
theorem part12 {v0 v1 v2 : Value} : ∀ j, j < [v1, v2].length → (#[v0, v1, v2] : Array Value)[1 + j]? = [v1, v2][j]? := by
  intro j hj
  match j, hj with
  | 0, _ => rfl
  | 1, _ => rfl
/-- What 'StepFilter' gives of a valid filter. -/
def OutSF (k : Int) (a b c x y s : Nat) (w : World) (e : Ending) (w' : World) : Prop := ∃ r, e = .returned (.tuple #[(.agg #[.int .i64 k, .float .f32 a, .float .f32 b, .float .f32 c, .float .f32 (st0 k a b c x y s), .float .f32 (st1 k a b c x y s)]), .float .f32 r, .int .i64 0]) ∧ can .f32 r = outF k a b c x y s ∧ le w w'
theorem fits_st0 {k : Int} {a b c x y s : Nat} (hs : fits .f32 s) (ho : fits .f32 (outF k a b c x y s)) : fits .f32 (st0 k a b c x y s) := by
  unfold st0; split; exact fits_kept ho; exact fits_kept hs
end Go.Fk
namespace Go.Proofs.Ythjdklolbkhbfaa
open Go.RowKit Go.Fk
theorem i_step (k : Int) (a b c x y s g : Nat) (w : World) (hk : 1 ≤ k ∧ k ≤ 5) (R : Row w g 103 #[mdl k a b c, .float .f32 x, .float .f32 y]) (hx : fits .f32 x) (hs : fits .f32 s) :
    Calls Try.prog 53 #[.pointer (some ⟨g, 0, none⟩), .float .f32 s] w (OutS k a b c x y s g 103 (fun u v => #[mdl k a b c, .float .f32 u, .float .f32 v]) w) := by
  rcases (show k = 1 ∨ k = 2 ∨ k = 3 ∨ k = 4 ∨ k = 5 by omega) with rfl | rfl | rfl | rfl | rfl
  · simp only [mdl1] at R ⊢; exact i_step1 a b c x y s g w R hx hs
  · simp only [mdl2] at R ⊢; exact i_step2 a b c x y s g w R hx hs
  · simp only [mdl3] at R ⊢; exact i_step3 a b c x y s g w R hx hs
  · simp only [mdl4] at R ⊢; exact i_step4 a b c x y s g w R hx hs
  · simp only [mdl5] at R ⊢; exact i_step5 a b c x y s g w R hx hs
theorem s_Step (k : Int) (a b c x y s g : Nat) (w : World) (hv : okF k a b c x y = true) (R : Row w g 36 (#[.int .i64 k, .float .f32 a, .float .f32 b, .float .f32 c, .float .f32 x, .float .f32 y] : Array Value)) (hx : fits .f32 x) (hs : fits .f32 s) :
    Calls Try.prog 46 #[.pointer (some ⟨g, 0, none⟩), .float .f32 s] w (OutS k a b c x y s g 36 (fun u v => (#[.int .i64 k, .float .f32 a, .float .f32 b, .float .f32 c, .float .f32 u, .float .f32 v] : Array Value)) w) := by
  have hk := okF_kind hv
  rcases (show k = 1 ∨ k = 2 ∨ k = 3 ∨ k = 4 ∨ k = 5 by omega) with rfl | rfl | rfl | rfl | rfl
  · exact s_Step1 a b c x y s g w R hx hs (okF_y hv (.inl rfl))
  · exact s_Step2 a b c x y s g w R hx hs (okF_y hv (.inr rfl))
  · exact s_Step3 a b c x y s g w R hx hs
  · exact s_Step4 a b c x y s g w R hx hs
  · exact s_Step5 a b c x y s g w R hx hs
end Go.Proofs.Ythjdklolbkhbfaa

/- The model's step of a filter that lies within a row, kind by kind. -/
namespace Go.Fk
open Go Go.RowKit
theorem set_same {cs : Array Value} {i : Nat} {v : Value} (h : cs[i]? = some v) : cs.setIfInBounds i v = cs := by
  apply Array.ext_getElem?
  intro j
  rw [Array.getElem?_setIfInBounds]
  split
  · rename_i e; subst e
    split
    · exact h.symm
    · rename_i hl; rw [Array.getElem?_eq_none (by omega)]
  · rfl
theorem set_swap {cs : Array Value} {i j : Nat} {u v : Value} (h : i ≠ j) : (cs.setIfInBounds i u).setIfInBounds j v = (cs.setIfInBounds j v).setIfInBounds i u := by
  apply Array.ext_getElem?
  intro k
  simp only [Array.getElem?_setIfInBounds, Array.size_setIfInBounds]
  by_cases h1 : i = k <;> by_cases h2 : j = k <;> simp [h1, h2] <;> omega
/-- What a step in place gives. -/
def OutSt (k : Int) (a b c x y s : Nat) (g f : Nat) (t : TypeId) (cs : Array Value) (w : World) (e : Ending) (w' : World) : Prop :=
  ∃ r, e = .returned (.float .f32 r) ∧ can .f32 r = outF k a b c x y s ∧ fits .f32 r ∧ Row w' g t ((cs.setIfInBounds (f + 4) (.float .f32 (st0 k a b c x y s))).setIfInBounds (f + 5) (.float .f32 (st1 k a b c x y s))) ∧ Upd g w w'
theorem FilIn.next {cs : Array Value} {f : Nat} {k : Int} {a b c x y : Nat} (h : FilIn cs f k a b c x y) (u v : Nat) : FilIn ((cs.setIfInBounds (f + 4) (.float .f32 u)).setIfInBounds (f + 5) (.float .f32 v)) f k a b c u v := by
  have l4 := (Array.getElem?_eq_some_iff.1 h.c4).1
  have l5 := (Array.getElem?_eq_some_iff.1 h.c5).1
  constructor
  · rw [Array.getElem?_setIfInBounds_ne (by omega), Array.getElem?_setIfInBounds_ne (by omega)]; exact h.k0
  · rw [Array.getElem?_setIfInBounds_ne (by omega), Array.getElem?_setIfInBounds_ne (by omega)]; exact h.c1
  · rw [Array.getElem?_setIfInBounds_ne (by omega), Array.getElem?_setIfInBounds_ne (by omega)]; exact h.c2
  · rw [Array.getElem?_setIfInBounds_ne (by omega), Array.getElem?_setIfInBounds_ne (by omega)]; exact h.c3
  · rw [Array.getElem?_setIfInBounds_ne (by omega), Array.getElem?_setIfInBounds_self_of_lt l4]
  · rw [Array.getElem?_setIfInBounds_self_of_lt (by simpa using l5)]
end Go.Fk
namespace Go.Proofs.Ythjdklolbkhbfaa
open Go.RowKit Go.Fk
set_option maxRecDepth 100000 in
set_option maxHeartbeats 2000000 in
theorem s_StepAt1 (a b c x y s g f : Nat) (t : TypeId) (cs : Array Value) (w : World) (R : Row w g t cs) (I : FilIn cs f 1 a b c x y) (hx : fits .f32 x) (hs : fits .f32 s) (hy : y = 0) :
    Calls Try.prog 46 #[.pointer (some ⟨g, f, none⟩), .float .f32 s] w (OutSt 1 a b c x y s g f t cs w) := by
  subst hy
  have Hx := hid hx; have Hs := hid hs; clear hx hs
  have F := Frm.one R
  have U := hid (Upd.refl g w)
  have c0 := (R.cell? f).trans I.k0
  have c1 := (R.cell? (f + 1)).trans I.c1
  have c2 := (R.cell? (f + 2)).trans I.c2
  have c3 := (R.cell? (f + 3)).trans I.c3
  have c4 := (R.cell? (f + 4)).trans I.c4
  have c5 := (R.cell? (f + 5)).trans I.c5
  replace I := hid I
  clear R
  go_enter Try.func46, Try.ntmps46
  go_wp2
  refine region_free (fun _ _ _ _ => True) (by kernel_rfl) (by kernel_rfl) ?_
  refine wpFree_one rfl (.pointer (some ⟨g, f, none⟩)) (fun w1 _ => by kernel_rfl) ?_
  simp only [Act.put, List.setIfInBounds_toArray, List.set_cons_succ, List.set_cons_zero]
  refine wpFree_one rfl (.pointer (some ⟨g, f, none⟩)) (fun w1 _ => by kernel_rfl) ?_
  simp only [Act.put, List.setIfInBounds_toArray, List.set_cons_succ, List.set_cons_zero]
  refine wpFree_one rfl (.pointer (some ⟨g, f + 1, none⟩)) (fun w1 _ => by kernel_rfl) ?_
  simp only [Act.put, List.setIfInBounds_toArray, List.set_cons_succ, List.set_cons_zero]
  refine wpFree_one rfl (.pointer (some ⟨g, f + 1, none⟩)) (fun w1 _ => by kernel_rfl) ?_
  simp only [Act.put, List.setIfInBounds_toArray, List.set_cons_succ, List.set_cons_zero]
  refine wpFree_loadF F rfl rfl rfl rfl List.mem_cons_self I.out.c1 Try.underlying25 ?_
  simp only [Act.put, List.setIfInBounds_toArray, List.set_cons_succ, List.set_cons_zero]
  refine wpFree_one rfl (.float .f32 s) (fun w1 _ => by kernel_rfl) ?_
  simp only [Act.put, List.setIfInBounds_toArray, List.set_cons_succ, List.set_cons_zero]
  refine wpFree_farith rfl rfl rfl rfl rfl (fun r53 h53 f53 => ?_)
  simp only [Act.put, List.setIfInBounds_toArray, List.set_cons_succ, List.set_cons_zero]
  refine wpFree_one rfl (.pointer (some ⟨g, f, none⟩)) (fun w1 _ => by kernel_rfl) ?_
  simp only [Act.put, List.setIfInBounds_toArray, List.set_cons_succ, List.set_cons_zero]
  refine wpFree_one rfl (.pointer (some ⟨g, f, none⟩)) (fun w1 _ => by kernel_rfl) ?_
  simp only [Act.put, List.setIfInBounds_toArray, List.set_cons_succ, List.set_cons_zero]
  refine wpFree_one rfl (.pointer (some ⟨g, f + 1, none⟩)) (fun w1 _ => by kernel_rfl) ?_
  simp only [Act.put, List.setIfInBounds_toArray, List.set_cons_succ, List.set_cons_zero]
  refine wpFree_one rfl (.pointer (some ⟨g, f + 2, none⟩)) (fun w1 _ => by kernel_rfl) ?_
  simp only [Act.put, List.setIfInBounds_toArray, List.set_cons_succ, List.set_cons_zero]
  refine wpFree_loadF F rfl rfl rfl rfl List.mem_cons_self I.out.c2 Try.underlying25 ?_
  simp only [Act.put, List.setIfInBounds_toArray, List.set_cons_succ, List.set_cons_zero]
  refine wpFree_one rfl (.float .f32 x) (fun w1 _ => by kernel_rfl) ?_
  simp only [Act.put, List.setIfInBounds_toArray, List.set_cons_succ, List.set_cons_zero]
  refine wpFree_farith rfl rfl rfl rfl rfl (fun r60 h60 f60 => ?_)
  simp only [Act.put, List.setIfInBounds_toArray, List.set_cons_succ, List.set_cons_zero]
  refine wpFree_farith rfl rfl rfl rfl rfl (fun r61 h61 f61 => ?_)
  simp only [Act.put, List.setIfInBounds_toArray, List.set_cons_succ, List.set_cons_zero]
  refine wpFree_one rfl (.float .f32 r61) (fun w1 _ => by kernel_rfl) ?_
  simp only [Act.put, List.setIfInBounds_toArray, List.set_cons_succ, List.set_cons_zero]
  refine wpFree_nil (fun w3 hw3 _ => ?_)
  replace U := hid ((U.out.le (le_drewN _ 1)).le hw3)
  replace F := Frm.one (((F.drewN 1).le hw3).row List.mem_cons_self)
  clear hw3 c0 c1 c2 c3 c4 c5
  have e : can .f32 r61 = outF 1 a b c x 0 s := (by rw [h61.out]; exact fop_congr (h53.out.trans (can_fop _ _ _ _).symm) (h60.out.trans (can_fop _ _ _ _).symm))
  have hf := f61
  replace e := hid e
  go_wp2
  refine region_tail (fun _ _ _ v => v = .float .f32 (kept r61)) 6 (by kernel_rfl) (by kernel_rfl) ?_
  simp only [List.take_succ_cons, List.take_zero, List.drop_succ_cons, List.drop_zero]
  refine wpFree_one rfl (.pointer (some ⟨g, f, none⟩)) (fun w1 _ => by kernel_rfl) ?_
  simp only [Act.put, List.setIfInBounds_toArray, List.set_cons_succ, List.set_cons_zero]
  refine wpFree_one rfl (.float .f32 r61) (fun w1 _ => by kernel_rfl) ?_
  simp only [Act.put, List.setIfInBounds_toArray, List.set_cons_succ, List.set_cons_zero]
  refine wpFree_call rfl rfl Try.func61 (by kernel_rfl) (by kernel_rfl) (args := #[.float .f32 r61]) (by simp [Act.eval]) (fun _ _ _ _ h => h) (fun w1 _ => (s_Kept r61 w1 hf.out).mono ?_) ?_
  · rintro e w2 ⟨rfl, n, rfl⟩
    exact ⟨_, rfl, le_drewN _ n, rfl⟩
  rintro v ⟨_, _, rfl⟩
  simp only [Act.put, List.setIfInBounds_toArray, List.set_cons_succ, List.set_cons_zero]
  refine wpFree_one rfl (.pointer (some ⟨g, f, none⟩)) (fun w1 _ => by kernel_rfl) ?_
  simp only [Act.put, List.setIfInBounds_toArray, List.set_cons_succ, List.set_cons_zero]
  refine wpFree_one rfl (.pointer (some ⟨g, f + 4, none⟩)) (fun w1 _ => by kernel_rfl) ?_
  simp only [Act.put, List.setIfInBounds_toArray, List.set_cons_succ, List.set_cons_zero]
  refine wpFree_one rfl (.pointer (some ⟨g, f + 4, none⟩)) (fun w1 _ => by kernel_rfl) ?_
  simp only [Act.put, List.setIfInBounds_toArray, List.set_cons_succ, List.set_cons_zero]
  refine wpFree_nil (fun w5 hw5 _ => ?_)
  have RR := ((F.drewN 1).le hw5).row List.mem_cons_self
  replace U := hid (((U.out.le (le_drewN _ 1)).le hw5).setCell (a := ⟨g, f + 4, none⟩) rfl (.float .f32 (kept r61)))
  have cc : w5.cell? ⟨g, f + 4, none⟩ = some (.float .f32 x) := (RR.cell? (f + 4)).trans I.out.c4
  have ff := RR.frozen (f + 4)
  have RN : Row (w5.setCell ⟨g, f + 4, none⟩ (.float .f32 (kept r61))) g t (cs.setIfInBounds (f + 4) (.float .f32 (kept r61))) := RR.set (f + 4) (.float .f32 (kept r61))
  replace RR := hid RR
  clear hw5 F
  have F := Frm.one RN
  clear RN
  have RN := hid (F.row List.mem_cons_self)
  clear F
  go_wp2
  go_ret
  refine ⟨_, rfl, e.out, hf.out, ?_, U.out⟩
  have e0 : (kept r61) = st0 1 a b c x 0 s := by exact kept_can (e.out.trans (can_outF _ _ _ _ _ _ _).symm)
  have e1 : 0 = st1 1 a b c x 0 s := by rfl
  rw [← e0, ← e1]
  rw [set_same (i := f + 5) (by rw [Array.getElem?_setIfInBounds_ne (by omega)]; exact I.out.c5)]
  exact RN.out
set_option maxRecDepth 100000 in
set_option maxHeartbeats 2000000 in
theorem s_StepAt2 (a b c x y s g f : Nat) (t : TypeId) (cs : Array Value) (w : World) (R : Row w g t cs) (I : FilIn cs f 2 a b c x y) (hx : fits .f32 x) (hs : fits .f32 s) (hy : y = 0) :
    Calls Try.prog 46 #[.pointer (some ⟨g, f, none⟩), .float .f32 s] w (OutSt 2 a b c x y s g f t cs w) := by
  subst hy
  have Hx := hid hx; have Hs := hid hs; clear hx hs
  have F := Frm.one R
  have U := hid (Upd.refl g w)
  have c0 := (R.cell? f).trans I.k0
  have c1 := (R.cell? (f + 1)).trans I.c1
  have c2 := (R.cell? (f + 2)).trans I.c2
  have c3 := (R.cell? (f + 3)).trans I.c3
  have c4 := (R.cell? (f + 4)).trans I.c4
  have c5 := (R.cell? (f + 5)).trans I.c5
  replace I := hid I
  clear R
  go_enter Try.func46, Try.ntmps46
  go_wp2
  refine region_free (fun _ _ _ _ => True) (by kernel_rfl) (by kernel_rfl) ?_
  refine wpFree_one rfl (.pointer (some ⟨g, f, none⟩)) (fun w1 _ => by kernel_rfl) ?_
  simp only [Act.put, List.setIfInBounds_toArray, List.set_cons_succ, List.set_cons_zero]
  refine wpFree_one rfl (.pointer (some ⟨g, f, none⟩)) (fun w1 _ => by kernel_rfl) ?_
  simp only [Act.put, List.setIfInBounds_toArray, List.set_cons_succ, List.set_cons_zero]
  refine wpFree_one rfl (.pointer (some ⟨g, f + 1, none⟩)) (fun w1 _ => by kernel_rfl) ?_
  simp only [Act.put, List.setIfInBounds_toArray, List.set_cons_succ, List.set_cons_zero]
  refine wpFree_one rfl (.pointer (some ⟨g, f + 1, none⟩)) (fun w1 _ => by kernel_rfl) ?_
  simp only [Act.put, List.setIfInBounds_toArray, List.set_cons_succ, List.set_cons_zero]
  refine wpFree_loadF F rfl rfl rfl rfl List.mem_cons_self I.out.c1 Try.underlying25 ?_
  simp only [Act.put, List.setIfInBounds_toArray, List.set_cons_succ, List.set_cons_zero]
  refine wpFree_one rfl (.float .f32 s) (fun w1 _ => by kernel_rfl) ?_
  simp only [Act.put, List.setIfInBounds_toArray, List.set_cons_succ, List.set_cons_zero]
  refine wpFree_farith rfl rfl rfl rfl rfl (fun r76 h76 f76 => ?_)
  simp only [Act.put, List.setIfInBounds_toArray, List.set_cons_succ, List.set_cons_zero]
  refine wpFree_one rfl (.pointer (some ⟨g, f, none⟩)) (fun w1 _ => by kernel_rfl) ?_
  simp only [Act.put, List.setIfInBounds_toArray, List.set_cons_succ, List.set_cons_zero]
  refine wpFree_one rfl (.pointer (some ⟨g, f, none⟩)) (fun w1 _ => by kernel_rfl) ?_
  simp only [Act.put, List.setIfInBounds_toArray, List.set_cons_succ, List.set_cons_zero]
  refine wpFree_one rfl (.pointer (some ⟨g, f + 1, none⟩)) (fun w1 _ => by kernel_rfl) ?_
  simp only [Act.put, List.setIfInBounds_toArray, List.set_cons_succ, List.set_cons_zero]
  refine wpFree_one rfl (.pointer (some ⟨g, f + 2, none⟩)) (fun w1 _ => by kernel_rfl) ?_
  simp only [Act.put, List.setIfInBounds_toArray, List.set_cons_succ, List.set_cons_zero]
  refine wpFree_loadF F rfl rfl rfl rfl List.mem_cons_self I.out.c2 Try.underlying25 ?_
  simp only [Act.put, List.setIfInBounds_toArray, List.set_cons_succ, List.set_cons_zero]
  refine wpFree_one rfl (.float .f32 x) (fun w1 _ => by kernel_rfl) ?_
  simp only [Act.put, List.setIfInBounds_toArray, List.set_cons_succ, List.set_cons_zero]
  refine wpFree_farith rfl rfl rfl rfl rfl (fun r83 h83 f83 => ?_)
  simp only [Act.put, List.setIfInBounds_toArray, List.set_cons_succ, List.set_cons_zero]
  refine wpFree_farith rfl rfl rfl rfl rfl (fun r84 h84 f84 => ?_)
  simp only [Act.put, List.setIfInBounds_toArray, List.set_cons_succ, List.set_cons_zero]
  refine wpFree_one rfl (.float .f32 r84) (fun w1 _ => by kernel_rfl) ?_
  simp only [Act.put, List.setIfInBounds_toArray, List.set_cons_succ, List.set_cons_zero]
  refine wpFree_nil (fun w3 hw3 _ => ?_)
  replace U := hid ((U.out.le (le_drewN _ 1)).le hw3)
  replace F := Frm.one (((F.drewN 1).le hw3).row List.mem_cons_self)
  clear hw3 c0 c1 c2 c3 c4 c5
  have e : can .f32 r84 = outF 2 a b c x 0 s := (by rw [h84.out]; exact fop_congr (h76.out.trans (can_fop _ _ _ _).symm) (h83.out.trans (can_fop _ _ _ _).symm))
  have hf := f84
  replace e := hid e
  go_wp2
  refine region_tail (fun _ _ _ v => v = .float .f32 (kept s)) 6 (by kernel_rfl) (by kernel_rfl) ?_
  simp only [List.take_succ_cons, List.take_zero, List.drop_succ_cons, List.drop_zero]
  refine wpFree_one rfl (.pointer (some ⟨g, f, none⟩)) (fun w1 _ => by kernel_rfl) ?_
  simp only [Act.put, List.setIfInBounds_toArray, List.set_cons_succ, List.set_cons_zero]
  refine wpFree_one rfl (.float .f32 s) (fun w1 _ => by kernel_rfl) ?_
  simp only [Act.put, List.setIfInBounds_toArray, List.set_cons_succ, List.set_cons_zero]
  refine wpFree_call rfl rfl Try.func61 (by kernel_rfl) (by kernel_rfl) (args := #[.float .f32 s]) (by simp [Act.eval]) (fun _ _ _ _ h => h) (fun w1 _ => (s_Kept s w1 Hs.out).mono ?_) ?_
  · rintro e w2 ⟨rfl, n, rfl⟩
    exact ⟨_, rfl, le_drewN _ n, rfl⟩
  rintro v ⟨_, _, rfl⟩
  simp only [Act.put, List.setIfInBounds_toArray, List.set_cons_succ, List.set_cons_zero]
  refine wpFree_one rfl (.pointer (some ⟨g, f, none⟩)) (fun w1 _ => by kernel_rfl) ?_
  simp only [Act.put, List.setIfInBounds_toArray, List.set_cons_succ, List.set_cons_zero]
  refine wpFree_one rfl (.pointer (some ⟨g, f + 4, none⟩)) (fun w1 _ => by kernel_rfl) ?_
  simp only [Act.put, List.setIfInBounds_toArray, List.set_cons_succ, List.set_cons_zero]
  refine wpFree_one rfl (.pointer (some ⟨g, f + 4, none⟩)) (fun w1 _ => by kernel_rfl) ?_
  simp only [Act.put, List.setIfInBounds_toArray, List.set_cons_succ, List.set_cons_zero]
  refine wpFree_nil (fun w5 hw5 _ => ?_)
  have RR := ((F.drewN 1).le hw5).row List.mem_cons_self
  replace U := hid (((U.out.le (le_drewN _ 1)).le hw5).setCell (a := ⟨g, f + 4, none⟩) rfl (.float .f32 (kept s)))
  have cc : w5.cell? ⟨g, f + 4, none⟩ = some (.float .f32 x) := (RR.cell? (f + 4)).trans I.out.c4
  have ff := RR.frozen (f + 4)
  have RN : Row (w5.setCell ⟨g, f + 4, none⟩ (.float .f32 (kept s))) g t (cs.setIfInBounds (f + 4) (.float .f32 (kept s))) := RR.set (f + 4) (.float .f32 (kept s))
  replace RR := hid RR
  clear hw5 F
  have F := Frm.one RN
  clear RN
  have RN := hid (F.row List.mem_cons_self)
  clear F
  go_wp2
  go_ret
  refine ⟨_, rfl, e.out, hf.out, ?_, U.out⟩
  have e0 : (kept s) = st0 2 a b c x 0 s := by rfl
  have e1 : 0 = st1 2 a b c x 0 s := by rfl
  rw [← e0, ← e1]
  rw [set_same (i := f + 5) (by rw [Array.getElem?_setIfInBounds_ne (by omega)]; exact I.out.c5)]
  exact RN.out
set_option maxRecDepth 100000 in
set_option maxHeartbeats 2000000 in
theorem s_StepAt3 (a b c x y s g f : Nat) (t : TypeId) (cs : Array Value) (w : World) (R : Row w g t cs) (I : FilIn cs f 3 a b c x y) (hx : fits .f32 x) (hs : fits .f32 s) :
    Calls Try.prog 46 #[.pointer (some ⟨g, f, none⟩), .float .f32 s] w (OutSt 3 a b c x y s g f t cs w) := by
  have Hx := hid hx; have Hs := hid hs; clear hx hs
  have F := Frm.one R
  have U := hid (Upd.refl g w)
  have c0 := (R.cell? f).trans I.k0
  have c1 := (R.cell? (f + 1)).trans I.c1
  have c2 := (R.cell? (f + 2)).trans I.c2
  have c3 := (R.cell? (f + 3)).trans I.c3
  have c4 := (R.cell? (f + 4)).trans I.c4
  have c5 := (R.cell? (f + 5)).trans I.c5
  replace I := hid I
  clear R
  go_enter Try.func46, Try.ntmps46
  go_wp2_with (with_reducible refine wpList_farith rfl rfl rfl rfl rfl ?_; intro r n hr hf)
  rename_i r1 n1 h1 f1 r2 n2 h2 f2 KK aa
  clear c0 c1 c2 c3 c4 c5
  have e : can .f32 r = outF 3 a b c x y s := (by rw [hr.out]; exact fop_congr (h2.out.trans ((fop_congr rfl (h1.out.trans (can_fop _ _ _ _).symm)).trans (can_fop _ _ _ _).symm)) rfl)
  replace U := hid (U.out.le (le_drewN _ (n1 + n2 + n)))
  replace F := Frm.one ((F.drewN (n1 + n2 + n)).row List.mem_cons_self)
  replace e := hid e
  refine region_tail (fun _ _ _ v => v = .float .f32 (kept s)) 6 (by kernel_rfl) (by kernel_rfl) ?_
  simp only [List.take_succ_cons, List.take_zero, List.drop_succ_cons, List.drop_zero]
  refine wpFree_one rfl (.pointer (some ⟨g, f, none⟩)) (fun w1 _ => by kernel_rfl) ?_
  simp only [Act.put, List.setIfInBounds_toArray, List.set_cons_succ, List.set_cons_zero]
  refine wpFree_one rfl (.float .f32 s) (fun w1 _ => by kernel_rfl) ?_
  simp only [Act.put, List.setIfInBounds_toArray, List.set_cons_succ, List.set_cons_zero]
  refine wpFree_call rfl rfl Try.func61 (by kernel_rfl) (by kernel_rfl) (args := #[.float .f32 s]) (by simp [Act.eval]) (fun _ _ _ _ h => h) (fun w1 _ => (s_Kept s w1 Hs.out).mono ?_) ?_
  · rintro e w2 ⟨rfl, n, rfl⟩
    exact ⟨_, rfl, le_drewN _ n, rfl⟩
  rintro v ⟨_, _, rfl⟩
  simp only [Act.put, List.setIfInBounds_toArray, List.set_cons_succ, List.set_cons_zero]
  refine wpFree_one rfl (.pointer (some ⟨g, f, none⟩)) (fun w1 _ => by kernel_rfl) ?_
  simp only [Act.put, List.setIfInBounds_toArray, List.set_cons_succ, List.set_cons_zero]
  refine wpFree_one rfl (.pointer (some ⟨g, f + 4, none⟩)) (fun w1 _ => by kernel_rfl) ?_
  simp only [Act.put, List.setIfInBounds_toArray, List.set_cons_succ, List.set_cons_zero]
  refine wpFree_one rfl (.pointer (some ⟨g, f + 4, none⟩)) (fun w1 _ => by kernel_rfl) ?_
  simp only [Act.put, List.setIfInBounds_toArray, List.set_cons_succ, List.set_cons_zero]
  refine wpFree_nil (fun w5 hw5 _ => ?_)
  have RR := ((F.drewN 1).le hw5).row List.mem_cons_self
  replace U := hid (((U.out.le (le_drewN _ 1)).le hw5).setCell (a := ⟨g, f + 4, none⟩) rfl (.float .f32 (kept s)))
  have cc : w5.cell? ⟨g, f + 4, none⟩ = some (.float .f32 x) := (RR.cell? (f + 4)).trans I.out.c4
  have ff := RR.frozen (f + 4)
  have RN : Row (w5.setCell ⟨g, f + 4, none⟩ (.float .f32 (kept s))) g t (cs.setIfInBounds (f + 4) (.float .f32 (kept s))) := RR.set (f + 4) (.float .f32 (kept s))
  replace RR := hid RR
  clear hw5 F
  have F := Frm.one RN
  clear RN
  go_wp2
  refine region_tail (fun _ _ _ v => v = .float .f32 (kept r)) 6 (by kernel_rfl) (by kernel_rfl) ?_
  simp only [List.take_succ_cons, List.take_zero, List.drop_succ_cons, List.drop_zero]
  refine wpFree_one rfl (.pointer (some ⟨g, f, none⟩)) (fun w1 _ => by kernel_rfl) ?_
  simp only [Act.put, List.setIfInBounds_toArray, List.set_cons_succ, List.set_cons_zero]
  refine wpFree_one rfl (.float .f32 r) (fun w1 _ => by kernel_rfl) ?_
  simp only [Act.put, List.setIfInBounds_toArray, List.set_cons_succ, List.set_cons_zero]
  refine wpFree_call rfl rfl Try.func61 (by kernel_rfl) (by kernel_rfl) (args := #[.float .f32 r]) (by simp [Act.eval]) (fun _ _ _ _ h => h) (fun w1 _ => (s_Kept r w1 hf.out).mono ?_) ?_
  · rintro e w2 ⟨rfl, n, rfl⟩
    exact ⟨_, rfl, le_drewN _ n, rfl⟩
  rintro v ⟨_, _, rfl⟩
  simp only [Act.put, List.setIfInBounds_toArray, List.set_cons_succ, List.set_cons_zero]
  refine wpFree_one rfl (.pointer (some ⟨g, f, none⟩)) (fun w1 _ => by kernel_rfl) ?_
  simp only [Act.put, List.setIfInBounds_toArray, List.set_cons_succ, List.set_cons_zero]
  refine wpFree_one rfl (.pointer (some ⟨g, f + 4, none⟩)) (fun w1 _ => by kernel_rfl) ?_
  simp only [Act.put, List.setIfInBounds_toArray, List.set_cons_succ, List.set_cons_zero]
  refine wpFree_one rfl (.pointer (some ⟨g, f + 5, none⟩)) (fun w1 _ => by kernel_rfl) ?_
  simp only [Act.put, List.setIfInBounds_toArray, List.set_cons_succ, List.set_cons_zero]
  refine wpFree_nil (fun w5 hw5 _ => ?_)
  have RR := ((F.drewN 1).le hw5).row List.mem_cons_self
  replace U := hid (((U.out.le (le_drewN _ 1)).le hw5).setCell (a := ⟨g, f + 5, none⟩) rfl (.float .f32 (kept r)))
  have cc : w5.cell? ⟨g, f + 5, none⟩ = some (.float .f32 y) := (RR.cell? (f + 5)).trans (by rw [Array.getElem?_setIfInBounds_ne (by omega)]; exact I.out.c5)
  have ff := RR.frozen (f + 5)
  have RN : Row (w5.setCell ⟨g, f + 5, none⟩ (.float .f32 (kept r))) g t ((cs.setIfInBounds (f + 4) (.float .f32 (kept s))).setIfInBounds (f + 5) (.float .f32 (kept r))) := RR.set (f + 5) (.float .f32 (kept r))
  replace RR := hid RR
  clear hw5 F
  have F := Frm.one RN
  clear RN
  have RN := hid (F.row List.mem_cons_self)
  clear F
  go_wp2
  go_ret
  refine ⟨_, rfl, e.out, hf.out, ?_, U.out⟩
  have e0 : (kept s) = st0 3 a b c x y s := by rfl
  have e1 : (kept r) = st1 3 a b c x y s := by exact kept_can (e.out.trans (can_outF _ _ _ _ _ _ _).symm)
  rw [← e0, ← e1]
  exact RN.out
set_option maxRecDepth 100000 in
set_option maxHeartbeats 2000000 in
theorem s_StepAt4 (a b c x y s g f : Nat) (t : TypeId) (cs : Array Value) (w : World) (R : Row w g t cs) (I : FilIn cs f 4 a b c x y) (hx : fits .f32 x) (hs : fits .f32 s) :
    Calls Try.prog 46 #[.pointer (some ⟨g, f, none⟩), .float .f32 s] w (OutSt 4 a b c x y s g f t cs w) := by
  have Hx := hid hx; have Hs := hid hs; clear hx hs
  have F := Frm.one R
  have U := hid (Upd.refl g w)
  have c0 := (R.cell? f).trans I.k0
  have c1 := (R.cell? (f + 1)).trans I.c1
  have c2 := (R.cell? (f + 2)).trans I.c2
  have c3 := (R.cell? (f + 3)).trans I.c3
  have c4 := (R.cell? (f + 4)).trans I.c4
  have c5 := (R.cell? (f + 5)).trans I.c5
  replace I := hid I
  clear R
  go_enter Try.func46, Try.ntmps46
  go_wp2
  refine region_free (fun _ _ _ _ => True) (by kernel_rfl) (by kernel_rfl) ?_
  refine wpFree_one rfl (.pointer (some ⟨g, f, none⟩)) (fun w1 _ => by kernel_rfl) ?_
  simp only [Act.put, List.setIfInBounds_toArray, List.set_cons_succ, List.set_cons_zero]
  refine wpFree_one rfl (.pointer (some ⟨g, f, none⟩)) (fun w1 _ => by kernel_rfl) ?_
  simp only [Act.put, List.setIfInBounds_toArray, List.set_cons_succ, List.set_cons_zero]
  refine wpFree_one rfl (.pointer (some ⟨g, f + 1, none⟩)) (fun w1 _ => by kernel_rfl) ?_
  simp only [Act.put, List.setIfInBounds_toArray, List.set_cons_succ, List.set_cons_zero]
  refine wpFree_one rfl (.pointer (some ⟨g, f + 1, none⟩)) (fun w1 _ => by kernel_rfl) ?_
  simp only [Act.put, List.setIfInBounds_toArray, List.set_cons_succ, List.set_cons_zero]
  refine wpFree_loadF F rfl rfl rfl rfl List.mem_cons_self I.out.c1 Try.underlying25 ?_
  simp only [Act.put, List.setIfInBounds_toArray, List.set_cons_succ, List.set_cons_zero]
  refine wpFree_one rfl (.float .f32 s) (fun w1 _ => by kernel_rfl) ?_
  simp only [Act.put, List.setIfInBounds_toArray, List.set_cons_succ, List.set_cons_zero]
  refine wpFree_farith rfl rfl rfl rfl rfl (fun r124 h124 f124 => ?_)
  simp only [Act.put, List.setIfInBounds_toArray, List.set_cons_succ, List.set_cons_zero]
  refine wpFree_one rfl (.pointer (some ⟨g, f, none⟩)) (fun w1 _ => by kernel_rfl) ?_
  simp only [Act.put, List.setIfInBounds_toArray, List.set_cons_succ, List.set_cons_zero]
  refine wpFree_one rfl (.pointer (some ⟨g, f, none⟩)) (fun w1 _ => by kernel_rfl) ?_
  simp only [Act.put, List.setIfInBounds_toArray, List.set_cons_succ, List.set_cons_zero]
  refine wpFree_one rfl (.pointer (some ⟨g, f + 1, none⟩)) (fun w1 _ => by kernel_rfl) ?_
  simp only [Act.put, List.setIfInBounds_toArray, List.set_cons_succ, List.set_cons_zero]
  refine wpFree_one rfl (.pointer (some ⟨g, f + 2, none⟩)) (fun w1 _ => by kernel_rfl) ?_
  simp only [Act.put, List.setIfInBounds_toArray, List.set_cons_succ, List.set_cons_zero]
  refine wpFree_loadF F rfl rfl rfl rfl List.mem_cons_self I.out.c2 Try.underlying25 ?_
  simp only [Act.put, List.setIfInBounds_toArray, List.set_cons_succ, List.set_cons_zero]
  refine wpFree_one rfl (.float .f32 x) (fun w1 _ => by kernel_rfl) ?_
  simp only [Act.put, List.setIfInBounds_toArray, List.set_cons_succ, List.set_cons_zero]
  refine wpFree_farith rfl rfl rfl rfl rfl (fun r131 h131 f131 => ?_)
  simp only [Act.put, List.setIfInBounds_toArray, List.set_cons_succ, List.set_cons_zero]
  refine wpFree_farith rfl rfl rfl rfl rfl (fun r132 h132 f132 => ?_)
  simp only [Act.put, List.setIfInBounds_toArray, List.set_cons_succ, List.set_cons_zero]
  refine wpFree_one rfl (.pointer (some ⟨g, f, none⟩)) (fun w1 _ => by kernel_rfl) ?_
  simp only [Act.put, List.setIfInBounds_toArray, List.set_cons_succ, List.set_cons_zero]
  refine wpFree_one rfl (.pointer (some ⟨g, f, none⟩)) (fun w1 _ => by kernel_rfl) ?_
  simp only [Act.put, List.setIfInBounds_toArray, List.set_cons_succ, List.set_cons_zero]
  refine wpFree_one rfl (.pointer (some ⟨g, f + 1, none⟩)) (fun w1 _ => by kernel_rfl) ?_
  simp only [Act.put, List.setIfInBounds_toArray, List.set_cons_succ, List.set_cons_zero]
  refine wpFree_one rfl (.pointer (some ⟨g, f + 3, none⟩)) (fun w1 _ => by kernel_rfl) ?_
  simp only [Act.put, List.setIfInBounds_toArray, List.set_cons_succ, List.set_cons_zero]
  refine wpFree_loadF F rfl rfl rfl rfl List.mem_cons_self I.out.c3 Try.underlying25 ?_
  simp only [Act.put, List.setIfInBounds_toArray, List.set_cons_succ, List.set_cons_zero]
  refine wpFree_one rfl (.float .f32 y) (fun w1 _ => by kernel_rfl) ?_
  simp only [Act.put, List.setIfInBounds_toArray, List.set_cons_succ, List.set_cons_zero]
  refine wpFree_farith rfl rfl rfl rfl rfl (fun r139 h139 f139 => ?_)
  simp only [Act.put, List.setIfInBounds_toArray, List.set_cons_succ, List.set_cons_zero]
  refine wpFree_farith rfl rfl rfl rfl rfl (fun r140 h140 f140 => ?_)
  simp only [Act.put, List.setIfInBounds_toArray, List.set_cons_succ, List.set_cons_zero]
  refine wpFree_one rfl (.float .f32 r140) (fun w1 _ => by kernel_rfl) ?_
  simp only [Act.put, List.setIfInBounds_toArray, List.set_cons_succ, List.set_cons_zero]
  refine wpFree_nil (fun w3 hw3 _ => ?_)
  replace U := hid ((U.out.le (le_drewN _ 1)).le hw3)
  replace F := Frm.one (((F.drewN 1).le hw3).row List.mem_cons_self)
  clear hw3 c0 c1 c2 c3 c4 c5
  have e : can .f32 r140 = outF 4 a b c x y s := (by rw [h140.out]; exact fop_congr (h132.out.trans ((fop_congr (h124.out.trans (can_fop _ _ _ _).symm) (h131.out.trans (can_fop _ _ _ _).symm)).trans (can_fop _ _ _ _).symm)) (h139.out.trans (can_fop _ _ _ _).symm))
  have hf := f140
  replace e := hid e
  go_wp2
  refine region_tail (fun _ _ _ v => v = .float .f32 (kept x)) 6 (by kernel_rfl) (by kernel_rfl) ?_
  simp only [List.take_succ_cons, List.take_zero, List.drop_succ_cons, List.drop_zero]
  refine wpFree_one rfl (.pointer (some ⟨g, f, none⟩)) (fun w1 _ => by kernel_rfl) ?_
  simp only [Act.put, List.setIfInBounds_toArray, List.set_cons_succ, List.set_cons_zero]
  refine wpFree_one rfl (.float .f32 x) (fun w1 _ => by kernel_rfl) ?_
  simp only [Act.put, List.setIfInBounds_toArray, List.set_cons_succ, List.set_cons_zero]
  refine wpFree_call rfl rfl Try.func61 (by kernel_rfl) (by kernel_rfl) (args := #[.float .f32 x]) (by simp [Act.eval]) (fun _ _ _ _ h => h) (fun w1 _ => (s_Kept x w1 Hx.out).mono ?_) ?_
  · rintro e w2 ⟨rfl, n, rfl⟩
    exact ⟨_, rfl, le_drewN _ n, rfl⟩
  rintro v ⟨_, _, rfl⟩
  simp only [Act.put, List.setIfInBounds_toArray, List.set_cons_succ, List.set_cons_zero]
  refine wpFree_one rfl (.pointer (some ⟨g, f, none⟩)) (fun w1 _ => by kernel_rfl) ?_
  simp only [Act.put, List.setIfInBounds_toArray, List.set_cons_succ, List.set_cons_zero]
  refine wpFree_one rfl (.pointer (some ⟨g, f + 4, none⟩)) (fun w1 _ => by kernel_rfl) ?_
  simp only [Act.put, List.setIfInBounds_toArray, List.set_cons_succ, List.set_cons_zero]
  refine wpFree_one rfl (.pointer (some ⟨g, f + 5, none⟩)) (fun w1 _ => by kernel_rfl) ?_
  simp only [Act.put, List.setIfInBounds_toArray, List.set_cons_succ, List.set_cons_zero]
  refine wpFree_nil (fun w5 hw5 _ => ?_)
  have RR := ((F.drewN 1).le hw5).row List.mem_cons_self
  replace U := hid (((U.out.le (le_drewN _ 1)).le hw5).setCell (a := ⟨g, f + 5, none⟩) rfl (.float .f32 (kept x)))
  have cc : w5.cell? ⟨g, f + 5, none⟩ = some (.float .f32 y) := (RR.cell? (f + 5)).trans I.out.c5
  have ff := RR.frozen (f + 5)
  have RN : Row (w5.setCell ⟨g, f + 5, none⟩ (.float .f32 (kept x))) g t (cs.setIfInBounds (f + 5) (.float .f32 (kept x))) := RR.set (f + 5) (.float .f32 (kept x))
  replace RR := hid RR
  clear hw5 F
  have F := Frm.one RN
  clear RN
  go_wp2
  refine region_tail (fun _ _ _ v => v = .float .f32 (kept r140)) 6 (by kernel_rfl) (by kernel_rfl) ?_
  simp only [List.take_succ_cons, List.take_zero, List.drop_succ_cons, List.drop_zero]
  refine wpFree_one rfl (.pointer (some ⟨g, f, none⟩)) (fun w1 _ => by kernel_rfl) ?_
  simp only [Act.put, List.setIfInBounds_toArray, List.set_cons_succ, List.set_cons_zero]
  refine wpFree_one rfl (.float .f32 r140) (fun w1 _ => by kernel_rfl) ?_
  simp only [Act.put, List.setIfInBounds_toArray, List.set_cons_succ, List.set_cons_zero]
  refine wpFree_call rfl rfl Try.func61 (by kernel_rfl) (by kernel_rfl) (args := #[.float .f32 r140]) (by simp [Act.eval]) (fun _ _ _ _ h => h) (fun w1 _ => (s_Kept r140 w1 hf.out).mono ?_) ?_
  · rintro e w2 ⟨rfl, n, rfl⟩
    exact ⟨_, rfl, le_drewN _ n, rfl⟩
  rintro v ⟨_, _, rfl⟩
  simp only [Act.put, List.setIfInBounds_toArray, List.set_cons_succ, List.set_cons_zero]
  refine wpFree_one rfl (.pointer (some ⟨g, f, none⟩)) (fun w1 _ => by kernel_rfl) ?_
  simp only [Act.put, List.setIfInBounds_toArray, List.set_cons_succ, List.set_cons_zero]
  refine wpFree_one rfl (.pointer (some ⟨g, f + 4, none⟩)) (fun w1 _ => by kernel_rfl) ?_
  simp only [Act.put, List.setIfInBounds_toArray, List.set_cons_succ, List.set_cons_zero]
  refine wpFree_one rfl (.pointer (some ⟨g, f + 4, none⟩)) (fun w1 _ => by kernel_rfl) ?_
  simp only [Act.put, List.setIfInBounds_toArray, List.set_cons_succ, List.set_cons_zero]
  refine wpFree_nil (fun w5 hw5 _ => ?_)
  have RR := ((F.drewN 1).le hw5).row List.mem_cons_self
  replace U := hid (((U.out.le (le_drewN _ 1)).le hw5).setCell (a := ⟨g, f + 4, none⟩) rfl (.float .f32 (kept r140)))
  have cc : w5.cell? ⟨g, f + 4, none⟩ = some (.float .f32 x) := (RR.cell? (f + 4)).trans (by rw [Array.getElem?_setIfInBounds_ne (by omega)]; exact I.out.c4)
  have ff := RR.frozen (f + 4)
  have RN : Row (w5.setCell ⟨g, f + 4, none⟩ (.float .f32 (kept r140))) g t ((cs.setIfInBounds (f + 5) (.float .f32 (kept x))).setIfInBounds (f + 4) (.float .f32 (kept r140))) := RR.set (f + 4) (.float .f32 (kept r140))
  replace RR := hid RR
  clear hw5 F
  have F := Frm.one RN
  clear RN
  have RN := hid (F.row List.mem_cons_self)
  clear F
  go_wp2
  go_ret
  refine ⟨_, rfl, e.out, hf.out, ?_, U.out⟩
  have e0 : (kept r140) = st0 4 a b c x y s := by exact kept_can (e.out.trans (can_outF _ _ _ _ _ _ _).symm)
  have e1 : (kept x) = st1 4 a b c x y s := by rfl
  rw [← e0, ← e1]
  rw [set_swap (show f + 4 ≠ f + 5 by omega)]
  exact RN.out
set_option maxRecDepth 100000 in
set_option maxHeartbeats 2000000 in
theorem s_StepAt5 (a b c x y s g f : Nat) (t : TypeId) (cs : Array Value) (w : World) (R : Row w g t cs) (I : FilIn cs f 5 a b c x y) (hx : fits .f32 x) (hs : fits .f32 s) :
    Calls Try.prog 46 #[.pointer (some ⟨g, f, none⟩), .float .f32 s] w (OutSt 5 a b c x y s g f t cs w) := by
  have Hx := hid hx; have Hs := hid hs; clear hx hs
  have F := Frm.one R
  have U := hid (Upd.refl g w)
  have c0 := (R.cell? f).trans I.k0
  have c1 := (R.cell? (f + 1)).trans I.c1
  have c2 := (R.cell? (f + 2)).trans I.c2
  have c3 := (R.cell? (f + 3)).trans I.c3
  have c4 := (R.cell? (f + 4)).trans I.c4
  have c5 := (R.cell? (f + 5)).trans I.c5
  replace I := hid I
  clear R
  go_enter Try.func46, Try.ntmps46
  go_wp2_with (with_reducible refine wpList_farith rfl rfl rfl rfl rfl ?_; intro r n hr hf)
  rename_i r1 n1 h1 f1 r2 n2 h2 f2 KK aa
  clear c0 c1 c2 c3 c4 c5
  have e : can .f32 r = outF 5 a b c x y s := (by rw [hr.out]; exact fop_congr (h1.out.trans (can_fop _ _ _ _).symm) (h2.out.trans (can_fop _ _ _ _).symm))
  replace U := hid (U.out.le (le_drewN _ (n1 + n2 + n)))
  replace F := Frm.one ((F.drewN (n1 + n2 + n)).row List.mem_cons_self)
  replace e := hid e
  refine region_tail (fun _ _ _ v => v = .float .f32 (kept s)) 6 (by kernel_rfl) (by kernel_rfl) ?_
  simp only [List.take_succ_cons, List.take_zero, List.drop_succ_cons, List.drop_zero]
  refine wpFree_one rfl (.pointer (some ⟨g, f, none⟩)) (fun w1 _ => by kernel_rfl) ?_
  simp only [Act.put, List.setIfInBounds_toArray, List.set_cons_succ, List.set_cons_zero]
  refine wpFree_one rfl (.float .f32 s) (fun w1 _ => by kernel_rfl) ?_
  simp only [Act.put, List.setIfInBounds_toArray, List.set_cons_succ, List.set_cons_zero]
  refine wpFree_call rfl rfl Try.func61 (by kernel_rfl) (by kernel_rfl) (args := #[.float .f32 s]) (by simp [Act.eval]) (fun _ _ _ _ h => h) (fun w1 _ => (s_Kept s w1 Hs.out).mono ?_) ?_
  · rintro e w2 ⟨rfl, n, rfl⟩
    exact ⟨_, rfl, le_drewN _ n, rfl⟩
  rintro v ⟨_, _, rfl⟩
  simp only [Act.put, List.setIfInBounds_toArray, List.set_cons_succ, List.set_cons_zero]
  refine wpFree_one rfl (.pointer (some ⟨g, f, none⟩)) (fun w1 _ => by kernel_rfl) ?_
  simp only [Act.put, List.setIfInBounds_toArray, List.set_cons_succ, List.set_cons_zero]
  refine wpFree_one rfl (.pointer (some ⟨g, f + 4, none⟩)) (fun w1 _ => by kernel_rfl) ?_
  simp only [Act.put, List.setIfInBounds_toArray, List.set_cons_succ, List.set_cons_zero]
  refine wpFree_one rfl (.pointer (some ⟨g, f + 4, none⟩)) (fun w1 _ => by kernel_rfl) ?_
  simp only [Act.put, List.setIfInBounds_toArray, List.set_cons_succ, List.set_cons_zero]
  refine wpFree_nil (fun w5 hw5 _ => ?_)
  have RR := ((F.drewN 1).le hw5).row List.mem_cons_self
  replace U := hid (((U.out.le (le_drewN _ 1)).le hw5).setCell (a := ⟨g, f + 4, none⟩) rfl (.float .f32 (kept s)))
  have cc : w5.cell? ⟨g, f + 4, none⟩ = some (.float .f32 x) := (RR.cell? (f + 4)).trans I.out.c4
  have ff := RR.frozen (f + 4)
  have RN : Row (w5.setCell ⟨g, f + 4, none⟩ (.float .f32 (kept s))) g t (cs.setIfInBounds (f + 4) (.float .f32 (kept s))) := RR.set (f + 4) (.float .f32 (kept s))
  replace RR := hid RR
  clear hw5 F
  have F := Frm.one RN
  clear RN
  go_wp2
  refine region_tail (fun _ _ _ v => v = .float .f32 (kept r)) 6 (by kernel_rfl) (by kernel_rfl) ?_
  simp only [List.take_succ_cons, List.take_zero, List.drop_succ_cons, List.drop_zero]
  refine wpFree_one rfl (.pointer (some ⟨g, f, none⟩)) (fun w1 _ => by kernel_rfl) ?_
  simp only [Act.put, List.setIfInBounds_toArray, List.set_cons_succ, List.set_cons_zero]
  refine wpFree_one rfl (.float .f32 r) (fun w1 _ => by kernel_rfl) ?_
  simp only [Act.put, List.setIfInBounds_toArray, List.set_cons_succ, List.set_cons_zero]
  refine wpFree_call rfl rfl Try.func61 (by kernel_rfl) (by kernel_rfl) (args := #[.float .f32 r]) (by simp [Act.eval]) (fun _ _ _ _ h => h) (fun w1 _ => (s_Kept r w1 hf.out).mono ?_) ?_
  · rintro e w2 ⟨rfl, n, rfl⟩
    exact ⟨_, rfl, le_drewN _ n, rfl⟩
  rintro v ⟨_, _, rfl⟩
  simp only [Act.put, List.setIfInBounds_toArray, List.set_cons_succ, List.set_cons_zero]
  refine wpFree_one rfl (.pointer (some ⟨g, f, none⟩)) (fun w1 _ => by kernel_rfl) ?_
  simp only [Act.put, List.setIfInBounds_toArray, List.set_cons_succ, List.set_cons_zero]
  refine wpFree_one rfl (.pointer (some ⟨g, f + 4, none⟩)) (fun w1 _ => by kernel_rfl) ?_
  simp only [Act.put, List.setIfInBounds_toArray, List.set_cons_succ, List.set_cons_zero]
  refine wpFree_one rfl (.pointer (some ⟨g, f + 5, none⟩)) (fun w1 _ => by kernel_rfl) ?_
  simp only [Act.put, List.setIfInBounds_toArray, List.set_cons_succ, List.set_cons_zero]
  refine wpFree_nil (fun w5 hw5 _ => ?_)
  have RR := ((F.drewN 1).le hw5).row List.mem_cons_self
  replace U := hid (((U.out.le (le_drewN _ 1)).le hw5).setCell (a := ⟨g, f + 5, none⟩) rfl (.float .f32 (kept r)))
  have cc : w5.cell? ⟨g, f + 5, none⟩ = some (.float .f32 y) := (RR.cell? (f + 5)).trans (by rw [Array.getElem?_setIfInBounds_ne (by omega)]; exact I.out.c5)
  have ff := RR.frozen (f + 5)
  have RN : Row (w5.setCell ⟨g, f + 5, none⟩ (.float .f32 (kept r))) g t ((cs.setIfInBounds (f + 4) (.float .f32 (kept s))).setIfInBounds (f + 5) (.float .f32 (kept r))) := RR.set (f + 5) (.float .f32 (kept r))
  replace RR := hid RR
  clear hw5 F
  have F := Frm.one RN
  clear RN
  have RN := hid (F.row List.mem_cons_self)
  clear F
  go_wp2
  go_ret
  refine ⟨_, rfl, e.out, hf.out, ?_, U.out⟩
  have e0 : (kept s) = st0 5 a b c x y s := by rfl
  have e1 : (kept r) = st1 5 a b c x y s := by exact kept_can (e.out.trans (can_outF _ _ _ _ _ _ _).symm)
  rw [← e0, ← e1]
  exact RN.out
theorem s_StepAt (k : Int) (a b c x y s g f : Nat) (t : TypeId) (cs : Array Value) (w : World) (hv : okF k a b c x y = true) (R : Row w g t cs) (I : FilIn cs f k a b c x y) (hx : fits .f32 x) (hs : fits .f32 s) :
    Calls Try.prog 46 #[.pointer (some ⟨g, f, none⟩), .float .f32 s] w (OutSt k a b c x y s g f t cs w) := by
  have hk := okF_kind hv
  rcases (show k = 1 ∨ k = 2 ∨ k = 3 ∨ k = 4 ∨ k = 5 by omega) with rfl | rfl | rfl | rfl | rfl
  · exact s_StepAt1 a b c x y s g f t cs w R I hx hs (okF_y hv (.inl rfl))
  · exact s_StepAt2 a b c x y s g f t cs w R I hx hs (okF_y hv (.inr rfl))
  · exact s_StepAt3 a b c x y s g f t cs w R I hx hs
  · exact s_StepAt4 a b c x y s g f t cs w R I hx hs
  · exact s_StepAt5 a b c x y s g f t cs w R I hx hs
end Go.Proofs.Ythjdklolbkhbfaa

/- Equality of arrays of floats. Nothing here names a program. -/
namespace Go.Fk
open Go Go.RowKit
theorem run_all_loop {P : Program} (w : World) (c : Nat → Bool) (g : Nat → Option Bool × Unit → Sem (ForInStep (Option Bool × Unit))) : ∀ (l : List Nat),
    (∀ i, i ∈ l → ∀ s, (g i s).run P w = .ok (if c i then ForInStep.yield (none, ()) else ForInStep.done (some false, ())) w) →
    (forIn l ((none, ()) : Option Bool × Unit) g).run P w = .ok (if l.all c then (none, ()) else (some false, ())) w := by
  intro l
  induction l with
  | nil => intro _; rfl
  | cons i l ih =>
    intro h
    rw [List.forIn_cons, Sem.run_bind, h i (by simp) (none, ()), Result.andThen_ok]
    cases hc : c i
    · simp [hc]
    · simp only [if_true, hc, List.all_cons, Bool.true_and]
      exact ih (fun j hj => h j (by simp [hj]))

theorem run_equalIn_farr {P : Program} (w : World) (d n : Nat) {t e : TypeId} {k : FloatKind} (x y : Nat → Nat) (h : P.underlying t = some (.array n e)) (he : P.underlying e = some (.float k)) (hs : (P.info? e).map (·.size) = some 1) :
    (Op.equalIn (d + 2) t (.agg (ftab k x n)) (.agg (ftab k y n))).run P w = .ok ((List.range n).all (fun j => k.format.order (x j) (y j) == some .eq)) w := by
  cases hq : P.info? e with
  | none => simp [hq] at hs
  | some i =>
    have hsz : i.size = 1 := by simpa [hq] using hs
    unfold Op.equalIn
    simp only [Sem.run_bind, run_underlying h, Result.andThen_ok, sizeOf, typeInfo, hq, hsz, Nat.mul_one, run_program, Sem.run_pure, Std.Legacy.Range.forIn_eq_forIn_range']
    have key := run_all_loop (P := P) w (fun j => k.format.order (x j) (y j) == some .eq) (fun i _ => (do
            let a ← part e (ftab k x n) i
            let b ← part e (ftab k y n) i
            let r ← Op.equalIn (d + 1) e a b
            if (!r) = true then pure (ForInStep.done (some false, ())) else pure (ForInStep.yield (none, ())) : Sem (ForInStep (Option Bool × Unit)))) (List.range' 0 n) (by
      intro j hj s
      have hjn : j < n := by simpa using hj
      have p1 : ∀ z : Nat → Nat, (part e (ftab k z n) j).run P w = .ok (.float k (z j)) w := by
        intro z
        simp [part, isAgg, run_underlying he, get_ftab k z n j hjn]
      have p2 : (Op.equalIn (d + 1) e (.float k (x j)) (.float k (y j))).run P w = .ok (k.format.order (x j) (y j) == some .eq) w := by
        simp [Op.equalIn, run_underlying he, Op.floatEq]
      simp only [Sem.run_bind, p1, p2, Result.andThen_ok]
      cases (k.format.order (x j) (y j) == some .eq) <;> simp)
    have hr : [:n].size = n := by simp [Std.Legacy.Range.size]
    rw [hr, key, Result.andThen_ok, List.range_eq_range']
    cases (List.range' 0 n).all (fun j => k.format.order (x j) (y j) == some .eq) <;> simp
/-- '==' on arrays of floats. -/
theorem run_eql_farr {P : Program} (w : World) (n : Nat) {t e : TypeId} {k : FloatKind} (x y : Nat → Nat) (h : P.underlying t = some (.array n e)) (he : P.underlying e = some (.float k)) (hs : (P.info? e).map (·.size) = some 1) :
    (binOp .eql t (.agg (ftab k x n)) (.agg (ftab k y n))).run P w = .ok (.bool ((List.range n).all (fun j => k.format.order (x j) (y j) == some .eq))) w := by
  rw [run_eql_struct, run_equalIn_farr w 9998 n x y h he hs]; rfl
end Go.Fk

/- Stillness: 'IsStill', 'StepsToStill' of both. -/
namespace Go.Fk
open Go Go.RowKit
def zeroF (x : Nat) : Bool := FloatKind.f32.format.order x 0 == some .eq
def stillB (x y : Nat) : Bool := zeroF x && zeroF y
theorem stillB_arr (x y : Nat) : (List.range 2).all (fun j => FloatKind.f32.format.order (duo x y j) 0 == some .eq) = stillB x y := by
  simp [stillB, zeroF, duo, List.range_succ]
end Go.Fk
namespace Go.Proofs.Ythjdklolbkhbfaa
open Go.RowKit Go.Fk
end Go.Proofs.Ythjdklolbkhbfaa

/- How states go on, plainly. Nothing here names a program. -/
namespace Go.Fk
open Go Go.RowKit
theorem fits_fop (op : BinOp) (k : FloatKind) (x y : Nat) : fits k (fop op k x y) := by
  unfold fop
  split
  · rename_i r h
    unfold can; split
    · cases k <;> simp [fits, Lit.wf, qnan]
    · exact floatBits_wf h
  · cases k <;> simp [fits, Lit.wf, qnan]
theorem fits_outF (k : Int) (a b c x y s : Nat) : fits .f32 (outF k a b c x y s) := by
  unfold outF; split; exact fits_fop _ _ _ _; split; exact fits_fop _ _ _ _; split <;> exact fits_fop _ _ _ _
theorem fits_st1 {k : Int} {a b c x y s : Nat} (hx : fits .f32 x) : fits .f32 (st1 k a b c x y s) := by
  unfold st1; split; exact fits_zero; split; exact fits_kept hx; exact fits_kept (fits_outF _ _ _ _ _ _ _)
theorem fin_kept (v : Nat) : fin (kept v) = true := by
  unfold kept; split
  · rename_i h
    unfold flush; split
    · decide
    · exact h
  · decide
theorem usedB_three {a b c u : Nat} : usedB (tri a b c) 3 u = ((if 0 < u then fin a else sameB a 0) && (if 1 < u then fin b else sameB b 0) && (if 2 < u then fin c else sameB c 0)) := by
  simp [usedB, tri, List.range_succ, Bool.and_assoc]
theorem usedB_two {x y u : Nat} : usedB (duo x y) 2 u = ((if 0 < u then fin x else sameB x 0) && (if 1 < u then fin y else sameB y 0)) := by
  simp [usedB, duo, List.range_succ]
theorem same00 : sameB 0 0 = true := by decide
theorem okF_step {k : Int} {a b c x y s : Nat} (h : okF k a b c x y = true) : okF k a b c (st0 k a b c x y s) (st1 k a b c x y s) = true := by
  simp only [okF, Bool.and_eq_true] at h ⊢
  refine ⟨h.1, h.2.1, ?_⟩
  rw [usedB_two]
  have h0 : fin (st0 k a b c x y s) = true := by unfold st0; split <;> exact fin_kept _
  by_cases hk : k = 1 ∨ k = 2
  · have : sU k = 1 := by simp [sU, hk]
    have h1 : st1 k a b c x y s = 0 := by simp [st1, hk]
    rw [this, h1, h0]; simp [same00]
  · have : sU k = 2 := by simp [sU, hk]
    have h1 : fin (st1 k a b c x y s) = true := by unfold st1; rw [if_neg hk]; split <;> exact fin_kept _
    rw [this, h0, h1]; simp
/-- The states of a filter that gets zeros. -/
def stN (k : Int) (a b c x y : Nat) : Nat → Nat × Nat
  | 0 => (x, y)
  | n + 1 => (st0 k a b c (stN k a b c x y n).1 (stN k a b c x y n).2 0, st1 k a b c (stN k a b c x y n).1 (stN k a b c x y n).2 0)
theorem okF_stN {k : Int} {a b c x y : Nat} (h : okF k a b c x y = true) (n : Nat) : okF k a b c (stN k a b c x y n).1 (stN k a b c x y n).2 = true := by
  induction n with
  | zero => exact h
  | succ n ih => exact okF_step ih
theorem fits_stN {k : Int} {a b c x y : Nat} (hx : fits .f32 x) (hy : fits .f32 y) (n : Nat) : fits .f32 (stN k a b c x y n).1 ∧ fits .f32 (stN k a b c x y n).2 := by
  induction n with
  | zero => exact ⟨hx, hy⟩
  | succ n ih => exact ⟨fits_st0 fits_zero (fits_outF _ _ _ _ _ _ _), fits_st1 ih.1⟩
def stillN (k : Int) (a b c x y n : Nat) : Bool := stillB (stN k a b c x y n).1 (stN k a b c x y n).2
/-- What 'StepsToStill' gives. -/
def ResST (k : Int) (a b c x y K : Nat) (n code : Int) : Prop :=
  (code = 0 ∧ ∃ m : Nat, n = m ∧ m ≤ K ∧ stillN k a b c x y m = true ∧ ∀ i, i < m → stillN k a b c x y i = false) ∨ (code = 7 ∧ n = 0 ∧ ∀ i, i ≤ K → stillN k a b c x y i = false)
theorem ResST.one {k : Int} {a b c x y K : Nat} {n d n' d' : Int} (h : ResST k a b c x y K n d) (h' : ResST k a b c x y K n' d') : n = n' ∧ d = d' := by
  rcases h with ⟨rfl, m, rfl, h1, h2, h3⟩ | ⟨rfl, rfl, h1⟩ <;> rcases h' with ⟨rfl, m', rfl, h1', h2', h3'⟩ | ⟨rfl, rfl, h1'⟩
  · rcases Nat.lt_trichotomy m m' with h | h | h
    · rw [h3' m h] at h2; cases h2
    · subst h; exact ⟨rfl, rfl⟩
    · rw [h3 m' h] at h2'; cases h2'
  · rw [h1' m h1] at h2; cases h2
  · rw [h1 m' h1'] at h2'; cases h2'
  · exact ⟨rfl, rfl⟩
def OutST (k : Int) (a b c x y K : Nat) (w : World) (e : Ending) (w' : World) : Prop := ∃ n d, e = .returned (.tuple #[.int .i64 n, .int .i64 d]) ∧ ResST k a b c x y K n d ∧ le w w'
end Go.Fk

/- Strings, plainly: what they are, and their steps. Nothing here names a program. -/
namespace Go.Fk
open Go Go.RowKit
/-- A string: its samples, how many, the place of the oldest one, and the numbers of its filters. -/
structure StS where
  x : Nat → Nat
  n : Nat
  j : Nat
  ta : Nat
  tb : Nat
  tc : Nat
  tx : Nat
  ty : Nat
  da : Nat
  db : Nat
  dc : Nat
  dx : Nat
  dy : Nat
  l : Nat
/-- It is valid. -/
structure StS.Ok (q : StS) : Prop where
  n1 : 1 ≤ q.n
  n2 : q.n ≤ 1024
  j1 : q.j < q.n
  t : okF 3 q.ta q.tb q.tc q.tx q.ty = true
  d : okF 2 q.da q.db q.dc q.dx q.dy = true
  lf : fin q.l = true
  fta : fits .f32 q.ta
  ftb : fits .f32 q.tb
  ftc : fits .f32 q.tc
  ftx : fits .f32 q.tx
  fty : fits .f32 q.ty
  fda : fits .f32 q.da
  fdb : fits .f32 q.db
  fdc : fits .f32 q.dc
  fdx : fits .f32 q.dx
  fdy : fits .f32 q.dy
  fl : fits .f32 q.l
theorem outF_can (k : Int) (a b c x y s : Nat) : outF k a b c x y (can .f32 s) = outF k a b c x y s := by
  unfold outF
  split
  · rw [fop_can_r]
  · split
    · rw [fop_can_l]
    · split
      · rw [fop_can_r]
      · rw [fop_can_l]
theorem kept_of_can (a : Nat) : kept (can .f32 a) = kept a := kept_can (can_can _ _)
theorem st0_can (k : Int) (a b c x y s : Nat) : st0 k a b c x y (can .f32 s) = st0 k a b c x y s := by unfold st0; rw [outF_can, kept_of_can]
theorem st1_can (k : Int) (a b c x y s : Nat) : st1 k a b c x y (can .f32 s) = st1 k a b c x y s := by unfold st1; rw [outF_can]
theorem outF_congr {k : Int} {a b c x y s s' : Nat} (h : can .f32 s = can .f32 s') : outF k a b c x y s = outF k a b c x y s' := by rw [← outF_can, h, outF_can]
theorem st0_congr {k : Int} {a b c x y s s' : Nat} (h : can .f32 s = can .f32 s') : st0 k a b c x y s = st0 k a b c x y s' := by rw [← st0_can, h, st0_can]
theorem st1_congr {k : Int} {a b c x y s s' : Nat} (h : can .f32 s = can .f32 s') : st1 k a b c x y s = st1 k a b c x y s' := by rw [← st1_can, h, st1_can]
/-- What the filters of a string make of its oldest sample. -/
def y1S (q : StS) : Nat := outF 3 q.ta q.tb q.tc q.tx q.ty (q.x q.j)
def y2S (q : StS) : Nat := outF 2 q.da q.db q.dc q.dx q.dy (y1S q)
/-- The sample that comes in. -/
def nextS (q : StS) (a : Nat) : Nat := kept (fop .add .f32 (fop .mul .f32 (y2S q) q.l) a)
/-- The string behind a step. -/
def stepS (q : StS) (a : Nat) : StS :=
  { q with x := pushX q.x q.j (nextS q a), j := (q.j + 1) % q.n, tx := st0 3 q.ta q.tb q.tc q.tx q.ty (q.x q.j), ty := st1 3 q.ta q.tb q.tc q.tx q.ty (q.x q.j), dx := st0 2 q.da q.db q.dc q.dx q.dy (y1S q), dy := st1 2 q.da q.db q.dc q.dx q.dy (y1S q) }
theorem kept_fop_can (op : BinOp) (x y : Nat) : kept (fop op .f32 x (can .f32 y)) = kept (fop op .f32 x y) := by rw [fop_can_r]
theorem nextS_can (q : StS) (a : Nat) : nextS q (can .f32 a) = nextS q a := by unfold nextS; rw [fop_can_r]
theorem fits_can {a : Nat} (h : fits .f32 a) : fits .f32 (can .f32 a) := by
  unfold can; split
  · simp [fits, Lit.wf, qnan]
  · exact h
theorem fits_nextS (q : StS) (a : Nat) : fits .f32 (nextS q a) := fits_kept (fits_fop _ _ _ _)
theorem StS.Ok.step {q : StS} (h : q.Ok) (a : Nat) (hf : fits .f32 (q.x q.j)) : (stepS q a).Ok where
  n1 := h.n1
  n2 := h.n2
  j1 := Nat.mod_lt _ h.n1
  t := okF_step h.t
  d := okF_step h.d
  lf := h.lf
  fta := h.fta
  ftb := h.ftb
  ftc := h.ftc
  ftx := show fits .f32 (st0 3 q.ta q.tb q.tc q.tx q.ty (q.x q.j)) from fits_st0 hf (fits_outF _ _ _ _ _ _ _)
  fty := show fits .f32 (st1 3 q.ta q.tb q.tc q.tx q.ty (q.x q.j)) from fits_st1 h.ftx
  fda := h.fda
  fdb := h.fdb
  fdc := h.fdc
  fdx := show fits .f32 (st0 2 q.da q.db q.dc q.dx q.dy (y1S q)) from fits_st0 (fits_outF _ _ _ _ _ _ _) (fits_outF _ _ _ _ _ _ _)
  fdy := show fits .f32 (st1 2 q.da q.db q.dc q.dx q.dy (y1S q)) from fits_st1 h.fdx
  fl := h.fl
/-- Is a sample heard? -/
def loudB (a : Nat) : Nat := if zeroF a = true then 0 else 1
theorem zeroF_can (a : Nat) : zeroF (can .f32 a) = zeroF a := by unfold zeroF; rw [order_can_l]
theorem loudB_can (a : Nat) : loudB (can .f32 a) = loudB a := by unfold loudB; rw [zeroF_can]
/-- How many of the first samples are heard. -/
def loudN (x : Nat → Nat) : Nat → Nat
  | 0 => 0
  | n + 1 => loudN x n + loudB (x n)
theorem loudN_congr {x y : Nat → Nat} {n : Nat} (h : ∀ i, i < n → x i = y i) : loudN x n = loudN y n := by
  induction n with
  | zero => rfl
  | succ n ih => simp only [loudN]; rw [ih (fun i hi => h i (by omega)), h n (by omega)]
theorem loudN_push {x : Nat → Nat} {n j a : Nat} (hj : j < n) : loudN (pushX x j a) n + loudB (x j) = loudN x n + loudB a := by
  induction n with
  | zero => omega
  | succ n ih =>
    simp only [loudN]
    by_cases e : j = n
    · subst e
      rw [loudN_congr (y := x) (fun i hi => by simp [pushX, show i ≠ j by omega])]
      simp [pushX, loudB_can]; omega
    · have := ih (by omega)
      have e2 : pushX x j a n = x n := by simp [pushX, show n ≠ j by omega]
      rw [e2]; omega
theorem loudN_le (x : Nat → Nat) (n : Nat) : loudN x n ≤ n := by
  induction n with
  | zero => exact Nat.le_refl _
  | succ n ih => simp only [loudN]; have : loudB (x n) ≤ 1 := by unfold loudB; split <;> omega
                 omega
theorem loudN_zero {x : Nat → Nat} {n : Nat} : loudN x n = 0 ↔ ∀ i, i < n → zeroF (x i) = true := by
  induction n with
  | zero => simp [loudN]
  | succ n ih =>
    simp only [loudN]
    constructor
    · intro h i hi
      rcases Nat.lt_or_ge i n with h1 | h1
      · exact ih.1 (by omega) i h1
      · obtain rfl : i = n := by omega
        have : loudB (x i) = 0 := by omega
        unfold loudB at this
        split at this
        · assumption
        · omega
    · intro h
      have h1 := ih.2 (fun i hi => h i (by omega))
      have h2 : loudB (x n) = 0 := by unfold loudB; rw [if_pos (h n (by omega))]
      omega
/-- Is a string silent? -/
def silS (q : StS) : Bool := decide (loudN q.x q.n = 0) && (stillB q.tx q.ty && stillB q.dx q.dy)
end Go.Fk

/- A bow's meeting of waves, in the model. -/
namespace Go.Fk
open Go Go.RowKit
/-- What comes from the bridge, from the neck, and the difference of speeds. -/
def uBow (l a b c p q y : Nat) : Nat := can .f32 (neg .f32 (fop .mul .f32 l (outF 1 a b c p q y)))
def vBow (x : Nat) : Nat := can .f32 (neg .f32 x)
def dBow (sp u v : Nat) : Nat := fop .sub .f32 sp (fop .add .f32 u v)
theorem chg_updB {g : Nat} {w w' : World} (h : Upd g w w') : Chg (· = g) w w' := ⟨h.os, h.tape, h.output, h.size, fun k hk hn => h.block k hk hn⟩
end Go.Fk
namespace Go.Proofs.Ythjdklolbkhbfaa
open Go.RowKit Go.Fk
theorem inBow (s t : Value) (j k : Nat) (a b c p q m l : Nat) : FilIn #[s, .int .i64 (j : Nat), t, .int .i64 (k : Nat), .int .i64 1, .float .f32 a, .float .f32 b, .float .f32 c, .float .f32 p, .float .f32 q, .float .f32 m, .float .f32 l] 4 1 a b c p q := ⟨rfl, rfl, rfl, rfl, rfl, rfl⟩
set_option maxRecDepth 100000 in
set_option maxHeartbeats 4000000 in
theorem s_l05Draw (x y : Nat → Nat) (nx ny j k a b c p q m l sp : Nat) (s t : Value) (lo hi lo2 hi2 g : Nat) (w : World)
    (R : Row w g 38 #[s, .int .i64 (j : Nat), t, .int .i64 (k : Nat), .int .i64 1, .float .f32 a, .float .f32 b, .float .f32 c, .float .f32 p, .float .f32 q, .float .f32 m, .float .f32 l])
    (O1 : OwnS w lo hi s x nx) (O2 : OwnS w lo2 hi2 t y ny) (hj : j < nx) (hk : k < ny) (n1 : nx ≤ 1024) (n2 : ny ≤ 1024) (g1 : ¬ (lo ≤ g ∧ g < hi)) (hv : okF 1 a b c p q = true) (hp : fits .f32 p) :
    Calls Try.prog 25 #[.pointer (some ⟨g, 0, none⟩), .float .f32 sp] w fun e w' => ∃ u v d, e = .returned (.tuple #[.float .f32 u, .float .f32 v, .float .f32 d]) ∧ can .f32 u = uBow l a b c p q (y k) ∧ can .f32 v = vBow (x j) ∧ can .f32 d = dBow sp (uBow l a b c p q (y k)) (vBow (x j)) ∧ fits .f32 u ∧ fits .f32 v ∧ fits .f32 d ∧
      Row w' g 38 #[s, .int .i64 (j : Nat), t, .int .i64 (k : Nat), .int .i64 1, .float .f32 a, .float .f32 b, .float .f32 c, .float .f32 (st0 1 a b c p q (y k)), .float .f32 (st1 1 a b c p q (y k)), .float .f32 m, .float .f32 l] ∧ Chg (· = g) w w' := by
  rcases O1 with ⟨rfl, h0⟩ | ⟨d1, o1, cap1, ds1, rfl, hc1, hm1, hb1, hb1', hrow1, hx1⟩
  · omega
  rcases O2 with ⟨rfl, h0⟩ | ⟨d2, o2, cap2, ds2, rfl, hc2, hm2, hb2, hb2', hrow2, hx2⟩
  · omega
  obtain ⟨yx, ex, fx, cx⟩ := hx1 j hj
  obtain ⟨yy, ey, fy, cy⟩ := hx2 k hk
  have c2 := R.cell? 2
  have c3 := R.cell? 3
  have cb : w.cell? ⟨d2, o2 + k, none⟩ = some (.float .f32 yy) := (hrow2.cell? (o2 + k)).trans ey
  have RR := hid R; have HR1 := hid hrow1; have HX := hid ex; have HC := hid cy; have HCX := hid cx; have HV := hid hv
  clear R hrow1 hrow2 hx1 hx2 ex ey cy cx hv
  unfold maxLen at hm1 hm2
  go_enter Try.func25, Try.ntmps25
  go_wp2_with fail
  refine wp_region_tail (fun _ _ _ => True) 15 (by kernel_rfl) (by kernel_rfl) ?_; simp only [List.take_succ_cons, List.take_zero, List.drop_succ_cons, List.drop_zero]
  repeat (first | (refine wpLoose_quiet rfl ?_; go_big_quiet_step (fail); refine wpQuiet_nil ?_) | (refine wpLoose_nilP rfl rfl rfl ?_; simp only [Act.put, List.setIfInBounds_toArray, List.set_cons_succ, List.set_cons_zero]))
  refine wpLoose_nil (fun m1 => ?_)
  clear c2 c3 cb
  have HCY : Hid (can .f32 yy = can .f32 (y k)) := by unfold Hid; rw [← HC.out, can_can]
  go_wp2_with (first | (with_reducible refine wpList_farith rfl rfl rfl rfl rfl ?_; intro r2 n2 hr2 hf2) | (go_at_call 46; ((with_reducible refine (s_StepAt 1 a b c p q yy g 4 _ _ _ HV.out (RR.out.drewN _) (inBow _ _ j k a b c p q m l) hp fy).mono ?_); rintro e w1 ⟨r1, rfl, hr1, fr1, hR1, hU1⟩; rw [st0_congr HCY.out, st1_congr HCY.out] at hR1; have R1 := hid (show Row w1 g 38 #[(.slice (some ⟨d1, o1, none⟩) nx cap1), .int .i64 (j : Nat), (.slice (some ⟨d2, o2, none⟩) ny cap2), .int .i64 (k : Nat), .int .i64 1, .float .f32 a, .float .f32 b, .float .f32 c, .float .f32 (st0 1 a b c p q (y k)), .float .f32 (st1 1 a b c p q (y k)), .float .f32 m, .float .f32 l] from by simpa using hR1); have HC1 := hid (hr1.trans (outF_congr HCY.out)); have U1 := hid (chg_updB hU1); have c11 := R1.out.cell? 11; have c0 := R1.out.cell? 0; have c1 := R1.out.cell? 1; have F1 := hid fr1; clear hR1 hr1 hU1)))
  have cbx : w1.cell? ⟨d1, o1 + j, none⟩ = some (.float .f32 yx) := ((U1.out.row (HR1.out.drewN _) (fun e => g1 (by subst e; exact ⟨hb1, hb1'⟩))).cell? (o1 + j)).trans HX.out
  refine wp_region_loose (fun _ _ _ => True) (by kernel_rfl) (by kernel_rfl) ?_
  repeat (first | (refine wpLoose_quiet rfl ?_; go_big_quiet_step (fail); refine wpQuiet_nil ?_) | (refine wpLoose_nilP rfl rfl rfl ?_; simp only [Act.put, List.setIfInBounds_toArray, List.set_cons_succ, List.set_cons_zero]))
  refine wpLoose_nil (fun m2 => ?_)
  go_wp2_with (first | (with_reducible refine wpList_farith (op := .add) rfl rfl rfl rfl rfl ?_; intro r3 n3 hr3 hf3) | (with_reducible refine wpList_farith (op := .sub) rfl rfl rfl rfl rfl ?_; intro r4 n4 hr4 hf4))
  go_ret3
  have e1 : can .f32 (neg .f32 r2) = uBow l a b c p q (y k) := neg_congr (hr2.out.trans ((fop_congr rfl (HC1.out.trans (can_outF _ _ _ _ _ _ _).symm)).trans (can_fop _ _ _ _).symm))
  have e2 : can .f32 (neg .f32 yx) = vBow (x j) := neg_congr (by rw [← HCX.out, can_can])
  have e3 : can .f32 (uBow l a b c p q (y k)) = uBow l a b c p q (y k) := can_can _ _
  have e4 : can .f32 (vBow (x j)) = vBow (x j) := can_can _ _
  refine ⟨_, _, _, rfl, e1, e2, ?_, fits_neg hf2.out, fits_neg fx, hf4.out, R1.out.le ?_, Chg.le ((Chg.of_le (le_drewN _ _)).trans U1.out) ?_⟩
  · exact hr4.out.trans (fop_congr rfl (hr3.out.trans ((fop_congr (e1.trans e3.symm) (e2.trans e4.symm)).trans (can_fop _ _ _ _).symm)))
  all_goals first | exact le_drewN _ _ | exact le_trans (le_drewN _ _) (le_drewN _ _) | exact le_trans (le_drewN _ _) (le_trans (le_drewN _ _) (le_drewN _ _)) | exact le_trans (le_drewN _ _) (le_trans (le_drewN _ _) (le_trans (le_drewN _ _) (le_drewN _ _)))
end Go.Proofs.Ythjdklolbkhbfaa

/- As FreeD, where one operation (with the index c) may write what all others leave as it is: it comes up but once. Nothing here names a program. -/
namespace Go.Fk
open Go Go.RowKit
section
variable (E0 E1 : Ext) (c : Nat) (Vc : World → Value → Prop) (P : Program) (ops : Array Oper) (md : Region.Mode) (W : World) (K : FuncId → Array Value → World → Value → Prop)
def preE (i : Nat) : Ext := if i = c then E0 else E1
def stepE (i : Nat) : Ext := if i = c then E1 else E0
def YieldsP (i : Nat) (o : Oper) (a : Act) (F : Facts) (V : World → Value → Prop) : Prop :=
  MonoT E1 V ∧ (i = c → V = Vc) ∧ ((Region.wanted o (yielded ops a.tmps) = true ∧ ∀ w, (preE E0 E1 c i).R W w → behind md o F w → insideT (stepE E0 E1 c i) P K w V ((execOp a.eval o).run P w)) ∨ (i ≠ c ∧ Region.wanted o (yielded ops a.tmps) = false ∧ ∀ w, E1.R W w → behind md o F w → V w undef))
def wpFreeP (Q : Act → World → Prop) : List Oper → Nat → Act → Facts → Prop
  | [], _, a, F => ∀ w, E1.R W w → (∀ e, F e w) → Q a w
  | o :: rest, k, a, F => ∃ V, YieldsP E0 E1 c Vc P ops md W K k o a F V ∧ ∀ v, met E1 W F (fun w => V w v) → wpFreeP Q rest (k + 1) (a.put o.dst v) (F.with k (fun w => V w v))
def anyFreeP (n : Nat) (L : Array Bool → Act → Facts → Prop) : Nat → Array Bool → Act → Facts → Prop
  | 0, listed, a, F => L listed a F
  | f + 1, listed, a, F => Region.ready md ops listed ≠ [] ∧
      ∀ i ∈ Region.ready md ops listed, i < n ∧ ∀ o, ops[i]? = some o → ∃ V, YieldsP E0 E1 c Vc P ops md W K i o a F V ∧ ∀ v, met E1 W F (fun w => V w v) → anyFreeP n L f (listed.setIfInBounds i true) (a.put o.dst v) (F.with i (fun w => V w v))
end
section
variable {E0 E1 : Ext} {c : Nat} {Vc : World → Value → Prop} {P : Program} {ops : Array Oper} {md : Region.Mode} {W : World} {K : FuncId → Array Value → World → Value → Prop}
theorem stepE_sub (hs : ∀ w w', E0.R w w' → E1.R w w') {i : Nat} {w w' : World} (h : (stepE E0 E1 c i).R w w') : E1.R w w' := by
  unfold stepE at h
  split at h
  · exact h
  · exact hs _ _ h
theorem YieldsP.some (hs : ∀ w w', E0.R w w' → E1.R w w') (hVc : ∀ w, E1.R W w → ∃ v w', E1.R w w' ∧ Vc w' v) {i : Nat} {o : Oper} {a : Act} {F : Facts} {V : World → Value → Prop} (hm : FMono E1 F) (hx : met E1 W F (fun _ => True)) (h : YieldsP E0 E1 c Vc P ops md W K i o a F V) : ∃ v, met E1 W F (fun w => V w v) := by
  obtain ⟨w, hw, hF, _⟩ := hx
  by_cases e : i = c
  · obtain ⟨v, w', hl, hv⟩ := hVc w hw
    exact ⟨v, w', E1.trans hw hl, hm w w' hl hF, by rw [h.2.1 e]; exact hv⟩
  · rcases h.2.2 with ⟨_, h⟩ | ⟨_, _, h⟩
    · obtain ⟨v, w', hl, hv⟩ := insideT_some (h w (by unfold preE; rw [if_neg e]; exact hw) (fun e _ _ => hF e.on))
      have hl' := stepE_sub hs hl
      exact ⟨v, w', E1.trans hw hl', hm w w' hl' hF, hv⟩
    · exact ⟨undef, w, hw, hF, h w hw (fun e _ _ => hF e.on)⟩
theorem YieldsP.same {i : Nat} {o : Oper} {a a' : Act} {F : Facts} {V : World → Value → Prop} (he : execOp a'.eval o = execOp a.eval o) (hw : Region.wanted o (yielded ops a'.tmps) = Region.wanted o (yielded ops a.tmps))
    (h : YieldsP E0 E1 c Vc P ops md W K i o a F V) : YieldsP E0 E1 c Vc P ops md W K i o a' F V := by
  unfold YieldsP at *; rw [he, hw]; exact h
theorem YieldsP.less {j : Nat} {o : Oper} {a : Act} {F : Facts} {i : Nat} {X : World → Prop} {V : World → Value → Prop} (hn : ∀ e ∈ o.after, Region.binds md e = true → e.on ≠ i) (h : YieldsP E0 E1 c Vc P ops md W K j o a (F.with i X) V) : YieldsP E0 E1 c Vc P ops md W K j o a F V := by
  have key : ∀ w, behind md o F w → behind md o (F.with i X) w := fun w hw e he hb => ⟨hw e he hb, fun h => absurd h (hn e he hb)⟩
  refine ⟨h.1, h.2.1, ?_⟩
  rcases h.2.2 with ⟨h1, h2⟩ | ⟨h0, h1, h2⟩
  · exact .inl ⟨h1, fun w hw hb => h2 w hw (key w hb)⟩
  · exact .inr ⟨h0, h1, fun w hw hb => h2 w hw (key w hb)⟩
theorem YieldsP.stronger {j : Nat} {o : Oper} {a : Act} {F F' : Facts} {V : World → Value → Prop} (hF : ∀ e w, F' e w → F e w) (h : YieldsP E0 E1 c Vc P ops md W K j o a F V) : YieldsP E0 E1 c Vc P ops md W K j o a F' V := by
  have key : ∀ w, behind md o F' w → behind md o F w := fun w hw e he hb => hF _ _ (hw e he hb)
  refine ⟨h.1, h.2.1, ?_⟩
  rcases h.2.2 with ⟨h1, h2⟩ | ⟨h0, h1, h2⟩
  · exact .inl ⟨h1, fun w hw hb => h2 w hw (key w hb)⟩
  · exact .inr ⟨h0, h1, fun w hw hb => h2 w hw (key w hb)⟩
theorem YieldsP.more {j : Nat} {o : Oper} {a : Act} {F : Facts} {i : Nat} {X : World → Prop} {V : World → Value → Prop} (h : YieldsP E0 E1 c Vc P ops md W K j o a F V) : YieldsP E0 E1 c Vc P ops md W K j o a (F.with i X) V := h.stronger (fun _ _ h => h.1)
theorem insideT_mono {E E' : Ext} (hE : ∀ w w', E.R w w' → E'.R w w') {V : World → Value → Prop} {w : World} {r : Result Next} (h : insideT E P K w V r) : insideT E' P K w V r := by
  cases r with
  | ok n w' =>
    cases n <;> simp only [insideT] at h ⊢
    case value u => exact ⟨hE _ _ h.1, h.2⟩
    case skip => exact ⟨hE _ _ h.1, h.2⟩
    case enter f args => exact ⟨hE _ _ h.1, h.2.1.mono (fun e w'' ⟨v, e1, e2, e3⟩ => ⟨v, e1, hE _ _ e2, e3⟩), h.2.2⟩
  | halt x w' => simp only [insideT] at h
theorem wpOp_yieldsP {i : Nat} {o : Oper} {a : Act} {w : World} {F : Facts} {V : World → Value → Prop} {next : Act → World → Prop} {Q' : Exit → Act → World → Prop} (ho : ops[i]? = some o) (hw1 : E1.R W w) (hw : (preE E0 E1 c i).R W w) (hF : ∀ e, F e w) (hg : YieldsP E0 E1 c Vc P ops md W K i o a F V)
    (hn : ∀ v w', (stepE E0 E1 c i).R w w' → V w' v → next (a.put o.dst v) w') : wpOp P ops Q' i next a w := by
  unfold wpOp
  simp only [ho]
  rcases hg.2.2 with ⟨hwant, hv⟩ | ⟨_, hwant, hv⟩
  · rw [if_pos hwant]
    left
    have h3 := hv w hw (fun e _ _ => hF e.on)
    unfold Oper.wp
    generalize (execOp a.eval o).run P w = r at h3
    cases r with
    | ok x w' =>
      cases x <;> simp only [insideT] at h3 <;> simp only [Oper.upon]
      case value u => exact hn u _ h3.1 h3.2
      case skip => exact hn undef _ h3.1 h3.2
      case enter f args =>
        refine h3.2.1.mono fun e w'' he => ?_
        obtain ⟨v, rfl, hl, hk⟩ := he
        exact hn v _ ((stepE E0 E1 c i).trans h3.1 hl) (h3.2.2 w'' v hk)
    | halt x w' => simp only [insideT] at h3
  · rw [if_neg (by simp [hwant])]
    exact hn undef _ ((stepE E0 E1 c i).refl w) (hv w hw1 (fun e _ _ => hF e.on))
theorem anyFreeP_sound (hs : ∀ w w', E0.R w w' → E1.R w w') {n g : Nat} {L : Array Bool → Act → Facts → Prop} {Q' : Exit → Act → World → Prop} (hL : ∀ listed a F w, E1.R W w → (∀ e, F e w) → L listed a F → wpAny P md ops Q' g listed a w) :
    ∀ (f : Nat) (listed : Array Bool) (a : Act) (F : Facts) (w : World), FMono E1 F → E1.R W w → (listed.getD c true = false → E0.R W w) → (∀ e, F e w) → anyFreeP E0 E1 c Vc P ops md W K n L f listed a F → wpAny P md ops Q' (f + g) listed a w := by
  intro f
  induction f with
  | zero => intro listed a F w _ hw _ hF h; rw [Nat.zero_add]; exact hL _ _ _ _ hw hF h
  | succ f ih =>
    intro listed a F w hm hw hph hF h
    rw [show f + 1 + g = (f + g) + 1 by omega]
    refine ⟨fun h0 => absurd h0 h.1, fun i hi => ?_⟩
    obtain ⟨hun, o, ho, _⟩ := mem_ready.1 hi
    obtain ⟨V, hg, hn⟩ := (h.2 i hi).2 o ho
    have hpre : (preE E0 E1 c i).R W w := by
      unfold preE
      split
      · next e => subst e; exact hph hun
      · exact hw
    refine wpOp_yieldsP ho hw hpre hF hg (fun v w' hl hv => ih _ _ _ _ (hm.with hg.1 i v) (E1.trans hw (stepE_sub hs hl)) (fun hc => ?_) (Facts.with_mk (hm w w' (stepE_sub hs hl) hF) hv) (hn v ⟨w', E1.trans hw (stepE_sub hs hl), hm w w' (stepE_sub hs hl) hF, hv⟩))
    by_cases e : i = c
    · subst e
      have hlt : i < listed.size := by
        apply Nat.lt_of_not_le
        intro hle
        simp [Array.getD, Nat.not_lt.2 hle] at hun
      simp [Array.getD, hlt] at hc
    · rw [getD_set_ne true e] at hc
      unfold stepE at hl
      rw [if_neg e] at hl
      exact E0.trans (hph hc) hl
theorem anyFreeP_weaken {n : Nat} {L : Array Bool → Act → Facts → Prop} (hLm : ∀ listed a F F', (∀ e w, F' e w → F e w) → L listed a F → L listed a F') :
    ∀ (f : Nat) (listed : Array Bool) (a : Act) (F F' : Facts), (∀ e w, F' e w → F e w) → anyFreeP E0 E1 c Vc P ops md W K n L f listed a F → anyFreeP E0 E1 c Vc P ops md W K n L f listed a F' := by
  intro f
  induction f with
  | zero => intro listed a F F' h hh; exact hLm _ _ _ _ h hh
  | succ f ih =>
    intro listed a F F' h hh
    refine ⟨hh.1, fun i hi => ⟨(hh.2 i hi).1, fun o ho => ?_⟩⟩
    obtain ⟨V, hg, hn⟩ := (hh.2 i hi).2 o ho
    exact ⟨V, hg.stronger h, fun v hv => ih _ _ _ _ (fun e w hw => ⟨h e w hw.1, hw.2⟩) (hn v (hv.weaken (fun w hw e => h e w (hw e))))⟩
theorem anyFreeP_first (hs : ∀ w w', E0.R w w' → E1.R w w') (hVc : ∀ w, E1.R W w → ∃ v w', E1.R w w' ∧ Vc w' v) {n i : Nat} {oi : Oper} {V : World → Value → Prop} {L : Array Bool → Act → Facts → Prop} (hi : ops[i]? = some oi) (hsel : ∀ (j : Nat) (o : Oper) cs b, ops[j]? = some o → o.op ≠ .select cs b)
    (hbound : ∀ listed i, HeadInv md ops n listed → i < n → listed.getD i true = false → ∀ j ∈ Region.ready md ops listed, j < n) (hin : i < n)
    (hdone : ∀ listed a F, L listed a F → ∀ j ∈ Region.ready md ops listed, n ≤ j) (hLm : ∀ listed a F F', (∀ e w, F' e w → F e w) → L listed a F → L listed a F') :
    ∀ (f : Nat) (listed : Array Bool) (a : Act) (F : Facts), HeadInv md ops n listed →
      (∀ j oj, ops[j]? = some oj → j ≠ i → listed.getD j true = false → (∀ e ∈ oj.after, Region.binds md e = true → e.on ≠ i) → oi.apart ops oj = true) →
      i ∈ Region.ready md ops listed → FMono E1 F → met E1 W F (fun _ => True) → YieldsP E0 E1 c Vc P ops md W K i oi a F V →
      (∀ v, met E1 W F (fun w => V w v) → anyFreeP E0 E1 c Vc P ops md W K n L f (listed.setIfInBounds i true) (a.put oi.dst v) (F.with i (fun w => V w v))) → anyFreeP E0 E1 c Vc P ops md W K n L (f + 1) listed a F := by
  intro f
  induction f with
  | zero =>
    intro listed a F inv _ hr hm hx hg H
    have hun := (mem_ready.1 hr).1
    refine ⟨fun h => (by rw [h] at hr; cases hr), fun j hj => ?_⟩
    have hjn := hbound listed i inv hin hun j hj
    refine ⟨hjn, fun o ho => ?_⟩
    by_cases hji : j = i
    · subst hji
      rw [hi] at ho; cases ho
      exact ⟨V, hg, H⟩
    · obtain ⟨v, hv⟩ := hg.some hs hVc hm hx
      have := hdone _ _ _ (H v hv) j (ready_mono hj hji)
      omega
  | succ f ih =>
    intro listed a F inv hfree hr hm hx hg H
    have hun := (mem_ready.1 hr).1
    refine ⟨fun h => (by rw [h] at hr; cases hr), fun j hj => ?_⟩
    have hjn := hbound listed i inv hin hun j hj
    refine ⟨hjn, fun o ho => ?_⟩
    by_cases hji : j = i
    · subst hji
      rw [hi] at ho; cases ho
      exact ⟨V, hg, H⟩
    · obtain ⟨hjun, oj, hoj, hall⟩ := mem_ready.1 hj
      rw [ho] at hoj; cases hoj
      have hnot : ∀ e ∈ o.after, Region.binds md e = true → e.on ≠ i := fun e he hb heq => by
        have h1 := hall e he hb
        rw [heq, getD_both hun] at h1
        cases h1
      have hap := hfree j o ho hji hjun hnot
      obtain ⟨a1, a2, a3⟩ := Oper.apart_spec hap
      have hsi := fun cs b => hsel i oi cs b hi
      have hsj := fun cs b => hsel j o cs b ho
      have hU : ∀ v : {v // met E1 W F (fun w => V w v)}, ∃ U, YieldsP E0 E1 c Vc P ops md W K j o (a.put oi.dst v.1) (F.with i (fun w => V w v.1)) U ∧ ∀ u, met E1 W (F.with i (fun w => V w v.1)) (fun w => U w u) →
          anyFreeP E0 E1 c Vc P ops md W K n L f ((listed.setIfInBounds i true).setIfInBounds j true) ((a.put oi.dst v.1).put o.dst u) ((F.with i (fun w => V w v.1)).with j (fun w => U w u)) :=
        fun v => ((H v.1 v.2).2 j (ready_mono hj hji)).2 o ho
      obtain ⟨U, hU⟩ := Classical.skolem.1 hU
      obtain ⟨v0, hv0⟩ := hg.some hs hVc hm hx
      have hone : ∀ v, YieldsP E0 E1 c Vc P ops md W K j o a F (U v) := fun v => ((hU v).1.same (execOp_put o hsj a oi.dst v.1 a1).symm (wanted_put o a oi.dst v.1 a1).symm).less hnot
      have hgood : YieldsP E0 E1 c Vc P ops md W K j o a F (fun w u => ∀ v, U v w u) := by
        refine ⟨fun u w w' hl h v => (hone v).1 u w w' hl (h v), fun e => ?_, ?_⟩
        · funext w u
          exact propext ⟨fun h => by have := h ⟨v0, hv0⟩; rw [(hone ⟨v0, hv0⟩).2.1 e] at this; exact this, fun h v => by rw [(hone v).2.1 e]; exact h⟩
        by_cases hw : Region.wanted o (yielded ops a.tmps) = true
        · refine .inl ⟨hw, fun w hw' hb => inside_allT ⟨⟨v0, hv0⟩, trivial⟩ (fun v => ?_)⟩
          rcases (hone v).2.2 with ⟨_, h3⟩ | ⟨_, h3, _⟩
          · exact h3 w hw' hb
          · rw [hw] at h3; cases h3
        · have hne : j ≠ c := by
            rcases (hone ⟨v0, hv0⟩).2.2 with ⟨h3, _⟩ | ⟨h3, _, _⟩
            · exact absurd h3 hw
            · exact h3
          refine .inr ⟨hne, by simpa using hw, fun w hw' hb v => ?_⟩
          rcases (hone v).2.2 with ⟨h3, _⟩ | ⟨_, _, h3⟩
          · exact absurd h3 hw
          · exact h3 w hw' hb
      refine ⟨_, hgood, ?_⟩
      intro u hu
      have hfree' : ∀ k ok, ops[k]? = some ok → k ≠ i → (listed.setIfInBounds j true).getD k true = false →
          (∀ e ∈ ok.after, Region.binds md e = true → e.on ≠ i) → oi.apart ops ok = true := fun k ok hk hki hun hno => by
        refine hfree k ok hk hki ?_ hno
        by_cases hjk : j = k
        · subst hjk; exact hjun
        · rw [getD_set_ne true hjk] at hun; exact hun
      have hx' : met E1 W (F.with j (fun w => ∀ v, U v w u)) (fun _ => True) := by
        obtain ⟨w, hw, hF, hv⟩ := hu
        exact ⟨w, hw, Facts.with_mk hF hv, trivial⟩
      refine ih (listed.setIfInBounds j true) (a.put o.dst u) (F.with j (fun w => ∀ v, U v w u)) (inv.set hj hjn) hfree' (ready_mono hr (Ne.symm hji)) (hm.with hgood.1 j u) hx' ((hg.same (execOp_put oi hsi a o.dst u a3) (wanted_put oi a o.dst u a3)).more) (fun v hv => ?_)
      rw [Array.setIfInBounds_comm _ _ hji, ← Act.put_comm a v u a2]
      obtain ⟨w, hw, hF, hVv⟩ := hv
      have hF' := Facts.with_of hF
      have mv : met E1 W F (fun w => V w v) := ⟨w, hw, hF'.1, hVv⟩
      exact anyFreeP_weaken hLm _ _ _ _ _ (fun e w' h' => ⟨⟨h'.1.1, h'.2⟩, fun he => h'.1.2 he ⟨v, mv⟩⟩) ((hU ⟨v, mv⟩).2 u ⟨w, hw, Facts.with_mk hF'.1 hVv, hF'.2 ⟨v, mv⟩⟩)

theorem anyFreeP_lex (hs : ∀ w w', E0.R w w' → E1.R w w') (hVc : ∀ w, E1.R W w → ∃ v w', E1.R w w' ∧ Vc w' v) {n g : Nat} {R : Act → World → Prop} (hsel : Region.noSelect ops = true)
    (hbound : ∀ listed i, HeadInv md ops n listed → i < n → listed.getD i true = false → ∀ j ∈ Region.ready md ops listed, j < n) :
    ∀ (l : List Oper) (k : Nat) (listed : Array Bool) (a : Act) (F : Facts), (∀ j, j < l.length → l[j]? = ops[k + j]?) → k + l.length = n → HeadInv md ops n listed →
    Region.lexHead md ops g l.length k listed = true → FMono E1 F → met E1 W F (fun _ => True) → wpFreeP E0 E1 c Vc P ops md W K R l k a F →
    anyFreeP E0 E1 c Vc P ops md W K n (fun listed' a' F' => Region.seqB md ops g n listed' = true ∧ ∀ w, E1.R W w → (∀ e, F' e w) → R a' w) l.length listed a F := by
  intro l
  induction l with
  | nil =>
    intro k listed a F _ hk _ hB _ _ h
    have : k = n := by simpa using hk
    subst this
    exact ⟨by simpa [Region.lexHead] using hB, h⟩
  | cons o l ih =>
    intro k listed a F hl hk inv hB hm hx h
    have h0 : ops[k]? = some o := by simpa using (hl 0 (by simp)).symm
    simp only [List.length_cons, Region.lexHead, Bool.and_eq_true] at hB
    obtain ⟨⟨hr, hf⟩, hB'⟩ := hB
    have hkn : k < n := by simp only [List.length_cons] at hk; omega
    have hr' : k ∈ Region.ready md ops listed := by simpa using hr
    obtain ⟨V, hg, hnext⟩ := h
    exact anyFreeP_first hs hVc h0 (Region.noSelect_spec hsel) hbound hkn (fun listed' a' F' hL => seqB_ready hL.1) (fun _ _ _ _ hF hL => ⟨hL.1, fun w hw h' => hL.2 w hw (fun e => hF e w (h' e))⟩) l.length listed a F inv (Region.free_spec h0 hf) hr' hm hx hg
      (fun v hv => ih (k + 1) _ _ _ (fun j hj => by have := hl (j + 1) (by simp; omega); simpa [Nat.add_assoc, Nat.add_comm 1 j] using this) (by simp only [List.length_cons] at hk; omega) (inv.set hr' hkn) hB' (hm.with hg.1 k v)
        (by obtain ⟨w, hw, hF, hv'⟩ := hv; exact ⟨w, hw, Facts.with_mk hF hv', trivial⟩) (hnext v hv))

/-- A REGION THAT DRAWS ITS ORDER, one of whose operations writes. -/
theorem region_freeP (hs : ∀ w w', E0.R w w' → E1.R w w') (K : FuncId → Array Value → World → Value → Prop) {id : Nat} {Q : Exit → Act → World → Prop} {a : Act} {w : World} {l : List Oper} (hVc : ∀ w', E1.R (w.drewN 1) w' → ∃ v w'', E1.R w' w'' ∧ Vc w'' v) (hm : P.follows .mixedOrders = true)
    (hB : (Region.noSelect l.toArray && Region.lexHead .any l.toArray 0 l.length 0 (Array.replicate l.toArray.size false)) = true)
    (h : wpFreeP E0 E1 c Vc P l.toArray .any (w.drewN 1) K (fun a' w' => Q .normal a' w') l 0 a noFacts) : (Code.region id l.toArray true).wp P Q a w := by
  simp only [Bool.and_eq_true] at hB
  obtain ⟨hsel, hlex⟩ := hB
  have hbound : ∀ listed i, HeadInv .any l.toArray l.length listed → i < l.length → listed.getD i true = false → ∀ j ∈ Region.ready .any l.toArray listed, j < l.length := by
    intro listed i _ _ _ j hj
    obtain ⟨_, oj, hoj, _⟩ := mem_ready.1 hj
    simpa using (Array.getElem?_eq_some_iff.1 hoj).1
  have H := anyFreeP_lex (md := .any) (g := 0) hs hVc hsel hbound l 0 _ a noFacts (fun j hj => by simp) (by simp) (head_start _ l.length) hlex (fun _ _ _ h => h) ⟨w.drewN 1, E1.refl _, fun _ => trivial, trivial⟩ h
  refine wp_region_any hm ?_
  have := anyFreeP_sound (Q' := Q) (W := w.drewN 1) (g := 0) hs (fun listed a' F w' hw' hF hL => ⟨by simpa [Region.seqB] using hL.1, hL.2 w' hw' hF⟩) _ _ _ _ _ (fun _ _ _ h => h) (E1.refl _) (fun _ => E0.refl _) (fun _ => trivial) H
  rw [Nat.add_zero] at this
  exact this
end
end Go.Fk

/- Regions with a call that writes: laws of single operations. Nothing here names a program. -/
namespace Go.Fk
open Go Go.RowKit
section
variable {E0 E1 : Ext} {c : Nat} {Vc : World → Value → Prop} {P : Program} {ops : Array Oper} {W : World} {K : FuncId → Array Value → World → Value → Prop} {Q : Act → World → Prop} {F : Facts} {k : Nat} {o : Oper} {rest : List Oper} {a : Act}
theorem wpFreeP_weaken : ∀ (l : List Oper) (k : Nat) (a : Act) (F F' : Facts), (∀ e w, F' e w → F e w) → wpFreeP E0 E1 c Vc P ops .any W K Q l k a F → wpFreeP E0 E1 c Vc P ops .any W K Q l k a F' := by
  intro l
  induction l with
  | nil => intro k a F F' h hh w hw hF; exact hh w hw (fun e => h e w (hF e))
  | cons o l ih =>
    intro k a F F' h hh
    obtain ⟨V, hg, hn⟩ := hh
    exact ⟨V, hg.stronger h, fun v hv => ih _ _ _ _ (fun e w hw => ⟨h e w hw.1, hw.2⟩) (hn v (hv.weaken (fun w hw e => h e w (hw e))))⟩
theorem wpFreeP_nil (h : ∀ w, E1.R W w → (∀ e, F e w) → Q a w) : wpFreeP E0 E1 c Vc P ops .any W K Q [] k a F := h
theorem wpFreeP_some (hk : k ≠ c) (hg : o.guard = none) (V : Value → Prop) (hr : ∀ w, E1.R W w → ∃ v n, (execOp a.eval o).run P w = .ok (.value v) (w.drewN n) ∧ V v)
    (h : ∀ v, V v → wpFreeP E0 E1 c Vc P ops .any W K Q rest (k + 1) (a.put o.dst v) (F.with k (fun _ => True))) : wpFreeP E0 E1 c Vc P ops .any W K Q (o :: rest) k a F := by
  refine ⟨fun _ u => V u, ⟨fun _ _ _ _ h => h, fun e => absurd e hk, .inl ⟨by simp [Region.wanted, hg], fun w hw _ => ?_⟩⟩, fun u hu => ?_⟩
  · obtain ⟨v, n, hrun, hv⟩ := hr w (by unfold preE at hw; rw [if_neg hk] at hw; exact hw)
    rw [hrun]; exact ⟨(stepE E0 E1 c k).of_le (le_drewN w n), hv⟩
  · obtain ⟨w, _, _, hv⟩ := hu
    exact wpFreeP_weaken _ _ _ _ _ (fun e w h => ⟨h.1, fun _ => trivial⟩) (h u hv)
theorem wpFreeP_one (hk : k ≠ c) (hg : o.guard = none) (v : Value) (hr : ∀ w, E1.R W w → (execOp a.eval o).run P w = .ok (.value v) w)
    (h : wpFreeP E0 E1 c Vc P ops .any W K Q rest (k + 1) (a.put o.dst v) (F.with k (fun _ => True))) : wpFreeP E0 E1 c Vc P ops .any W K Q (o :: rest) k a F :=
  wpFreeP_some hk hg (· = v) (fun w hw => ⟨v, 0, by rw [hr w hw]; rfl, rfl⟩) (by rintro u rfl; exact h)
theorem wpFreeP_quiet (hk : k ≠ c) (hnc : simple o.op = true) (h : wpQuiet P ops (fun _ => True) (fun a' => wpFreeP E0 E1 c Vc P ops .any W K Q rest (k + 1) a' (F.with k (fun _ => True))) [o] a) : wpFreeP E0 E1 c Vc P ops .any W K Q (o :: rest) k a F := by
  simp only [wpQuiet] at h
  by_cases hw : Region.wanted o (yielded ops a.tmps) = true
  · rw [if_pos hw] at h
    obtain ⟨v, h1, h2⟩ := h
    refine ⟨fun _ u => u = v, ⟨fun _ _ _ _ h => h, fun e => absurd e hk, .inl ⟨hw, fun w hw' _ => ?_⟩⟩, fun u hu => ?_⟩
    · have h3 := h1 w trivial
      unfold Oper.quietAt at h3
      generalize hrun : (execOp a.eval o).run P w = r at h3
      cases r with
      | ok n w' =>
        cases n <;> simp only [Oper.quietUpon] at h3 <;> simp only [insideT]
        case value u => exact ⟨by rw [h3.1]; exact (stepE E0 E1 c k).refl w, h3.2⟩
        case skip => exact ⟨by rw [h3.1]; exact (stepE E0 E1 c k).refl w, h3.2.symm⟩
        case enter f args => exact (noEnter hnc hrun).elim
      | halt x w' => simp only [Oper.quietUpon] at h3
    · obtain ⟨w, _, _, rfl⟩ := hu
      exact wpFreeP_weaken _ _ _ _ _ (fun e w h => ⟨h.1, fun _ => trivial⟩) h2
  · rw [if_neg hw] at h
    refine ⟨fun _ u => u = undef, ⟨fun _ _ _ _ h => h, fun e => absurd e hk, .inr ⟨hk, by simpa using hw, fun _ _ _ => rfl⟩⟩, fun u hu => ?_⟩
    obtain ⟨w, _, _, rfl⟩ := hu
    exact wpFreeP_weaken _ _ _ _ _ (fun e w h => ⟨h.1, fun _ => trivial⟩) h
theorem wpFreeP_farith (hk : k ≠ c) (hg : o.guard = none) {op : BinOp} {t t' : TypeId} {x y : Operand} (hop : o.op = Op.binOp op t x y t') (ho : arith op = true)
    {fk : FloatKind} {p q : Nat} (hx : a.eval x = .float fk p) (hy : a.eval y = .float fk q)
    (h : ∀ r, Hid (can fk r = fop op fk p q) → Hid (fits fk r) → wpFreeP E0 E1 c Vc P ops .any W K Q rest (k + 1) (a.put o.dst (.float fk r)) (F.with k (fun _ => True))) : wpFreeP E0 E1 c Vc P ops .any W K Q (o :: rest) k a F := by
  refine wpFreeP_some hk hg (fun v => ∃ r, v = .float fk r ∧ can fk r = fop op fk p q ∧ fits fk r) (fun w _ => ?_) ?_
  · obtain ⟨r, n, hrun, hr, hf⟩ := run_farith (P := P) w op ho t fk p q
    have he := eqGuard_float (P := P) w op t x y fk fk p q
    refine ⟨.float fk r, n, ?_, r, rfl, hr, hf⟩
    simp [execOp, hop, hx, hy, he, hrun, Result.andThen]
  · rintro v ⟨r, rfl, h1, h2⟩
    exact h r h1 h2
theorem wpFreeP_call (hk : k = c) (hg : o.guard = none) (hm : MonoT E1 Vc) (h1 : ∀ w, E0.R W w → insideT E1 P K w Vc ((execOp a.eval o).run P w))
    (h2 : ∀ v, (∃ w, E1.R W w ∧ Vc w v) → wpFreeP E0 E1 c Vc P ops .any W K Q rest (k + 1) (a.put o.dst v) (F.with k (fun w => Vc w v))) : wpFreeP E0 E1 c Vc P ops .any W K Q (o :: rest) k a F := by
  refine ⟨Vc, ⟨hm, fun _ => rfl, .inl ⟨by simp [Region.wanted, hg], fun w hw _ => ?_⟩⟩, fun v hv => h2 v (by obtain ⟨w, hw, _, h⟩ := hv; exact ⟨w, hw, h⟩)⟩
  unfold preE at hw
  rw [if_pos hk] at hw
  unfold stepE
  rw [if_pos hk]
  exact h1 w hw
/-- A REGION WITH FORCED LAST OPERATIONS (from number n on), one of whose first ones writes. -/
theorem region_tailP (hs : ∀ w w', E0.R w w' → E1.R w w') (K : FuncId → Array Value → World → Value → Prop) {id : Nat} {Q : Exit → Act → World → Prop} {a : Act} {w : World} {l : List Oper} (n : Nat) (hVc : ∀ w', E1.R (w.drewN 1) w' → ∃ v w'', E1.R w' w'' ∧ Vc w'' v) (hm : P.follows .mixedOrders = true) (hB : Region.lexTailB .any l.toArray n = true)
    (h : wpFreeP E0 E1 c Vc P l.toArray .any (w.drewN 1) K (fun a' w' => wpList P l.toArray Q (l.drop n) a' w') (l.take n) 0 a noFacts) : (Code.region id l.toArray true).wp P Q a w := by
  simp only [Region.lexTailB, Bool.and_eq_true, decide_eq_true_eq] at hB
  obtain ⟨⟨⟨⟨hsel, hn⟩, hs'⟩, hc⟩, hlex⟩ := hB
  have hn' : n < l.length := by simpa using hn
  have htl : (l.take n).length = n := by simp; omega
  have hdl : (l.drop n).length = l.toArray.size - n := by simp
  have hbound : ∀ listed i, HeadInv .any l.toArray n listed → i < n → listed.getD i true = false → ∀ j ∈ Region.ready .any l.toArray listed, j < n := by
    intro listed i inv hi hun j hj
    rcases Nat.lt_or_ge j n with h | h
    · exact h
    · exact absurd hj (tail_waits hs' hc hn inv _ i rfl hi hun j h)
  have H := anyFreeP_lex (md := .any) (g := l.toArray.size - n) hs hVc hsel hbound (l.take n) 0 _ a noFacts (fun j hj => by
    have hj' : j < n := by rw [htl] at hj; exact hj
    simp [hj']) (by simpa using htl) (head_start _ n) (by rw [htl]; exact hlex) (fun _ _ _ h => h) ⟨w.drewN 1, E1.refl _, fun _ => trivial, trivial⟩ h
  refine wp_region_any hm ?_
  have := anyFreeP_sound (Q' := Q) (W := w.drewN 1) (g := l.toArray.size - n) hs (fun listed a' F w' hw' hF hL => by
    have := wpAny_of_seq (md := .any) (Q' := Q) (l.drop n) n listed a' w' (fun j => by simp [List.getElem?_drop]) (by rw [hdl]; exact hL.1) (hL.2 w' hw' hF)
    rwa [hdl] at this) _ _ _ _ _ (fun _ _ _ h => h) (E1.refl _) (fun _ => E0.refl _) (fun _ => trivial) H
  rw [htl, show n + (l.toArray.size - n) = l.toArray.size by omega] at this
  exact this
end
/-- What may turn: before a call has run, all is as Pre says; behind it, as Post says. -/
def altE (S : Nat → Prop) (Pre Post : World → Prop) (h1 : ∀ w w', le w w' → Pre w → Pre w') (h2 : ∀ w w', le w w' → Post w → Post w') : Ext where
  R w w' := Chg S w w' ∧ (Post w → Post w') ∧ (Pre w ∨ Post w → Pre w' ∨ Post w')
  refl w := ⟨Chg.refl _ w, id, id⟩
  trans := by
    rintro a b c ⟨p1, p2, p3⟩ ⟨q1, q2, q3⟩
    exact ⟨p1.trans q1, fun h => q2 (p2 h), fun h => q3 (p3 h)⟩
  of_le := by
    intro a b h
    exact ⟨Chg.of_le h, h2 a b h, fun e => e.elim (fun x => .inl (h1 a b h x)) (fun x => .inr (h2 a b h x))⟩
section
variable {E0 E1 : Ext} {c : Nat} {Vc : World → Value → Prop} {P : Program} {ops : Array Oper} {W : World} {K : FuncId → Array Value → World → Value → Prop} {Q : Act → World → Prop} {F : Facts} {k : Nat} {o : Oper} {rest : List Oper} {a : Act}
/-- A cell that holds the same before and behind. -/
theorem wpFreeP_cellA (hk : k ≠ c) (hg : o.guard = none) {ty : TypeId} {x : Operand} (hop : o.op = .load ty x) {ad : Addr} (hx : a.eval x = .pointer (some ad)) {v : Value} (hv : ∀ w, E1.R W w → w.cell? ad = some v) (hu : ∀ w, (isAgg ty).run P w = .ok false w)
    (h : wpFreeP E0 E1 c Vc P ops .any W K Q rest (k + 1) (a.put o.dst v) (F.with k (fun _ => True))) : wpFreeP E0 E1 c Vc P ops .any W K Q (o :: rest) k a F := by
  refine wpFreeP_one hk hg v (fun w hw => ?_) h
  have hl : (Instr.loadAt ty (.pointer (some ad))).run P w = .ok v w := by
    simp [Instr.loadAt, Instr.sureAddr, loadVar, hu, hv w hw]
  simp [execOp, hop, hx, hl, Result.andThen]
/-- A call that only reads. -/
theorem wpFreeP_callQ (hk : k ≠ c) (hg : o.guard = none) {f : FuncId} {xs : Array Operand} {ts : Array TypeId} (hop : o.op = Op.call { callee := Callee.value (Operand.func f), args := xs, argTypes := ts }) {fn : Func} (hf : P.funcs[f]? = some fn)
    (hb : fn.body.isNone = false) (hn : (fn.name == "runtime.NumGoroutine") = false) {args : Array Value} (ha : xs.map a.eval = args) (V : Value → Prop)
    (h1 : ∀ w, E1.R W w → Calls P f args w (fun e w' => ∃ v, e = .returned v ∧ le w w' ∧ K f args w' v ∧ V v)) (hK : ∀ w v, K f args w v → V v)
    (h : ∀ v, V v → wpFreeP E0 E1 c Vc P ops .any W K Q rest (k + 1) (a.put o.dst v) (F.with k (fun _ => True))) : wpFreeP E0 E1 c Vc P ops .any W K Q (o :: rest) k a F := by
  refine ⟨fun _ u => V u, ⟨fun _ _ _ _ h => h, fun e => absurd e hk, .inl ⟨by simp [Region.wanted, hg], fun w hw _ => ?_⟩⟩, fun u hu => ?_⟩
  · rw [run_enter hop hf hb hn ha]
    unfold preE at hw
    rw [if_neg hk] at hw
    refine ⟨(stepE E0 E1 c k).refl w, (h1 w hw).mono ?_, fun w'' v hk => hK w'' v hk⟩
    rintro e w' ⟨v, rfl, hl, hk', _⟩
    exact ⟨v, rfl, (stepE E0 E1 c k).of_le hl, hk'⟩
  · obtain ⟨w, _, _, hv⟩ := hu
    exact wpFreeP_weaken _ _ _ _ _ (fun e w h => ⟨h.1, fun _ => trivial⟩) (h u hv)
/-- The call that writes. -/
theorem wpFreeP_callC (hk : k = c) (hg : o.guard = none) {f : FuncId} {xs : Array Operand} {ts : Array TypeId} (hop : o.op = Op.call { callee := Callee.value (Operand.func f), args := xs, argTypes := ts }) {fn : Func} (hf : P.funcs[f]? = some fn)
    (hb : fn.body.isNone = false) (hn : (fn.name == "runtime.NumGoroutine") = false) {args : Array Value} (ha : xs.map a.eval = args) (hm : MonoT E1 Vc)
    (h1 : ∀ w, E0.R W w → Calls P f args w (fun e w' => ∃ v, e = .returned v ∧ E1.R w w' ∧ K f args w' v)) (hK : ∀ w v, K f args w v → Vc w v)
    (h2 : ∀ v, (∃ w, E1.R W w ∧ Vc w v) → wpFreeP E0 E1 c Vc P ops .any W K Q rest (k + 1) (a.put o.dst v) (F.with k (fun w => Vc w v))) : wpFreeP E0 E1 c Vc P ops .any W K Q (o :: rest) k a F := by
  refine wpFreeP_call hk hg hm (fun w hw => ?_) h2
  rw [run_enter hop hf hb hn ha]
  exact ⟨E1.refl w, h1 w hw, fun w'' v hk => hK w'' v hk⟩
end
end Go.Fk

/- Delays: '(*delay).come', 'newDelay'. -/
namespace Go.Fk
open Go Go.RowKit
/-- A ring's samples behind a further one that is kept. -/
def comeX (x : Nat → Nat) (j a : Nat) : Nat → Nat := pushX x j (kept a)
theorem loud_int {x : Nat → Nat} {n j a : Nat} (hj : j < n) : ((loudN x n : Nat) : Int) + (((loudB (kept a) : Nat) : Int) - ((loudB (x j) : Nat) : Int)) = ((loudN (comeX x j a) n : Nat) : Int) := by
  have := loudN_push (x := x) (a := kept a) hj
  unfold comeX; omega
theorem own_form {w : World} {lo hi : Nat} {s : Value} {x : Nat → Nat} {n : Nat} (h : OwnS w lo hi s x n) (hn : 1 ≤ n) : ∃ b o cap, s = .slice (some ⟨b, o, none⟩) n cap ∧ n ≤ cap ∧ cap ≤ maxLen := by
  rcases h with ⟨_, h⟩ | ⟨b, o, cap, cs, h1, h2, h3, _⟩
  · omega
  · exact ⟨b, o, cap, h1, h2, h3⟩
theorem loudB_le (a : Nat) : loudB a ≤ 1 := by unfold loudB; split <;> omega
theorem loudB_congr {a b : Nat} (h : can .f32 a = can .f32 b) : loudB a = loudB b := by rw [← loudB_can a, h, loudB_can]
end Go.Fk
namespace Go.Proofs.Ythjdklolbkhbfaa
open Go.RowKit Go.Fk
theorem i_loudness (x : Nat) (w : World) : Calls Try.prog 75 #[.float .f32 x] w fun e w' => e = .returned (.int .i64 (loudB x : Nat)) ∧ w = w' := by
  cases h : zeroF x
  · have HZ : Hid (loudB x = 1) := by unfold Hid loudB; rw [if_neg (by rw [h]; decide)]
    unfold zeroF at h
    have h2 : (FloatKind.f32.format.order x 0 != some .eq) = !(FloatKind.f32.format.order x 0 == some .eq) := rfl
    rw [h] at h2
    replace h2 := h2.trans (show _ = true from rfl)
    go_enter Try.func75, Try.ntmps75
    go_wp2
    go_ret
    exact ⟨by rw [HZ.out]; rfl, rfl⟩
  · have HZ : Hid (loudB x = 0) := by unfold Hid loudB; rw [if_pos h]
    unfold zeroF at h
    have h2 : (FloatKind.f32.format.order x 0 != some .eq) = !(FloatKind.f32.format.order x 0 == some .eq) := rfl
    rw [h] at h2
    replace h2 := h2.trans (show _ = false from rfl)
    go_enter Try.func75, Try.ntmps75
    go_wp2
    go_ret
    exact ⟨by rw [HZ.out]; rfl, rfl⟩
def loudK (_ : FuncId) (args : Array Value) (v : Value) : Prop := ∃ p, args = #[.float .f32 p] ∧ v = .int .i64 (loudB p : Nat)
theorem loudK_v {f : FuncId} {p : Nat} {v : Value} (h : loudK f #[.float .f32 p] v) : v = .int .i64 (loudB p : Nat) := by
  obtain ⟨p', h, rfl⟩ := h
  simp at h
  subst h
  rfl
theorem loud_call {p N : Nat} {w : World} : Calls Try.prog 75 #[.float .f32 p] (w.drewN N) fun e w'' => ∃ u, e = .returned u ∧ loudK 75 #[.float .f32 p] u ∧ ∃ m, w'' = w.drewN m :=
  (i_loudness p (w.drewN N)).mono fun _ _ ⟨he, hw⟩ => ⟨_, he, ⟨p, rfl, rfl⟩, N, hw.symm⟩
theorem kindN : ∀ w : World, (isAgg 3).run Try.prog w = .ok false w := fun w => by kernel_rfl
set_option maxRecDepth 100000 in
set_option maxHeartbeats 4000000 in
theorem i_come (lo hi : Nat) (s : Value) (x : Nat → Nat) (n j a g f : Nat) (t : TypeId) (cs : Array Value) (w : World) (hs : OwnS w lo hi s x n) (hr : Row w g t cs) (e0 : cs[f]? = some s) (e1 : cs[f + 1]? = some (.int .i64 j)) (e2 : cs[f + 2]? = some (.int .i64 (loudN x n : Nat))) (hg : ¬ (lo ≤ g ∧ g < hi)) (hj : j < n) (hn : n ≤ 1024) (ha : fits .f32 a) :
    Calls Try.prog 62 #[.pointer (some ⟨g, f, none⟩), .float .f32 a] w fun e w' => (∃ v, e = .returned v) ∧ Row w' g t ((cs.setIfInBounds (f + 1) (.int .i64 (((j + 1) % n : Nat) : Int))).setIfInBounds (f + 2) (.int .i64 (loudN (comeX x j a) n : Nat))) ∧ OwnS w' lo hi s (comeX x j a) n ∧ Chg (fun i => i = g ∨ lo ≤ i ∧ i < hi) w w' := by
  have hlow : ∀ w w' : World, le w w' → (Row w g t cs ∧ OwnS w lo hi s x n) → (Row w' g t cs ∧ OwnS w' lo hi s x n) := fun w w' h e => ⟨e.1.le h, e.2.le h⟩
  have hlow2 : ∀ w w' : World, le w w' → (Row w g t (cs.setIfInBounds (f + 1) (.int .i64 (((j + 1) % n : Nat) : Int))) ∧ OwnS w lo hi s (comeX x j a) n) → (Row w' g t (cs.setIfInBounds (f + 1) (.int .i64 (((j + 1) % n : Nat) : Int))) ∧ OwnS w' lo hi s (comeX x j a) n) := fun w w' h e => ⟨e.1.le h, e.2.le h⟩
  have HK := hid (fun w' => i_kept a w' ha)
  have HP := hid (fun (w' : World) (hl : le w w') => i_push lo hi s x n j (kept a) g f t cs w' (hs.le hl) (hr.le hl) e0 e1 hg hj hn (fits_kept ha))
  have HPRE := hid (And.intro hr hs)
  have h2 : ∀ w' : World, (Row w' g t cs ∧ OwnS w' lo hi s x n) ∨ (Row w' g t (cs.setIfInBounds (f + 1) (.int .i64 (((j + 1) % n : Nat) : Int))) ∧ OwnS w' lo hi s (comeX x j a) n) → w'.cell? ⟨g, f + 2, none⟩ = some (.int .i64 (loudN x n : Nat)) := fun w' h => by
    rcases h with h | h
    · exact (h.1.cell? (f + 2)).trans e2
    · exact (h.1.cell? (f + 2)).trans (by rw [Array.getElem?_setIfInBounds_ne (by omega)]; exact e2)
  have H2 := hid h2
  obtain ⟨y0, hy0⟩ : ∃ y, fits .f32 y ∧ can .f32 y = x j := by
    rcases hs with ⟨_, h⟩ | ⟨b, o, cap, ds, _, _, _, _, _, _, hx⟩
    · omega
    · obtain ⟨y, _, f1, c1⟩ := hx j hj; exact ⟨y, f1, c1⟩
  have HY0 := hid hy0
  have l1 : loudN x n ≤ 1024 := Nat.le_trans (loudN_le _ _) hn
  have l2 := loudB_le (kept a)
  have l3 := loudB_le (x j)
  have LI := hid (loud_int (x := x) (a := a) hj)
  clear hr hs e0 e1 e2 h2 hy0
  go_enter Try.func62, Try.ntmps62
  go_wp2_with (go_at_call 77; ((with_reducible refine (HK.out _).mono ?_); rintro e w1 ⟨rfl, rfl⟩))
  refine region_tailP (E0 := leX) (E1 := altE (fun i => i = g ∨ lo ≤ i ∧ i < hi) _ _ hlow hlow2) (c := 10) (Vc := fun wa v => ∃ o, v = .float .f32 o ∧ can .f32 o = x j ∧ fits .f32 o ∧ Row wa g t (cs.setIfInBounds (f + 1) (.int .i64 (((j + 1) % n : Nat) : Int))) ∧ OwnS wa lo hi s (comeX x j a) n) (fun _ _ h => (altE _ _ _ hlow hlow2).of_le h) (fun _ args wa v => (∀ o, args = #[.float .f32 o] → v = .int .i64 (loudB o : Nat)) ∧ (args.size = 2 → ∃ o, v = .float .f32 o ∧ can .f32 o = x j ∧ fits .f32 o ∧ Row wa g t (cs.setIfInBounds (f + 1) (.int .i64 (((j + 1) % n : Nat) : Int))) ∧ OwnS wa lo hi s (comeX x j a) n)) 16 (fun wa hwa => ?_) (by kernel_rfl) (by kernel_rfl) ?_
  · rcases hwa.2.2 (.inl (hlow _ _ (le_drewN w 1) HPRE.out)) with h | h
    · obtain ⟨h3, h4⟩ := h
      have hp := i_push lo hi s x n j (kept a) g f t cs wa h4 h3
      rcases h4 with ⟨_, h0⟩ | ⟨b, o, cap, ds, rfl, hc, hm, hb, hb', hrow, hx⟩
      · omega
      have hjs : o + j < ds.size := by obtain ⟨y, e, _⟩ := hx j hj; exact (Array.getElem?_eq_some_iff.1 e).1
      have hne : b ≠ g := fun e => hg (e ▸ ⟨hb, hb'⟩)
      refine ⟨.float .f32 y0, (wa.setCell ⟨b, o + j, none⟩ (.float .f32 (kept a))).setCell ⟨g, f + 1, none⟩ (.int .i64 (((j + 1) % n : Nat) : Int)), ?_, y0, rfl, HY0.out.2, HY0.out.1, (h3.other _ _ (by simp; omega)).set _ _, own_set j (kept a) ((hrow.set _ _).other _ _ (by simp; exact hne)) hc hm hb hb' hjs (fits_kept ha) hx⟩
      have hpost : Row ((wa.setCell ⟨b, o + j, none⟩ (.float .f32 (kept a))).setCell ⟨g, f + 1, none⟩ (.int .i64 (((j + 1) % n : Nat) : Int))) g t (cs.setIfInBounds (f + 1) (.int .i64 (((j + 1) % n : Nat) : Int))) ∧ OwnS ((wa.setCell ⟨b, o + j, none⟩ (.float .f32 (kept a))).setCell ⟨g, f + 1, none⟩ (.int .i64 (((j + 1) % n : Nat) : Int))) lo hi (.slice (some ⟨b, o, none⟩) n cap) (comeX x j a) n := ⟨(h3.other _ _ (by simp; omega)).set _ _, own_set j (kept a) ((hrow.set _ _).other _ _ (by simp; exact hne)) hc hm hb hb' hjs (fits_kept ha) hx⟩
      exact ⟨(Chg.setCell (S := fun i => i = g ∨ lo ≤ i ∧ i < hi) (Chg.refl _ wa) (.inr ⟨hb, hb'⟩) _).setCell (.inl rfl) _, fun _ => hpost, fun _ => .inr hpost⟩
    · exact ⟨.float .f32 y0, wa, (altE _ _ _ hlow hlow2).refl wa, y0, rfl, HY0.out.2, HY0.out.1, h.1, h.2⟩
  simp only [List.take_succ_cons, List.take_zero, List.drop_succ_cons, List.drop_zero]
  refine wpFreeP_one (by decide) rfl (.pointer (some ⟨g, f, none⟩)) (fun w1 _ => by kernel_rfl) ?_
  simp only [Act.put, List.setIfInBounds_toArray, List.set_cons_succ, List.set_cons_zero]
  refine wpFreeP_one (by decide) rfl (.pointer (some ⟨g, f, none⟩)) (fun w1 _ => by kernel_rfl) ?_
  simp only [Act.put, List.setIfInBounds_toArray, List.set_cons_succ, List.set_cons_zero]
  refine wpFreeP_one (by decide) rfl (.pointer (some ⟨g, f + 2, none⟩)) (fun w1 _ => by kernel_rfl) ?_
  simp only [Act.put, List.setIfInBounds_toArray, List.set_cons_succ, List.set_cons_zero]
  refine wpFreeP_cellA (by decide) rfl rfl rfl (fun w1 h1 => H2.out w1 (h1.2.2 (.inl (hlow _ _ (le_drewN w 1) HPRE.out)))) kindN ?_
  simp only [Act.put, List.setIfInBounds_toArray, List.set_cons_succ, List.set_cons_zero]
  refine wpFreeP_one (by decide) rfl (.float .f32 (kept a)) (fun w1 _ => by kernel_rfl) ?_
  simp only [Act.put, List.setIfInBounds_toArray, List.set_cons_succ, List.set_cons_zero]
  refine wpFreeP_callQ (by decide) rfl rfl Try.func75 (by kernel_rfl) (by kernel_rfl) (args := #[.float .f32 (kept a)]) (by simp [Act.eval]) (· = .int .i64 (loudB (kept a) : Nat)) (fun w1 h1 => (i_loudness (kept a) w1).mono ?_) (fun w1 v h => h.1 _ rfl) ?_
  · rintro e w2 ⟨rfl, rfl⟩
    exact ⟨_, rfl, le_refl _, ⟨fun o ho => by simp at ho; rw [ho], fun h => by simp at h⟩, rfl⟩
  rintro v rfl
  simp only [Act.put, List.setIfInBounds_toArray, List.set_cons_succ, List.set_cons_zero]
  refine wpFreeP_one (by decide) rfl (.pointer (some ⟨g, f, none⟩)) (fun w1 _ => by kernel_rfl) ?_
  simp only [Act.put, List.setIfInBounds_toArray, List.set_cons_succ, List.set_cons_zero]
  refine wpFreeP_one (by decide) rfl (.pointer (some ⟨g, f, none⟩)) (fun w1 _ => by kernel_rfl) ?_
  simp only [Act.put, List.setIfInBounds_toArray, List.set_cons_succ, List.set_cons_zero]
  refine wpFreeP_one (by decide) rfl (.pointer (some ⟨g, f, none⟩)) (fun w1 _ => by kernel_rfl) ?_
  simp only [Act.put, List.setIfInBounds_toArray, List.set_cons_succ, List.set_cons_zero]
  refine wpFreeP_one (by decide) rfl (.float .f32 (kept a)) (fun w1 _ => by kernel_rfl) ?_
  simp only [Act.put, List.setIfInBounds_toArray, List.set_cons_succ, List.set_cons_zero]
  refine wpFreeP_callC rfl rfl rfl Try.func80 (by kernel_rfl) (by kernel_rfl) (args := #[.pointer (some ⟨g, f, none⟩), .float .f32 (kept a)]) (by simp [Act.eval]) (fun v wa wb hw hv => by obtain ⟨o, h1, h2, h3, h4, h5⟩ := hv; exact ⟨o, h1, h2, h3, hw.2.1 ⟨h4, h5⟩⟩) (fun w1 h1 => (HP.out w1 (le_trans (le_drewN w 1) h1)).mono ?_) (fun w1 v h => h.2 rfl) ?_
  · rintro e w2 ⟨o, rfl, ho, fo, hR, hO, hC⟩
    exact ⟨_, rfl, ⟨hC, fun _ => ⟨hR, hO⟩, fun _ => .inr ⟨hR, hO⟩⟩, fun o2 h => by simp at h, fun _ => ⟨o, rfl, ho, fo, hR, hO⟩⟩
  rintro v ⟨_, _, o, rfl, ho, fo, _⟩
  have HO := hid ho; clear ho
  simp only [Act.put, List.setIfInBounds_toArray, List.set_cons_succ, List.set_cons_zero]
  refine wpFreeP_callQ (by decide) rfl rfl Try.func75 (by kernel_rfl) (by kernel_rfl) (args := #[.float .f32 o]) (by simp [Act.eval]) (· = .int .i64 (loudB o : Nat)) (fun w1 h1 => (i_loudness o w1).mono ?_) (fun w1 v h => h.1 _ rfl) ?_
  · rintro e w2 ⟨rfl, rfl⟩
    exact ⟨_, rfl, le_refl _, ⟨fun o ho => by simp at ho; rw [ho], fun h => by simp at h⟩, rfl⟩
  rintro v rfl
  simp only [Act.put, List.setIfInBounds_toArray, List.set_cons_succ, List.set_cons_zero]
  have hlo : loudB o = loudB (x j) := by rw [← loudB_can o, HO.out]
  rw [hlo]
  refine wpFreeP_one (by decide) rfl (.int .i64 (((loudB (kept a) : Nat) : Int) - ((loudB (x j) : Nat) : Int))) (fun w1 _ => ?_) ?_
  · go_simp
    exact IntWalk.i64_in _ (by omega)
  simp only [Act.put, List.setIfInBounds_toArray, List.set_cons_succ, List.set_cons_zero]
  refine wpFreeP_one (by decide) rfl (.int .i64 (((loudN x n : Nat) : Int) + (((loudB (kept a) : Nat) : Int) - ((loudB (x j) : Nat) : Int)))) (fun w1 _ => ?_) ?_
  · go_simp
    exact IntWalk.i64_in _ (by omega)
  simp only [Act.put, List.setIfInBounds_toArray, List.set_cons_succ, List.set_cons_zero]
  refine wpFreeP_one (by decide) rfl (.pointer (some ⟨g, f, none⟩)) (fun w1 _ => by kernel_rfl) ?_
  simp only [Act.put, List.setIfInBounds_toArray, List.set_cons_succ, List.set_cons_zero]
  refine wpFreeP_one (by decide) rfl (.pointer (some ⟨g, f + 2, none⟩)) (fun w1 _ => by kernel_rfl) ?_
  simp only [Act.put, List.setIfInBounds_toArray, List.set_cons_succ, List.set_cons_zero]
  rw [LI.out]
  refine wpFreeP_nil (fun wR hwR hF => ?_)
  obtain ⟨o', _, _, _, hRR, hRO⟩ := (hF 10).1.1.1.1.1.2 rfl
  have C0 := hid ((Chg.of_le (le_drewN w 1)).trans hwR.1)
  have RR := hid hRR; have RO := hid hRO
  have fz := hRR.frozen (f + 2)
  have cz : wR.cell? ⟨g, f + 2, none⟩ = some (.int .i64 (loudN x n : Nat)) := H2.out wR (.inr ⟨hRR, hRO⟩)
  clear hF hwR hRR hRO
  go_wp2
  go_end0
  refine ⟨⟨_, rfl⟩, RR.out.set _ _, RO.out.chgS (S := fun i => i = g) (Chg.setCell (S := fun i => i = g) (a := ⟨g, f + 2, none⟩) (Chg.refl _ wR) rfl _) (fun i h1 h2 e => by have e' : i = g := e; subst e'; exact hg ⟨h1, h2⟩), C0.out.setCell (.inl rfl) _⟩
theorem infoDelay : (Try.prog.info? 85).map (·.size) = some 3 := by kernel_rfl
set_option maxRecDepth 100000 in
set_option maxHeartbeats 4000000 in
theorem i_newDelay (B : Nat) (s : Value) (x : Nat → Nat) (n : Nat) (k : Int) (w : World) (hs : RdS w B s x n) (h1 : 1 ≤ n) (h2 : n ≤ 1024) :
    Calls Try.prog 51 #[.agg #[s, .int .i64 k]] w fun e w' => ∃ s', e = .returned (.agg #[s', .int .i64 k, .int .i64 (loudN x n : Nat)]) ∧ OwnS w' w.heap.size w'.heap.size s' x n ∧ le w w' := by
  have HC := hid (fun (w' : World) (hl : le w w') => i_copied B s x n k w' (hs.le hl) h1 h2)
  clear hs
  have F := ((Frg.nil w).box 35 #[s, .int .i64 k]).box 85 #[.slice none 0 0, .int .i64 0, .int .i64 0]
  simp only [World.size_alloc] at F
  go_enter Try.func51, Try.ntmps51
  go_wp2_with (first | ((with_reducible refine at_loadU rfl rfl ?_); (with_reducible refine wpList_loadG F rfl rfl rfl (by first | exact m0 | exact m1) Try.underlying35 rfl infoRing rfl ?_)) | (go_at_call 74; ((with_reducible refine (HC.out _ F.below).mono ?_); rintro e w1 ⟨s1, rfl, ho, hl⟩; obtain ⟨b, o, cap, rfl, hc, hm⟩ := own_form ho h1; have mm := hm; unfold maxLen at mm; replace F := F.own1 hl ho; clear ho hl)) | (refine wpList_storeG F rfl rfl rfl rfl rfl infoDelay rfl rfl ?_; clear F; intro W3 F zW; clear zW; have c0 := (F.row m0).cell? 0))
  have F0 := hid F
  clear F
  go_loopw [13] (fun i wr => ∃ m : Nat, m ≤ n ∧ i = .int .i64 m ∧ Hid (Frg w wr [rowF w1.heap.size 85 #[.slice (some ⟨b, o, none⟩) n cap, .int .i64 k, .int .i64 (loudN x m : Nat)], ownF (w.heap.size + 1 + 1) w1.heap.size (.slice (some ⟨b, o, none⟩) n cap) x n, rowF (w.heap.size + 1) 85 #[.slice none 0 0, .int .i64 0, .int .i64 0], rowF w.heap.size 35 #[s, .int .i64 k]])) (fun i _ => n - (intOf i).toNat)
  case atStart => exact ⟨0, by omega, rfl, by have h := F0.out.box 85 #[.slice (some ⟨b, o, none⟩) n cap, .int .i64 k, .int .i64 0]; simp only [World.size_alloc] at h; exact h⟩
  case round =>
    obtain ⟨m, hk, rfl, HF⟩ := hrel
    rename_i wr _
    by_cases hlt : m < n
    · obtain ⟨y, cy, fy, ey⟩ : ∃ y, wr.cell? ⟨b, o + m, none⟩ = some (.float .f32 y) ∧ fits .f32 y ∧ can .f32 y = x m := by
        rcases HF.out.own m1 with ⟨e, h0⟩ | ⟨b2, o2, cap2, ds2, e, _, _, _, _, hrow, hx⟩
        · omega
        · simp only [Value.slice.injEq, Option.some.injEq, Addr.mk.injEq] at e
          obtain ⟨⟨rfl, rfl, _⟩, _, rfl⟩ := e
          obtain ⟨y, e1, e2, e3⟩ := hx m hlt
          exact ⟨y, (hrow.cell? (o + m)).trans e1, e2, e3⟩
      have EY := hid ey
      have c2 := (HF.out.row m0).cell? 2
      have f2 := (HF.out.row m0).frozen 2
      have l1 : loudN x m ≤ 1024 := Nat.le_trans (loudN_le _ _) (by omega)
      have l2 := loudB_le y
      have hw : IntKind.i64.wrap (((loudN x m : Nat) : Int) + ((loudB y : Nat) : Int)) = ((loudN x m : Nat) : Int) + ((loudB y : Nat) : Int) := IntWalk.i64_in _ (by omega)
      clear ey
      go_wp2_with fail
      refine wp_region_tail (fun _ _ v => v = .int .i64 (loudB y : Nat)) 6 (by kernel_rfl) (by kernel_rfl) ?_; simp only [List.take_succ_cons, List.take_zero, List.drop_succ_cons, List.drop_zero]
      repeat (refine wpLoose_quiet rfl ?_; go_big_quiet_step (fail); refine wpQuiet_nil ?_)
      refine wpLoose_any rfl (· = .int .i64 (loudB y : Nat)) (fun m0 => ?_) ?_
      · go_simp
        refine (i_loudness _ _).mono ?_
        rintro e w9 ⟨rfl, rfl⟩
        exact ⟨_, rfl, rfl, m0, by first | rfl | (go_simp; done)⟩
      rintro v0 rfl
      simp only [Act.put, List.setIfInBounds_toArray, List.set_cons_succ, List.set_cons_zero]
      repeat (refine wpLoose_quiet rfl ?_; go_big_quiet_step (fail); refine wpQuiet_nil ?_)
      refine wpLoose_nil (fun m3 => ?_)
      have HW := hid hw
      clear hw
      go_wp2
      go_roundw
      case rel =>
        refine ⟨m + 1, by omega, by go_num, ?_⟩
        have h := (HF.out.drewN m3).set0 2 (.int .i64 (loudN x (m + 1) : Nat))
        have e1 : ((loudN x (m + 1) : Nat) : Int) = ((loudN x m : Nat) : Int) + ((loudB y : Nat) : Int) := by
          have : loudB y = loudB (x m) := by rw [← loudB_can y, EY.out]
          simp only [loudN]; omega
        rw [e1] at h
        first
        | simpa [e1] using h
        | (rw [e1]; exact h)
      case measure => simp [intOf]; omega
    · obtain rfl : m = n := by omega
      have F := HF.out
      go_wp2_with (first | ((with_reducible refine at_loadU rfl rfl ?_); (with_reducible refine wpList_loadG F rfl rfl rfl (by first | exact m0 | exact m1) Try.underlying85 rfl infoDelay rfl ?_)) | (with_reducible refine stop_store rfl ?_))
      show wpList _ _ _ _ _ _
      have O1 := F.own m1
      refine wpList_storeD rfl rfl rfl (cells := #[.slice (some ⟨b, o, none⟩) m cap, .int .i64 k, .int .i64 (loudN x m : Nat)]) rfl (F.row m2) infoDelay rfl (by simp [Value.oneCell']) (fun w9 K => ?_)
      have C := (Chg.refl (· = w.heap.size + 1) _).wrote K rfl
      have zc := C.size
      have a2 := (F.facts _ m1).2.1
      simp only [ownF] at a2
      have Q1 := hid (O1.chgS C (fun i a b e => by have e' : i = w.heap.size + 1 := e; omega))
      have R := hid K.row
      have L := hid (F.wr2 K).below
      clear K F C O1
      go_wp2
      exact bodyPost_ret (results_row1 rfl _ _ _ _ _ rfl R.out Try.underlying85 rfl infoDelay) rfl ⟨_, rfl, Q1.out.mono (by omega) (by omega), L.out⟩
end Go.Proofs.Ythjdklolbkhbfaa

/- Copies of a Bow: the program's, as delays. -/
namespace Go.Fk
open Go Go.RowKit
/-- A delay that was made: its block came behind z. -/
def CpD (g : Nat) (x : Nat → Nat) (n : Nat) (j l : Int) (z : Nat) (w : World) (v : Value) : Prop := ∃ s, v = .agg #[s, .int .i64 j, .int .i64 l] ∧ Cp g x n j z w (.agg #[s, .int .i64 j])
theorem CpD.mk {g : Nat} {x : Nat → Nat} {n : Nat} {j l : Int} {w w' : World} {s : Value} (h : OwnS w' w.heap.size w'.heap.size s x n) (hn : 1 ≤ n) (hg : g < w.heap.size) : CpD g x n j l w.heap.size w' (.agg #[s, .int .i64 j, .int .i64 l]) := ⟨s, rfl, Cp.mk h hn hg⟩
theorem CpD.le {g : Nat} {x : Nat → Nat} {n : Nat} {j l : Int} {z : Nat} {w w' : World} {v : Value} (h : CpD g x n j l z w v) (hl : Fk.le w w') : CpD g x n j l z w' v := by
  obtain ⟨s, h1, h2⟩ := h
  exact ⟨s, h1, h2.le hl⟩
theorem CpD.get {g : Nat} {x : Nat → Nat} {n : Nat} {j l : Int} {z : Nat} {w : World} {s : Value} (h : CpD g x n j l z w (.agg #[s, .int .i64 j, .int .i64 l])) : Cp g x n j z w (.agg #[s, .int .i64 j]) := by
  obtain ⟨s', h1, h2⟩ := h
  obtain rfl : s = s' := by simpa using h1
  exact h2
theorem cpd_loud {w : World} {B B' : Nat} {s : Value} {x x' : Nat → Nat} {n n' : Nat} (h : RdS w B s x n) (h' : RdS w B' s x' n') : loudN x' n' = loudN x n := by
  obtain ⟨rfl, e⟩ := h.uniq h'
  exact (loudN_congr e).symm
end Go.Fk
namespace Go.Proofs.Ythjdklolbkhbfaa
open Go.RowKit Go.Fk
theorem own_neq {w : World} {b r n : Nat} {s : Value} {x : Nat → Nat} {t : TypeId} {cs : Array Value} (h : OwnS w b (b + 1) s x n) (hn : 1 ≤ n) (ht : t ≠ 25) (hr : Row w r t cs) : b ≠ r := by
  intro e
  rcases h with ⟨_, h⟩ | ⟨b1, o, cap, ds, _, _, _, h4, h5, hrow, _⟩
  · omega
  · obtain rfl : b1 = b := by omega
    subst e
    unfold Row at hrow hr
    rw [hrow] at hr
    simp at hr
    exact ht hr.2.symm
set_option maxRecDepth 100000 in
set_option maxHeartbeats 4000000 in
theorem i_newDrawn (x y : Nat → Nat) (nx ny : Nat) (j k : Int) (fk : Int) (a b c p q : Nat) (m o : Nat) (B : Nat) (s t : Value) (w : World) (hs : RdS w B s x nx) (ht : RdS w B t y ny) (hx : 1 ≤ nx ∧ nx ≤ 1024) (hy : 1 ≤ ny ∧ ny ≤ 1024) (hk0 : 1 ≤ fk ∧ fk ≤ 5) :
    Calls Try.prog 30 #[.agg #[s, .int .i64 j, t, .int .i64 k, .int .i64 fk, .float .f32 a, .float .f32 b, .float .f32 c, .float .f32 p, .float .f32 q, .float .f32 m, .float .f32 o]] w fun e w' => ∃ g r s1 t1 b0 d0, e = .returned (.pointer (some ⟨g, 0, none⟩)) ∧ Row w' g 90 #[s, .int .i64 j, t, .int .i64 k, .int .i64 fk, .float .f32 a, .float .f32 b, .float .f32 c, .float .f32 p, .float .f32 q, .float .f32 m, .float .f32 o, s1, .int .i64 j, .int .i64 (loudN x nx : Nat), t1, .int .i64 k, .int .i64 (loudN y ny : Nat), .pointer (some ⟨r, 0, none⟩)] ∧ Row w' r 103 #[mdl fk a b c, .float .f32 p, .float .f32 q] ∧ OwnS w' b0 (b0 + 1) s1 x nx ∧ OwnS w' d0 (d0 + 1) t1 y ny ∧ b0 ≠ d0 ∧ w.heap.size ≤ b0 ∧ w.heap.size ≤ d0 ∧ (b0 ≠ r ∧ d0 ≠ r ∧ w.heap.size ≤ r) ∧ (b0 < g ∧ d0 < g ∧ r < g) ∧ g < w'.heap.size ∧ le w w' := by
  have F := (Frg.nil w).box 38 #[s, .int .i64 j, t, .int .i64 k, .int .i64 fk, .float .f32 a, .float .f32 b, .float .f32 c, .float .f32 p, .float .f32 q, .float .f32 m, .float .f32 o]
  have HS := hid hs; have HT := hid ht; clear hs ht
  go_enter Try.func30, Try.ntmps30
  go_wp2_with fail
  obtain ⟨W, hW⟩ : ∃ W, W = w.alloc (.cells #[s, .int .i64 j, t, .int .i64 k, .int .i64 fk, .float .f32 a, .float .f32 b, .float .f32 c, .float .f32 p, .float .f32 q, .float .f32 m, .float .f32 o] 38) := ⟨_, rfl⟩
  rw [← hW] at F ⊢
  have hz : W.heap.size = w.heap.size + 1 := by rw [hW]; simp
  clear hW
  have HZ := hid hz; clear hz
  have G := F.drewN 1
  refine region_tailZ (E := leX) (fun _ args z w1 v => (args = #[.agg #[s, .int .i64 j]] → CpD w.heap.size x nx j (loudN x nx : Nat) z w1 v) ∧ (args = #[.agg #[t, .int .i64 k]] → CpD w.heap.size y ny k (loudN y ny : Nat) z w1 v) ∧ (args = #[(.agg #[.int .i64 fk, .float .f32 a, .float .f32 b, .float .f32 c, .float .f32 p, .float .f32 q])] → ∃ r, v = .pointer (some ⟨r, 0, none⟩) ∧ w.heap.size ≤ r ∧ Row w1 r 103 #[mdl fk a b c, .float .f32 p, .float .f32 q])) 11 (by kernel_rfl) (by kernel_rfl) ?_
  simp only [List.take_succ_cons, List.take_zero, List.drop_succ_cons, List.drop_zero]
  refine wpFreeZ_loadW rfl rfl rfl [s, .int .i64 j, t, .int .i64 k, .int .i64 fk, .float .f32 a, .float .f32 b, .float .f32 c, .float .f32 p, .float .f32 q, .float .f32 m, .float .f32 o] (fun w1 h1 => Row.at_all ((G.row m0).le h1)) Try.underlying38 rfl uinfoBowI rfl ?_
  simp only [Act.put, List.setIfInBounds_toArray, List.set_cons_succ, List.set_cons_zero]
  refine wpFreeZ_one rfl (.pointer (some ⟨w.heap.size, 0, none⟩)) (fun w1 _ => by kernel_rfl) ?_
  simp only [Act.put, List.setIfInBounds_toArray, List.set_cons_succ, List.set_cons_zero]
  refine wpFreeZ_loadW rfl rfl rfl [s, .int .i64 j] (fun w1 h1 => Row.at_part ((G.row m0).le h1) (partBow_Neck (s) (.int .i64 j) (t) (.int .i64 k) (.int .i64 fk) (.float .f32 a) (.float .f32 b) (.float .f32 c) (.float .f32 p) (.float .f32 q) (.float .f32 m) (.float .f32 o))) Try.underlying35 rfl uinfoRingI rfl ?_
  simp only [Act.put, List.setIfInBounds_toArray, List.set_cons_succ, List.set_cons_zero]
  refine wpFreeZ_callW (by kernel_rfl) rfl Try.func51 (by kernel_rfl) (by kernel_rfl) (args := #[.agg #[s, .int .i64 j]]) (by simp [Act.eval]) (fun z v w1 w2 hw hv => ⟨fun e => (hv.1 e).le hw, fun e => (hv.2.1 e).le hw, fun e => (hv.2.2 e).imp fun r ⟨e1, e2, e3⟩ => ⟨e1, e2, e3.le hw⟩⟩) (fun w1 hw1 hbe => ?_) ?_
  · have hg : w.heap.size < w1.heap.size := by have h0 := hw1.size; have e0 : (W.drewN 1).heap.size = W.heap.size := rfl; have := HZ.out; omega
    refine (i_newDelay B s x nx _ w1 ((HS.out.le G.below).le hw1) hx.1 hx.2).mono ?_
    rintro e w2 ⟨s1, rfl, ho, hl⟩
    refine ⟨_, rfl, hl, fun e => ?_, fun e => ?_, fun e => ?_⟩
    · exact CpD.mk ho hx.1 hg
    · simp only [Array.mk.injEq, List.cons.injEq, Value.agg.injEq, Value.int.injEq, and_true, true_and] at e
      obtain ⟨e1, e2⟩ := e
      rw [e2, cpd_loud HS.out (e1 ▸ HT.out)]; exact CpD.mk (own_same HS.out (e1 ▸ HT.out) ho) hy.1 hg
    · simp at e
  rintro v0 ⟨z, wv, _, hv⟩
  obtain ⟨s1, rfl, ho⟩ := hv.1 rfl
  clear hv ho
  simp only [Act.put, List.setIfInBounds_toArray, List.set_cons_succ, List.set_cons_zero]
  refine wpFreeZ_one rfl (.pointer (some ⟨w.heap.size, 2, none⟩)) (fun w1 _ => by kernel_rfl) ?_
  simp only [Act.put, List.setIfInBounds_toArray, List.set_cons_succ, List.set_cons_zero]
  refine wpFreeZ_loadW rfl rfl rfl [t, .int .i64 k] (fun w1 h1 => Row.at_part ((G.row m0).le h1) (partBow_Bridge (s) (.int .i64 j) (t) (.int .i64 k) (.int .i64 fk) (.float .f32 a) (.float .f32 b) (.float .f32 c) (.float .f32 p) (.float .f32 q) (.float .f32 m) (.float .f32 o))) Try.underlying35 rfl uinfoRingI rfl ?_
  simp only [Act.put, List.setIfInBounds_toArray, List.set_cons_succ, List.set_cons_zero]
  refine wpFreeZ_callW (by kernel_rfl) rfl Try.func51 (by kernel_rfl) (by kernel_rfl) (args := #[.agg #[t, .int .i64 k]]) (by simp [Act.eval]) (fun z v w1 w2 hw hv => ⟨fun e => (hv.1 e).le hw, fun e => (hv.2.1 e).le hw, fun e => (hv.2.2 e).imp fun r ⟨e1, e2, e3⟩ => ⟨e1, e2, e3.le hw⟩⟩) (fun w1 hw1 hbe => ?_) ?_
  · have hg : w.heap.size < w1.heap.size := by have h0 := hw1.size; have e0 : (W.drewN 1).heap.size = W.heap.size := rfl; have := HZ.out; omega
    refine (i_newDelay B t y ny _ w1 ((HT.out.le G.below).le hw1) hy.1 hy.2).mono ?_
    rintro e w2 ⟨s1, rfl, ho, hl⟩
    refine ⟨_, rfl, hl, fun e => ?_, fun e => ?_, fun e => ?_⟩
    · simp only [Array.mk.injEq, List.cons.injEq, Value.agg.injEq, Value.int.injEq, and_true, true_and] at e
      obtain ⟨e1, e2⟩ := e
      rw [e2, cpd_loud HT.out (e1 ▸ HS.out)]; exact CpD.mk (own_same HT.out (e1 ▸ HS.out) ho) hx.1 hg
    · exact CpD.mk ho hy.1 hg
    · simp at e
  rintro v1 ⟨z, wv, _, hv⟩
  obtain ⟨t1, rfl, ho⟩ := hv.2.1 rfl
  clear hv ho
  simp only [Act.put, List.setIfInBounds_toArray, List.set_cons_succ, List.set_cons_zero]
  refine wpFreeZ_one rfl (.pointer (some ⟨w.heap.size, 4, none⟩)) (fun w1 _ => by kernel_rfl) ?_
  simp only [Act.put, List.setIfInBounds_toArray, List.set_cons_succ, List.set_cons_zero]
  refine wpFreeZ_loadW rfl rfl rfl [.int .i64 fk, .float .f32 a, .float .f32 b, .float .f32 c, .float .f32 p, .float .f32 q] (fun w1 h1 => Row.at_part ((G.row m0).le h1) (partBow_Damp (s) (.int .i64 j) (t) (.int .i64 k) (.int .i64 fk) (.float .f32 a) (.float .f32 b) (.float .f32 c) (.float .f32 p) (.float .f32 q) (.float .f32 m) (.float .f32 o))) Try.underlying36 rfl uinfoFilterI rfl ?_
  simp only [Act.put, List.setIfInBounds_toArray, List.set_cons_succ, List.set_cons_zero]
  refine wpFreeZ_callW (by kernel_rfl) rfl Try.func52 (by kernel_rfl) (by kernel_rfl) (args := #[(.agg #[.int .i64 fk, .float .f32 a, .float .f32 b, .float .f32 c, .float .f32 p, .float .f32 q])]) (by simp [Act.eval]) (fun z v w1 w2 hw hv => ⟨fun e => (hv.1 e).le hw, fun e => (hv.2.1 e).le hw, fun e => (hv.2.2 e).imp fun r ⟨e1, e2, e3⟩ => ⟨e1, e2, e3.le hw⟩⟩) (fun w1 hw1 hbe => ?_) ?_
  · have hg : w.heap.size < w1.heap.size := by have h0 := hw1.size; have e0 : (W.drewN 1).heap.size = W.heap.size := rfl; have := HZ.out; omega
    refine (i_newRunner fk a b c p q w1 hk0).mono ?_
    rintro e w2 ⟨r, rfl, hr, hR, hl⟩
    exact ⟨_, rfl, hl, fun e => by simp at e, fun e => by simp at e, fun _ => ⟨r, rfl, by omega, hR⟩⟩
  rintro v2 ⟨z, wv, _, hv⟩
  obtain ⟨r, rfl, _⟩ := hv.2.2 rfl
  clear hv
  simp only [Act.put, List.setIfInBounds_toArray, List.set_cons_succ, List.set_cons_zero]
  refine wpFreeZ_one rfl (.agg #[s, .int .i64 j, t, .int .i64 k, .int .i64 fk, .float .f32 a, .float .f32 b, .float .f32 c, .float .f32 p, .float .f32 q, .float .f32 m, .float .f32 o, s1, .int .i64 j, .int .i64 (loudN x nx : Nat), t1, .int .i64 k, .int .i64 (loudN y ny : Nat), .pointer (some ⟨r, 0, none⟩)]) (fun w1 _ => by kernel_rfl) ?_
  simp only [Act.put, List.setIfInBounds_toArray, List.set_cons_succ, List.set_cons_zero]
  refine wpFreeZ_nil (fun w3 zs hw3 hF hc => ?_)
  obtain ⟨b0, d0, O1, O2, hne, l1, l2, l3, l4⟩ := Cp.two hx.1 hy.1 (F := _) (((hF 3).1.1.1.1.1.1.1.2 rfl).1 trivial).get (((hF 6).1.1.1.1.2 rfl).2.1 trivial).get (hc 3 6 (by decide)) (fun w2 h => ((h.1.1.1.1.1.1.1.2 rfl).1 trivial).get) (fun w2 h => ((h.1.1.1.1.2 rfl).2.1 trivial).get)
  obtain ⟨r', er, hr0, hR0⟩ := ((hF 9).1.2 rfl).2.2 trivial
  obtain rfl : r = r' := by simpa using er
  clear hF hc er
  have n1 := own_neq O1 hx.1 (by decide) hR0
  have n2 := own_neq O2 hy.1 (by decide) hR0
  have lr := hR0.lt
  have B3 := hid (le_trans G.below hw3)
  have Q1 := hid O1; have Q2 := hid O2; have Q3 := hid hR0
  clear hw3 G F O1 O2 hR0
  go_wp2
  go_ret
  exact ⟨w3.heap.size, r, s1, t1, b0, d0, rfl, Row.new _ _ _, Q3.out.le (le_alloc _ _), Q1.out.le (le_alloc _ _), Q2.out.le (le_alloc _ _), hne, by omega, by omega, ⟨n1, n2, hr0⟩, ⟨by omega, by omega, by omega⟩, by simp, le_trans B3.out (le_alloc _ _)⟩
end Go.Proofs.Ythjdklolbkhbfaa

/- Two slices, as a fact of a range of blocks. Nothing here names a program. -/
namespace Go.Fk
open Go Go.RowKit
/-- Two slices, as a fact of a range of blocks. -/
def twF (lo hi : Nat) (x : Nat → Nat) (nx : Nat) (y : Nat → Nat) (ny : Nat) (s t : Value) : Fact := ⟨lo, hi, fun w => ∃ b d, OwnS w b (b + 1) s x nx ∧ OwnS w d (d + 1) t y ny ∧ b ≠ d ∧ lo ≤ b ∧ b < hi ∧ lo ≤ d ∧ d < hi, fun w w' h hk => by
  obtain ⟨b, d, h1, h2, h3, h4, h5, h6, h7⟩ := h
  exact ⟨b, d, (ownF b (b + 1) s x nx).ok w w' h1 (fun k a c => hk k (by have a' : b ≤ k := a; omega) (by have c' : k < b + 1 := c; omega)), (ownF d (d + 1) t y ny).ok w w' h2 (fun k a c => hk k (by have a' : d ≤ k := a; omega) (by have c' : k < d + 1 := c; omega)), h3, h4, h5, h6, h7⟩⟩
theorem Frg.two {w0 w w' : World} {L : List Fact} (h : Frg w0 w L) (k : Below w.heap.size w w') {x : Nat → Nat} {nx : Nat} {y : Nat → Nat} {ny : Nat} {s t : Value} (ht : Two w.heap.size x nx y ny s t w') : Frg w0 w' (twF w.heap.size w'.heap.size x nx y ny s t :: L) :=
  h.push k (e := twF w.heap.size w'.heap.size x nx y ny s t) (by obtain ⟨b, d, h1, h2, h3, h4, h5, h6, h7⟩ := ht; exact ⟨b, d, h1, h2, h3, h4, h5, h6, h7⟩) (Nat.le_refl _) (Nat.le_refl _)
theorem Two.of_own {w : World} {lo lo1 hi1 lo2 hi2 : Nat} {x : Nat → Nat} {nx : Nat} {y : Nat → Nat} {ny : Nat} {s t : Value} (h1 : OwnS w lo1 hi1 s x nx) (h2 : OwnS w lo2 hi2 t y ny) (n1 : 1 ≤ nx) (n2 : 1 ≤ ny) (ha : hi1 ≤ lo2) (hl : lo ≤ lo1) (hl2 : lo ≤ lo2) : Two lo x nx y ny s t w := by
  obtain ⟨b, a1, a2, a3⟩ := h1.tight n1
  obtain ⟨d, c1, c2, c3⟩ := h2.tight n2
  have hb : b < w.heap.size := by
    rcases a3 with ⟨_, h⟩ | ⟨b', o, cap, cs, _, _, _, e1, e2, r, _⟩
    · omega
    · have := r.lt; omega
  have hd : d < w.heap.size := by
    rcases c3 with ⟨_, h⟩ | ⟨b', o, cap, cs, _, _, _, e1, e2, r, _⟩
    · omega
    · have := r.lt; omega
  exact ⟨b, d, a3, c3, by omega, by omega, hb, by omega, hd⟩
theorem rngB_j {x : Nat → Nat} {n : Nat} {k : Int} (h : rngB x n k = true) : 1 ≤ n ∧ n ≤ 1024 ∧ ∃ j : Nat, k = j ∧ j < n := okRing_j (by unfold rngB at h; simp only [Bool.and_eq_true] at h; exact h.1)
theorem own_sameN {w w2 : World} {B B' lo hi : Nat} {s u : Value} {x x' z : Nat → Nat} {n n' : Nat} (h : RdS w B s x n) (h' : RdS w B' s x' n') (o : OwnS w2 lo hi u z n) : OwnS w2 lo hi u z n' := by
  obtain ⟨rfl, _⟩ := h.uniq h'; exact o
theorem midOf (pre mid post : List Value) (f : Nat) (hf : pre.length = f) : ∀ j, j < mid.length → (pre ++ (mid ++ post)).toArray[f + j]? = mid[j]? := by
  intro j hj
  subst hf
  simp only [List.getElem?_toArray]
  rw [List.getElem?_append_right (by omega), Nat.add_sub_cancel_left, List.getElem?_append_left hj]
theorem RdS.fits {w : World} {B : Nat} {s : Value} {x : Nat → Nat} {n k : Nat} (h : RdS w B s x n) (hk : k < n) : Fk.fits .f32 (x k) := by
  rcases h with ⟨_, h0⟩ | ⟨a, cap, _, _, _, h5⟩
  · omega
  · obtain ⟨_, y, _, f, e⟩ := h5 k hk
    rw [← e]; unfold can; split
    · simp [Fk.fits, Lit.wf, qnan]
    · exact f
end Go.Fk
