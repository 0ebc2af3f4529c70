/- Texts of the walk, laid in one file. -/
import Derived.Laws.StructEq
import Derived.Deep.RegionWith
import Derived.IntWalk
import Derived.Test.YtmacednkpjfokaaMc
set_option linter.unusedVariables false
set_option linter.unusedSimpArgs false
/- The model's step of a filter, kind by kind. -/
namespace Go.Proofs.Ytmacednkpjfokaa
open Go.RowKit Go.Fk
set_option maxRecDepth 100000 in
set_option maxHeartbeats 2000000 in
theorem s_Step1 (a b c x y s g : Nat) (w : World) (R : Row w g 28 (#[.int .i64 1, .float .f32 a, .float .f32 b, .float .f32 c, .float .f32 x, .float .f32 y] : Array Value)) (hx : fits .f32 x) (hs : fits .f32 s) (hy : y = 0) :
    Calls Try.prog 58 #[.pointer (some ⟨g, 0, none⟩), .float .f32 s] w (OutS 1 a b c x y s g 28 (fun u v => (#[.int .i64 1, .float .f32 a, .float .f32 b, .float .f32 c, .float .f32 u, .float .f32 v] : Array Value)) w) := by
  subst hy
  have Hx := hid hx; have Hs := hid hs; clear hx hs
  have F := Frm.one R
  have U := hid (Upd.refl g w)
  obtain ⟨c0, c1, c2, c3, c4, c5⟩ := R.six
  clear R
  go_enter Try.func58, Try.ntmps58
  go_wp2
  refine region_free (fun _ _ _ _ => True) (by kernel_rfl) (by kernel_rfl) ?_
  refine wpFree_one rfl (.pointer (some ⟨g, 0, none⟩)) (fun w1 _ => by kernel_rfl) ?_
  simp only [Act.put, List.setIfInBounds_toArray, List.set_cons_succ, List.set_cons_zero]
  refine wpFree_one rfl (.pointer (some ⟨g, 0, none⟩)) (fun w1 _ => by kernel_rfl) ?_
  simp only [Act.put, List.setIfInBounds_toArray, List.set_cons_succ, List.set_cons_zero]
  refine wpFree_one rfl (.pointer (some ⟨g, 1, none⟩)) (fun w1 _ => by kernel_rfl) ?_
  simp only [Act.put, List.setIfInBounds_toArray, List.set_cons_succ, List.set_cons_zero]
  refine wpFree_one rfl (.pointer (some ⟨g, 1, none⟩)) (fun w1 _ => by kernel_rfl) ?_
  simp only [Act.put, List.setIfInBounds_toArray, List.set_cons_succ, List.set_cons_zero]
  refine wpFree_loadF F rfl rfl rfl rfl List.mem_cons_self rfl Try.underlying22 ?_
  simp only [Act.put, List.setIfInBounds_toArray, List.set_cons_succ, List.set_cons_zero]
  refine wpFree_one rfl (.float .f32 s) (fun w1 _ => by kernel_rfl) ?_
  simp only [Act.put, List.setIfInBounds_toArray, List.set_cons_succ, List.set_cons_zero]
  refine wpFree_farith rfl rfl rfl rfl rfl (fun r53 h53 f53 => ?_)
  simp only [Act.put, List.setIfInBounds_toArray, List.set_cons_succ, List.set_cons_zero]
  refine wpFree_one rfl (.pointer (some ⟨g, 0, none⟩)) (fun w1 _ => by kernel_rfl) ?_
  simp only [Act.put, List.setIfInBounds_toArray, List.set_cons_succ, List.set_cons_zero]
  refine wpFree_one rfl (.pointer (some ⟨g, 0, none⟩)) (fun w1 _ => by kernel_rfl) ?_
  simp only [Act.put, List.setIfInBounds_toArray, List.set_cons_succ, List.set_cons_zero]
  refine wpFree_one rfl (.pointer (some ⟨g, 1, none⟩)) (fun w1 _ => by kernel_rfl) ?_
  simp only [Act.put, List.setIfInBounds_toArray, List.set_cons_succ, List.set_cons_zero]
  refine wpFree_one rfl (.pointer (some ⟨g, 1 + 1, none⟩)) (fun w1 _ => by kernel_rfl) ?_
  simp only [Act.put, List.setIfInBounds_toArray, List.set_cons_succ, List.set_cons_zero]
  refine wpFree_loadF F rfl rfl rfl rfl List.mem_cons_self rfl Try.underlying22 ?_
  simp only [Act.put, List.setIfInBounds_toArray, List.set_cons_succ, List.set_cons_zero]
  refine wpFree_one rfl (.float .f32 x) (fun w1 _ => by kernel_rfl) ?_
  simp only [Act.put, List.setIfInBounds_toArray, List.set_cons_succ, List.set_cons_zero]
  refine wpFree_farith rfl rfl rfl rfl rfl (fun r60 h60 f60 => ?_)
  simp only [Act.put, List.setIfInBounds_toArray, List.set_cons_succ, List.set_cons_zero]
  refine wpFree_farith rfl rfl rfl rfl rfl (fun r61 h61 f61 => ?_)
  simp only [Act.put, List.setIfInBounds_toArray, List.set_cons_succ, List.set_cons_zero]
  refine wpFree_one rfl (.float .f32 r61) (fun w1 _ => by kernel_rfl) ?_
  simp only [Act.put, List.setIfInBounds_toArray, List.set_cons_succ, List.set_cons_zero]
  refine wpFree_nil (fun w3 hw3 _ => ?_)
  replace U := hid ((U.out.le (le_drewN _ 1)).le hw3)
  replace F := Frm.one (((F.drewN 1).le hw3).row List.mem_cons_self)
  clear hw3 c0 c1 c2 c3 c4 c5
  have e : can .f32 r61 = outF 1 a b c x 0 s := (by rw [h61.out]; exact fop_congr (h53.out.trans (can_fop _ _ _ _).symm) (h60.out.trans (can_fop _ _ _ _).symm))
  have hf := f61
  replace e := hid e
  go_wp2
  refine region_tail (fun _ _ _ v => v = .float .f32 (kept r61)) 6 (by kernel_rfl) (by kernel_rfl) ?_
  simp only [List.take_succ_cons, List.take_zero, List.drop_succ_cons, List.drop_zero]
  refine wpFree_one rfl (.pointer (some ⟨g, 0, none⟩)) (fun w1 _ => by kernel_rfl) ?_
  simp only [Act.put, List.setIfInBounds_toArray, List.set_cons_succ, List.set_cons_zero]
  refine wpFree_one rfl (.float .f32 r61) (fun w1 _ => by kernel_rfl) ?_
  simp only [Act.put, List.setIfInBounds_toArray, List.set_cons_succ, List.set_cons_zero]
  refine wpFree_call rfl rfl Try.func89 (by kernel_rfl) (by kernel_rfl) (args := #[.float .f32 r61]) (by simp [Act.eval]) (fun _ _ _ _ h => h) (fun w1 _ => (s_Kept r61 w1 hf.out).mono ?_) ?_
  · rintro e w2 ⟨rfl, n, rfl⟩
    exact ⟨_, rfl, le_drewN _ n, rfl⟩
  rintro v ⟨_, _, rfl⟩
  simp only [Act.put, List.setIfInBounds_toArray, List.set_cons_succ, List.set_cons_zero]
  refine wpFree_one rfl (.pointer (some ⟨g, 0, none⟩)) (fun w1 _ => by kernel_rfl) ?_
  simp only [Act.put, List.setIfInBounds_toArray, List.set_cons_succ, List.set_cons_zero]
  refine wpFree_one rfl (.pointer (some ⟨g, 4, none⟩)) (fun w1 _ => by kernel_rfl) ?_
  simp only [Act.put, List.setIfInBounds_toArray, List.set_cons_succ, List.set_cons_zero]
  refine wpFree_one rfl (.pointer (some ⟨g, 4, none⟩)) (fun w1 _ => by kernel_rfl) ?_
  simp only [Act.put, List.setIfInBounds_toArray, List.set_cons_succ, List.set_cons_zero]
  refine wpFree_nil (fun w5 hw5 _ => ?_)
  have RR := ((F.drewN 1).le hw5).row List.mem_cons_self
  replace U := hid (((U.out.le (le_drewN _ 1)).le hw5).setCell (a := ⟨g, 4, none⟩) rfl (.float .f32 (kept r61)))
  have cc := RR.cell? 4
  have ff := RR.frozen 4
  have RN := RR.set 4 (.float .f32 (kept r61))
  replace RN : Row (w5.setCell ⟨g, 4, none⟩ (.float .f32 (kept r61))) g 28 (#[.int .i64 1, .float .f32 a, .float .f32 b, .float .f32 c, .float .f32 (kept r61), .float .f32 0] : Array Value) := by simpa using RN
  replace RR := hid RR
  clear hw5 F
  have F := Frm.one RN
  clear RN
  have RN := hid (F.row List.mem_cons_self)
  clear F
  go_wp2
  go_ret
  refine ⟨_, rfl, e.out, hf.out, ?_, U.out⟩
  have e0 : (kept r61) = st0 1 a b c x 0 s := by exact kept_can (e.out.trans (can_outF _ _ _ _ _ _ _).symm)
  have e1 : 0 = st1 1 a b c x 0 s := by rfl
  rw [← e0, ← e1]
  exact RN.out
set_option maxRecDepth 100000 in
set_option maxHeartbeats 2000000 in
theorem s_Step2 (a b c x y s g : Nat) (w : World) (R : Row w g 28 (#[.int .i64 2, .float .f32 a, .float .f32 b, .float .f32 c, .float .f32 x, .float .f32 y] : Array Value)) (hx : fits .f32 x) (hs : fits .f32 s) (hy : y = 0) :
    Calls Try.prog 58 #[.pointer (some ⟨g, 0, none⟩), .float .f32 s] w (OutS 2 a b c x y s g 28 (fun u v => (#[.int .i64 2, .float .f32 a, .float .f32 b, .float .f32 c, .float .f32 u, .float .f32 v] : Array Value)) w) := by
  subst hy
  have Hx := hid hx; have Hs := hid hs; clear hx hs
  have F := Frm.one R
  have U := hid (Upd.refl g w)
  obtain ⟨c0, c1, c2, c3, c4, c5⟩ := R.six
  clear R
  go_enter Try.func58, Try.ntmps58
  go_wp2
  refine region_free (fun _ _ _ _ => True) (by kernel_rfl) (by kernel_rfl) ?_
  refine wpFree_one rfl (.pointer (some ⟨g, 0, none⟩)) (fun w1 _ => by kernel_rfl) ?_
  simp only [Act.put, List.setIfInBounds_toArray, List.set_cons_succ, List.set_cons_zero]
  refine wpFree_one rfl (.pointer (some ⟨g, 0, none⟩)) (fun w1 _ => by kernel_rfl) ?_
  simp only [Act.put, List.setIfInBounds_toArray, List.set_cons_succ, List.set_cons_zero]
  refine wpFree_one rfl (.pointer (some ⟨g, 1, none⟩)) (fun w1 _ => by kernel_rfl) ?_
  simp only [Act.put, List.setIfInBounds_toArray, List.set_cons_succ, List.set_cons_zero]
  refine wpFree_one rfl (.pointer (some ⟨g, 1, none⟩)) (fun w1 _ => by kernel_rfl) ?_
  simp only [Act.put, List.setIfInBounds_toArray, List.set_cons_succ, List.set_cons_zero]
  refine wpFree_loadF F rfl rfl rfl rfl List.mem_cons_self rfl Try.underlying22 ?_
  simp only [Act.put, List.setIfInBounds_toArray, List.set_cons_succ, List.set_cons_zero]
  refine wpFree_one rfl (.float .f32 s) (fun w1 _ => by kernel_rfl) ?_
  simp only [Act.put, List.setIfInBounds_toArray, List.set_cons_succ, List.set_cons_zero]
  refine wpFree_farith rfl rfl rfl rfl rfl (fun r76 h76 f76 => ?_)
  simp only [Act.put, List.setIfInBounds_toArray, List.set_cons_succ, List.set_cons_zero]
  refine wpFree_one rfl (.pointer (some ⟨g, 0, none⟩)) (fun w1 _ => by kernel_rfl) ?_
  simp only [Act.put, List.setIfInBounds_toArray, List.set_cons_succ, List.set_cons_zero]
  refine wpFree_one rfl (.pointer (some ⟨g, 0, none⟩)) (fun w1 _ => by kernel_rfl) ?_
  simp only [Act.put, List.setIfInBounds_toArray, List.set_cons_succ, List.set_cons_zero]
  refine wpFree_one rfl (.pointer (some ⟨g, 1, none⟩)) (fun w1 _ => by kernel_rfl) ?_
  simp only [Act.put, List.setIfInBounds_toArray, List.set_cons_succ, List.set_cons_zero]
  refine wpFree_one rfl (.pointer (some ⟨g, 1 + 1, none⟩)) (fun w1 _ => by kernel_rfl) ?_
  simp only [Act.put, List.setIfInBounds_toArray, List.set_cons_succ, List.set_cons_zero]
  refine wpFree_loadF F rfl rfl rfl rfl List.mem_cons_self rfl Try.underlying22 ?_
  simp only [Act.put, List.setIfInBounds_toArray, List.set_cons_succ, List.set_cons_zero]
  refine wpFree_one rfl (.float .f32 x) (fun w1 _ => by kernel_rfl) ?_
  simp only [Act.put, List.setIfInBounds_toArray, List.set_cons_succ, List.set_cons_zero]
  refine wpFree_farith rfl rfl rfl rfl rfl (fun r83 h83 f83 => ?_)
  simp only [Act.put, List.setIfInBounds_toArray, List.set_cons_succ, List.set_cons_zero]
  refine wpFree_farith rfl rfl rfl rfl rfl (fun r84 h84 f84 => ?_)
  simp only [Act.put, List.setIfInBounds_toArray, List.set_cons_succ, List.set_cons_zero]
  refine wpFree_one rfl (.float .f32 r84) (fun w1 _ => by kernel_rfl) ?_
  simp only [Act.put, List.setIfInBounds_toArray, List.set_cons_succ, List.set_cons_zero]
  refine wpFree_nil (fun w3 hw3 _ => ?_)
  replace U := hid ((U.out.le (le_drewN _ 1)).le hw3)
  replace F := Frm.one (((F.drewN 1).le hw3).row List.mem_cons_self)
  clear hw3 c0 c1 c2 c3 c4 c5
  have e : can .f32 r84 = outF 2 a b c x 0 s := (by rw [h84.out]; exact fop_congr (h76.out.trans (can_fop _ _ _ _).symm) (h83.out.trans (can_fop _ _ _ _).symm))
  have hf := f84
  replace e := hid e
  go_wp2
  refine region_tail (fun _ _ _ v => v = .float .f32 (kept s)) 6 (by kernel_rfl) (by kernel_rfl) ?_
  simp only [List.take_succ_cons, List.take_zero, List.drop_succ_cons, List.drop_zero]
  refine wpFree_one rfl (.pointer (some ⟨g, 0, none⟩)) (fun w1 _ => by kernel_rfl) ?_
  simp only [Act.put, List.setIfInBounds_toArray, List.set_cons_succ, List.set_cons_zero]
  refine wpFree_one rfl (.float .f32 s) (fun w1 _ => by kernel_rfl) ?_
  simp only [Act.put, List.setIfInBounds_toArray, List.set_cons_succ, List.set_cons_zero]
  refine wpFree_call rfl rfl Try.func89 (by kernel_rfl) (by kernel_rfl) (args := #[.float .f32 s]) (by simp [Act.eval]) (fun _ _ _ _ h => h) (fun w1 _ => (s_Kept s w1 Hs.out).mono ?_) ?_
  · rintro e w2 ⟨rfl, n, rfl⟩
    exact ⟨_, rfl, le_drewN _ n, rfl⟩
  rintro v ⟨_, _, rfl⟩
  simp only [Act.put, List.setIfInBounds_toArray, List.set_cons_succ, List.set_cons_zero]
  refine wpFree_one rfl (.pointer (some ⟨g, 0, none⟩)) (fun w1 _ => by kernel_rfl) ?_
  simp only [Act.put, List.setIfInBounds_toArray, List.set_cons_succ, List.set_cons_zero]
  refine wpFree_one rfl (.pointer (some ⟨g, 4, none⟩)) (fun w1 _ => by kernel_rfl) ?_
  simp only [Act.put, List.setIfInBounds_toArray, List.set_cons_succ, List.set_cons_zero]
  refine wpFree_one rfl (.pointer (some ⟨g, 4, none⟩)) (fun w1 _ => by kernel_rfl) ?_
  simp only [Act.put, List.setIfInBounds_toArray, List.set_cons_succ, List.set_cons_zero]
  refine wpFree_nil (fun w5 hw5 _ => ?_)
  have RR := ((F.drewN 1).le hw5).row List.mem_cons_self
  replace U := hid (((U.out.le (le_drewN _ 1)).le hw5).setCell (a := ⟨g, 4, none⟩) rfl (.float .f32 (kept s)))
  have cc := RR.cell? 4
  have ff := RR.frozen 4
  have RN := RR.set 4 (.float .f32 (kept s))
  replace RN : Row (w5.setCell ⟨g, 4, none⟩ (.float .f32 (kept s))) g 28 (#[.int .i64 2, .float .f32 a, .float .f32 b, .float .f32 c, .float .f32 (kept s), .float .f32 0] : Array Value) := by simpa using RN
  replace RR := hid RR
  clear hw5 F
  have F := Frm.one RN
  clear RN
  have RN := hid (F.row List.mem_cons_self)
  clear F
  go_wp2
  go_ret
  refine ⟨_, rfl, e.out, hf.out, ?_, U.out⟩
  have e0 : (kept s) = st0 2 a b c x 0 s := by rfl
  have e1 : 0 = st1 2 a b c x 0 s := by rfl
  rw [← e0, ← e1]
  exact RN.out
set_option maxRecDepth 100000 in
set_option maxHeartbeats 2000000 in
theorem s_Step3 (a b c x y s g : Nat) (w : World) (R : Row w g 28 (#[.int .i64 3, .float .f32 a, .float .f32 b, .float .f32 c, .float .f32 x, .float .f32 y] : Array Value)) (hx : fits .f32 x) (hs : fits .f32 s) :
    Calls Try.prog 58 #[.pointer (some ⟨g, 0, none⟩), .float .f32 s] w (OutS 3 a b c x y s g 28 (fun u v => (#[.int .i64 3, .float .f32 a, .float .f32 b, .float .f32 c, .float .f32 u, .float .f32 v] : Array Value)) w) := by
  have Hx := hid hx; have Hs := hid hs; clear hx hs
  have F := Frm.one R
  have U := hid (Upd.refl g w)
  obtain ⟨c0, c1, c2, c3, c4, c5⟩ := R.six
  clear R
  go_enter Try.func58, Try.ntmps58
  go_wp2_with (with_reducible refine wpList_farith rfl rfl rfl rfl rfl ?_; intro r n hr hf)
  rename_i r1 n1 h1 f1 r2 n2 h2 f2 KK aa
  clear c0 c1 c2 c3 c4 c5
  have e : can .f32 r = outF 3 a b c x y s := (by rw [hr.out]; exact fop_congr (h2.out.trans ((fop_congr rfl (h1.out.trans (can_fop _ _ _ _).symm)).trans (can_fop _ _ _ _).symm)) rfl)
  replace U := hid (U.out.le (le_drewN _ (n1 + n2 + n)))
  replace F := Frm.one ((F.drewN (n1 + n2 + n)).row List.mem_cons_self)
  replace e := hid e
  refine region_tail (fun _ _ _ v => v = .float .f32 (kept s)) 6 (by kernel_rfl) (by kernel_rfl) ?_
  simp only [List.take_succ_cons, List.take_zero, List.drop_succ_cons, List.drop_zero]
  refine wpFree_one rfl (.pointer (some ⟨g, 0, none⟩)) (fun w1 _ => by kernel_rfl) ?_
  simp only [Act.put, List.setIfInBounds_toArray, List.set_cons_succ, List.set_cons_zero]
  refine wpFree_one rfl (.float .f32 s) (fun w1 _ => by kernel_rfl) ?_
  simp only [Act.put, List.setIfInBounds_toArray, List.set_cons_succ, List.set_cons_zero]
  refine wpFree_call rfl rfl Try.func89 (by kernel_rfl) (by kernel_rfl) (args := #[.float .f32 s]) (by simp [Act.eval]) (fun _ _ _ _ h => h) (fun w1 _ => (s_Kept s w1 Hs.out).mono ?_) ?_
  · rintro e w2 ⟨rfl, n, rfl⟩
    exact ⟨_, rfl, le_drewN _ n, rfl⟩
  rintro v ⟨_, _, rfl⟩
  simp only [Act.put, List.setIfInBounds_toArray, List.set_cons_succ, List.set_cons_zero]
  refine wpFree_one rfl (.pointer (some ⟨g, 0, none⟩)) (fun w1 _ => by kernel_rfl) ?_
  simp only [Act.put, List.setIfInBounds_toArray, List.set_cons_succ, List.set_cons_zero]
  refine wpFree_one rfl (.pointer (some ⟨g, 4, none⟩)) (fun w1 _ => by kernel_rfl) ?_
  simp only [Act.put, List.setIfInBounds_toArray, List.set_cons_succ, List.set_cons_zero]
  refine wpFree_one rfl (.pointer (some ⟨g, 4, none⟩)) (fun w1 _ => by kernel_rfl) ?_
  simp only [Act.put, List.setIfInBounds_toArray, List.set_cons_succ, List.set_cons_zero]
  refine wpFree_nil (fun w5 hw5 _ => ?_)
  have RR := ((F.drewN 1).le hw5).row List.mem_cons_self
  replace U := hid (((U.out.le (le_drewN _ 1)).le hw5).setCell (a := ⟨g, 4, none⟩) rfl (.float .f32 (kept s)))
  have cc := RR.cell? 4
  have ff := RR.frozen 4
  have RN := RR.set 4 (.float .f32 (kept s))
  replace RN : Row (w5.setCell ⟨g, 4, none⟩ (.float .f32 (kept s))) g 28 (#[.int .i64 3, .float .f32 a, .float .f32 b, .float .f32 c, .float .f32 (kept s), .float .f32 y] : Array Value) := by simpa using RN
  replace RR := hid RR
  clear hw5 F
  have F := Frm.one RN
  clear RN
  go_wp2
  refine region_tail (fun _ _ _ v => v = .float .f32 (kept r)) 6 (by kernel_rfl) (by kernel_rfl) ?_
  simp only [List.take_succ_cons, List.take_zero, List.drop_succ_cons, List.drop_zero]
  refine wpFree_one rfl (.pointer (some ⟨g, 0, none⟩)) (fun w1 _ => by kernel_rfl) ?_
  simp only [Act.put, List.setIfInBounds_toArray, List.set_cons_succ, List.set_cons_zero]
  refine wpFree_one rfl (.float .f32 r) (fun w1 _ => by kernel_rfl) ?_
  simp only [Act.put, List.setIfInBounds_toArray, List.set_cons_succ, List.set_cons_zero]
  refine wpFree_call rfl rfl Try.func89 (by kernel_rfl) (by kernel_rfl) (args := #[.float .f32 r]) (by simp [Act.eval]) (fun _ _ _ _ h => h) (fun w1 _ => (s_Kept r w1 hf.out).mono ?_) ?_
  · rintro e w2 ⟨rfl, n, rfl⟩
    exact ⟨_, rfl, le_drewN _ n, rfl⟩
  rintro v ⟨_, _, rfl⟩
  simp only [Act.put, List.setIfInBounds_toArray, List.set_cons_succ, List.set_cons_zero]
  refine wpFree_one rfl (.pointer (some ⟨g, 0, none⟩)) (fun w1 _ => by kernel_rfl) ?_
  simp only [Act.put, List.setIfInBounds_toArray, List.set_cons_succ, List.set_cons_zero]
  refine wpFree_one rfl (.pointer (some ⟨g, 4, none⟩)) (fun w1 _ => by kernel_rfl) ?_
  simp only [Act.put, List.setIfInBounds_toArray, List.set_cons_succ, List.set_cons_zero]
  refine wpFree_one rfl (.pointer (some ⟨g, 4 + 1, none⟩)) (fun w1 _ => by kernel_rfl) ?_
  simp only [Act.put, List.setIfInBounds_toArray, List.set_cons_succ, List.set_cons_zero]
  refine wpFree_nil (fun w5 hw5 _ => ?_)
  have RR := ((F.drewN 1).le hw5).row List.mem_cons_self
  replace U := hid (((U.out.le (le_drewN _ 1)).le hw5).setCell (a := ⟨g, 5, none⟩) rfl (.float .f32 (kept r)))
  have cc := RR.cell? 5
  have ff := RR.frozen 5
  have RN := RR.set 5 (.float .f32 (kept r))
  replace RN : Row (w5.setCell ⟨g, 5, none⟩ (.float .f32 (kept r))) g 28 (#[.int .i64 3, .float .f32 a, .float .f32 b, .float .f32 c, .float .f32 (kept s), .float .f32 (kept r)] : Array Value) := by simpa using RN
  replace RR := hid RR
  clear hw5 F
  have F := Frm.one RN
  clear RN
  have RN := hid (F.row List.mem_cons_self)
  clear F
  go_wp2
  go_ret
  refine ⟨_, rfl, e.out, hf.out, ?_, U.out⟩
  have e0 : (kept s) = st0 3 a b c x y s := by rfl
  have e1 : (kept r) = st1 3 a b c x y s := by exact kept_can (e.out.trans (can_outF _ _ _ _ _ _ _).symm)
  rw [← e0, ← e1]
  exact RN.out
set_option maxRecDepth 100000 in
set_option maxHeartbeats 2000000 in
theorem s_Step4 (a b c x y s g : Nat) (w : World) (R : Row w g 28 (#[.int .i64 4, .float .f32 a, .float .f32 b, .float .f32 c, .float .f32 x, .float .f32 y] : Array Value)) (hx : fits .f32 x) (hs : fits .f32 s) :
    Calls Try.prog 58 #[.pointer (some ⟨g, 0, none⟩), .float .f32 s] w (OutS 4 a b c x y s g 28 (fun u v => (#[.int .i64 4, .float .f32 a, .float .f32 b, .float .f32 c, .float .f32 u, .float .f32 v] : Array Value)) w) := by
  have Hx := hid hx; have Hs := hid hs; clear hx hs
  have F := Frm.one R
  have U := hid (Upd.refl g w)
  obtain ⟨c0, c1, c2, c3, c4, c5⟩ := R.six
  clear R
  go_enter Try.func58, Try.ntmps58
  go_wp2
  refine region_free (fun _ _ _ _ => True) (by kernel_rfl) (by kernel_rfl) ?_
  refine wpFree_one rfl (.pointer (some ⟨g, 0, none⟩)) (fun w1 _ => by kernel_rfl) ?_
  simp only [Act.put, List.setIfInBounds_toArray, List.set_cons_succ, List.set_cons_zero]
  refine wpFree_one rfl (.pointer (some ⟨g, 0, none⟩)) (fun w1 _ => by kernel_rfl) ?_
  simp only [Act.put, List.setIfInBounds_toArray, List.set_cons_succ, List.set_cons_zero]
  refine wpFree_one rfl (.pointer (some ⟨g, 1, none⟩)) (fun w1 _ => by kernel_rfl) ?_
  simp only [Act.put, List.setIfInBounds_toArray, List.set_cons_succ, List.set_cons_zero]
  refine wpFree_one rfl (.pointer (some ⟨g, 1, none⟩)) (fun w1 _ => by kernel_rfl) ?_
  simp only [Act.put, List.setIfInBounds_toArray, List.set_cons_succ, List.set_cons_zero]
  refine wpFree_loadF F rfl rfl rfl rfl List.mem_cons_self rfl Try.underlying22 ?_
  simp only [Act.put, List.setIfInBounds_toArray, List.set_cons_succ, List.set_cons_zero]
  refine wpFree_one rfl (.float .f32 s) (fun w1 _ => by kernel_rfl) ?_
  simp only [Act.put, List.setIfInBounds_toArray, List.set_cons_succ, List.set_cons_zero]
  refine wpFree_farith rfl rfl rfl rfl rfl (fun r124 h124 f124 => ?_)
  simp only [Act.put, List.setIfInBounds_toArray, List.set_cons_succ, List.set_cons_zero]
  refine wpFree_one rfl (.pointer (some ⟨g, 0, none⟩)) (fun w1 _ => by kernel_rfl) ?_
  simp only [Act.put, List.setIfInBounds_toArray, List.set_cons_succ, List.set_cons_zero]
  refine wpFree_one rfl (.pointer (some ⟨g, 0, none⟩)) (fun w1 _ => by kernel_rfl) ?_
  simp only [Act.put, List.setIfInBounds_toArray, List.set_cons_succ, List.set_cons_zero]
  refine wpFree_one rfl (.pointer (some ⟨g, 1, none⟩)) (fun w1 _ => by kernel_rfl) ?_
  simp only [Act.put, List.setIfInBounds_toArray, List.set_cons_succ, List.set_cons_zero]
  refine wpFree_one rfl (.pointer (some ⟨g, 1 + 1, none⟩)) (fun w1 _ => by kernel_rfl) ?_
  simp only [Act.put, List.setIfInBounds_toArray, List.set_cons_succ, List.set_cons_zero]
  refine wpFree_loadF F rfl rfl rfl rfl List.mem_cons_self rfl Try.underlying22 ?_
  simp only [Act.put, List.setIfInBounds_toArray, List.set_cons_succ, List.set_cons_zero]
  refine wpFree_one rfl (.float .f32 x) (fun w1 _ => by kernel_rfl) ?_
  simp only [Act.put, List.setIfInBounds_toArray, List.set_cons_succ, List.set_cons_zero]
  refine wpFree_farith rfl rfl rfl rfl rfl (fun r131 h131 f131 => ?_)
  simp only [Act.put, List.setIfInBounds_toArray, List.set_cons_succ, List.set_cons_zero]
  refine wpFree_farith rfl rfl rfl rfl rfl (fun r132 h132 f132 => ?_)
  simp only [Act.put, List.setIfInBounds_toArray, List.set_cons_succ, List.set_cons_zero]
  refine wpFree_one rfl (.pointer (some ⟨g, 0, none⟩)) (fun w1 _ => by kernel_rfl) ?_
  simp only [Act.put, List.setIfInBounds_toArray, List.set_cons_succ, List.set_cons_zero]
  refine wpFree_one rfl (.pointer (some ⟨g, 0, none⟩)) (fun w1 _ => by kernel_rfl) ?_
  simp only [Act.put, List.setIfInBounds_toArray, List.set_cons_succ, List.set_cons_zero]
  refine wpFree_one rfl (.pointer (some ⟨g, 1, none⟩)) (fun w1 _ => by kernel_rfl) ?_
  simp only [Act.put, List.setIfInBounds_toArray, List.set_cons_succ, List.set_cons_zero]
  refine wpFree_one rfl (.pointer (some ⟨g, 1 + 2, none⟩)) (fun w1 _ => by kernel_rfl) ?_
  simp only [Act.put, List.setIfInBounds_toArray, List.set_cons_succ, List.set_cons_zero]
  refine wpFree_loadF F rfl rfl rfl rfl List.mem_cons_self rfl Try.underlying22 ?_
  simp only [Act.put, List.setIfInBounds_toArray, List.set_cons_succ, List.set_cons_zero]
  refine wpFree_one rfl (.float .f32 y) (fun w1 _ => by kernel_rfl) ?_
  simp only [Act.put, List.setIfInBounds_toArray, List.set_cons_succ, List.set_cons_zero]
  refine wpFree_farith rfl rfl rfl rfl rfl (fun r139 h139 f139 => ?_)
  simp only [Act.put, List.setIfInBounds_toArray, List.set_cons_succ, List.set_cons_zero]
  refine wpFree_farith rfl rfl rfl rfl rfl (fun r140 h140 f140 => ?_)
  simp only [Act.put, List.setIfInBounds_toArray, List.set_cons_succ, List.set_cons_zero]
  refine wpFree_one rfl (.float .f32 r140) (fun w1 _ => by kernel_rfl) ?_
  simp only [Act.put, List.setIfInBounds_toArray, List.set_cons_succ, List.set_cons_zero]
  refine wpFree_nil (fun w3 hw3 _ => ?_)
  replace U := hid ((U.out.le (le_drewN _ 1)).le hw3)
  replace F := Frm.one (((F.drewN 1).le hw3).row List.mem_cons_self)
  clear hw3 c0 c1 c2 c3 c4 c5
  have e : can .f32 r140 = outF 4 a b c x y s := (by rw [h140.out]; exact fop_congr (h132.out.trans ((fop_congr (h124.out.trans (can_fop _ _ _ _).symm) (h131.out.trans (can_fop _ _ _ _).symm)).trans (can_fop _ _ _ _).symm)) (h139.out.trans (can_fop _ _ _ _).symm))
  have hf := f140
  replace e := hid e
  go_wp2
  refine region_tail (fun _ _ _ v => v = .float .f32 (kept x)) 6 (by kernel_rfl) (by kernel_rfl) ?_
  simp only [List.take_succ_cons, List.take_zero, List.drop_succ_cons, List.drop_zero]
  refine wpFree_one rfl (.pointer (some ⟨g, 0, none⟩)) (fun w1 _ => by kernel_rfl) ?_
  simp only [Act.put, List.setIfInBounds_toArray, List.set_cons_succ, List.set_cons_zero]
  refine wpFree_one rfl (.float .f32 x) (fun w1 _ => by kernel_rfl) ?_
  simp only [Act.put, List.setIfInBounds_toArray, List.set_cons_succ, List.set_cons_zero]
  refine wpFree_call rfl rfl Try.func89 (by kernel_rfl) (by kernel_rfl) (args := #[.float .f32 x]) (by simp [Act.eval]) (fun _ _ _ _ h => h) (fun w1 _ => (s_Kept x w1 Hx.out).mono ?_) ?_
  · rintro e w2 ⟨rfl, n, rfl⟩
    exact ⟨_, rfl, le_drewN _ n, rfl⟩
  rintro v ⟨_, _, rfl⟩
  simp only [Act.put, List.setIfInBounds_toArray, List.set_cons_succ, List.set_cons_zero]
  refine wpFree_one rfl (.pointer (some ⟨g, 0, none⟩)) (fun w1 _ => by kernel_rfl) ?_
  simp only [Act.put, List.setIfInBounds_toArray, List.set_cons_succ, List.set_cons_zero]
  refine wpFree_one rfl (.pointer (some ⟨g, 4, none⟩)) (fun w1 _ => by kernel_rfl) ?_
  simp only [Act.put, List.setIfInBounds_toArray, List.set_cons_succ, List.set_cons_zero]
  refine wpFree_one rfl (.pointer (some ⟨g, 4 + 1, none⟩)) (fun w1 _ => by kernel_rfl) ?_
  simp only [Act.put, List.setIfInBounds_toArray, List.set_cons_succ, List.set_cons_zero]
  refine wpFree_nil (fun w5 hw5 _ => ?_)
  have RR := ((F.drewN 1).le hw5).row List.mem_cons_self
  replace U := hid (((U.out.le (le_drewN _ 1)).le hw5).setCell (a := ⟨g, 5, none⟩) rfl (.float .f32 (kept x)))
  have cc := RR.cell? 5
  have ff := RR.frozen 5
  have RN := RR.set 5 (.float .f32 (kept x))
  replace RN : Row (w5.setCell ⟨g, 5, none⟩ (.float .f32 (kept x))) g 28 (#[.int .i64 4, .float .f32 a, .float .f32 b, .float .f32 c, .float .f32 x, .float .f32 (kept x)] : Array Value) := by simpa using RN
  replace RR := hid RR
  clear hw5 F
  have F := Frm.one RN
  clear RN
  go_wp2
  refine region_tail (fun _ _ _ v => v = .float .f32 (kept r140)) 6 (by kernel_rfl) (by kernel_rfl) ?_
  simp only [List.take_succ_cons, List.take_zero, List.drop_succ_cons, List.drop_zero]
  refine wpFree_one rfl (.pointer (some ⟨g, 0, none⟩)) (fun w1 _ => by kernel_rfl) ?_
  simp only [Act.put, List.setIfInBounds_toArray, List.set_cons_succ, List.set_cons_zero]
  refine wpFree_one rfl (.float .f32 r140) (fun w1 _ => by kernel_rfl) ?_
  simp only [Act.put, List.setIfInBounds_toArray, List.set_cons_succ, List.set_cons_zero]
  refine wpFree_call rfl rfl Try.func89 (by kernel_rfl) (by kernel_rfl) (args := #[.float .f32 r140]) (by simp [Act.eval]) (fun _ _ _ _ h => h) (fun w1 _ => (s_Kept r140 w1 hf.out).mono ?_) ?_
  · rintro e w2 ⟨rfl, n, rfl⟩
    exact ⟨_, rfl, le_drewN _ n, rfl⟩
  rintro v ⟨_, _, rfl⟩
  simp only [Act.put, List.setIfInBounds_toArray, List.set_cons_succ, List.set_cons_zero]
  refine wpFree_one rfl (.pointer (some ⟨g, 0, none⟩)) (fun w1 _ => by kernel_rfl) ?_
  simp only [Act.put, List.setIfInBounds_toArray, List.set_cons_succ, List.set_cons_zero]
  refine wpFree_one rfl (.pointer (some ⟨g, 4, none⟩)) (fun w1 _ => by kernel_rfl) ?_
  simp only [Act.put, List.setIfInBounds_toArray, List.set_cons_succ, List.set_cons_zero]
  refine wpFree_one rfl (.pointer (some ⟨g, 4, none⟩)) (fun w1 _ => by kernel_rfl) ?_
  simp only [Act.put, List.setIfInBounds_toArray, List.set_cons_succ, List.set_cons_zero]
  refine wpFree_nil (fun w5 hw5 _ => ?_)
  have RR := ((F.drewN 1).le hw5).row List.mem_cons_self
  replace U := hid (((U.out.le (le_drewN _ 1)).le hw5).setCell (a := ⟨g, 4, none⟩) rfl (.float .f32 (kept r140)))
  have cc := RR.cell? 4
  have ff := RR.frozen 4
  have RN := RR.set 4 (.float .f32 (kept r140))
  replace RN : Row (w5.setCell ⟨g, 4, none⟩ (.float .f32 (kept r140))) g 28 (#[.int .i64 4, .float .f32 a, .float .f32 b, .float .f32 c, .float .f32 (kept r140), .float .f32 (kept x)] : Array Value) := by simpa using RN
  replace RR := hid RR
  clear hw5 F
  have F := Frm.one RN
  clear RN
  have RN := hid (F.row List.mem_cons_self)
  clear F
  go_wp2
  go_ret
  refine ⟨_, rfl, e.out, hf.out, ?_, U.out⟩
  have e0 : (kept r140) = st0 4 a b c x y s := by exact kept_can (e.out.trans (can_outF _ _ _ _ _ _ _).symm)
  have e1 : (kept x) = st1 4 a b c x y s := by rfl
  rw [← e0, ← e1]
  exact RN.out
set_option maxRecDepth 100000 in
set_option maxHeartbeats 2000000 in
theorem s_Step5 (a b c x y s g : Nat) (w : World) (R : Row w g 28 (#[.int .i64 5, .float .f32 a, .float .f32 b, .float .f32 c, .float .f32 x, .float .f32 y] : Array Value)) (hx : fits .f32 x) (hs : fits .f32 s) :
    Calls Try.prog 58 #[.pointer (some ⟨g, 0, none⟩), .float .f32 s] w (OutS 5 a b c x y s g 28 (fun u v => (#[.int .i64 5, .float .f32 a, .float .f32 b, .float .f32 c, .float .f32 u, .float .f32 v] : Array Value)) w) := by
  have Hx := hid hx; have Hs := hid hs; clear hx hs
  have F := Frm.one R
  have U := hid (Upd.refl g w)
  obtain ⟨c0, c1, c2, c3, c4, c5⟩ := R.six
  clear R
  go_enter Try.func58, Try.ntmps58
  go_wp2_with (with_reducible refine wpList_farith rfl rfl rfl rfl rfl ?_; intro r n hr hf)
  rename_i r1 n1 h1 f1 r2 n2 h2 f2 KK aa
  clear c0 c1 c2 c3 c4 c5
  have e : can .f32 r = outF 5 a b c x y s := (by rw [hr.out]; exact fop_congr (h1.out.trans (can_fop _ _ _ _).symm) (h2.out.trans (can_fop _ _ _ _).symm))
  replace U := hid (U.out.le (le_drewN _ (n1 + n2 + n)))
  replace F := Frm.one ((F.drewN (n1 + n2 + n)).row List.mem_cons_self)
  replace e := hid e
  refine region_tail (fun _ _ _ v => v = .float .f32 (kept s)) 6 (by kernel_rfl) (by kernel_rfl) ?_
  simp only [List.take_succ_cons, List.take_zero, List.drop_succ_cons, List.drop_zero]
  refine wpFree_one rfl (.pointer (some ⟨g, 0, none⟩)) (fun w1 _ => by kernel_rfl) ?_
  simp only [Act.put, List.setIfInBounds_toArray, List.set_cons_succ, List.set_cons_zero]
  refine wpFree_one rfl (.float .f32 s) (fun w1 _ => by kernel_rfl) ?_
  simp only [Act.put, List.setIfInBounds_toArray, List.set_cons_succ, List.set_cons_zero]
  refine wpFree_call rfl rfl Try.func89 (by kernel_rfl) (by kernel_rfl) (args := #[.float .f32 s]) (by simp [Act.eval]) (fun _ _ _ _ h => h) (fun w1 _ => (s_Kept s w1 Hs.out).mono ?_) ?_
  · rintro e w2 ⟨rfl, n, rfl⟩
    exact ⟨_, rfl, le_drewN _ n, rfl⟩
  rintro v ⟨_, _, rfl⟩
  simp only [Act.put, List.setIfInBounds_toArray, List.set_cons_succ, List.set_cons_zero]
  refine wpFree_one rfl (.pointer (some ⟨g, 0, none⟩)) (fun w1 _ => by kernel_rfl) ?_
  simp only [Act.put, List.setIfInBounds_toArray, List.set_cons_succ, List.set_cons_zero]
  refine wpFree_one rfl (.pointer (some ⟨g, 4, none⟩)) (fun w1 _ => by kernel_rfl) ?_
  simp only [Act.put, List.setIfInBounds_toArray, List.set_cons_succ, List.set_cons_zero]
  refine wpFree_one rfl (.pointer (some ⟨g, 4, none⟩)) (fun w1 _ => by kernel_rfl) ?_
  simp only [Act.put, List.setIfInBounds_toArray, List.set_cons_succ, List.set_cons_zero]
  refine wpFree_nil (fun w5 hw5 _ => ?_)
  have RR := ((F.drewN 1).le hw5).row List.mem_cons_self
  replace U := hid (((U.out.le (le_drewN _ 1)).le hw5).setCell (a := ⟨g, 4, none⟩) rfl (.float .f32 (kept s)))
  have cc := RR.cell? 4
  have ff := RR.frozen 4
  have RN := RR.set 4 (.float .f32 (kept s))
  replace RN : Row (w5.setCell ⟨g, 4, none⟩ (.float .f32 (kept s))) g 28 (#[.int .i64 5, .float .f32 a, .float .f32 b, .float .f32 c, .float .f32 (kept s), .float .f32 y] : Array Value) := by simpa using RN
  replace RR := hid RR
  clear hw5 F
  have F := Frm.one RN
  clear RN
  go_wp2
  refine region_tail (fun _ _ _ v => v = .float .f32 (kept r)) 6 (by kernel_rfl) (by kernel_rfl) ?_
  simp only [List.take_succ_cons, List.take_zero, List.drop_succ_cons, List.drop_zero]
  refine wpFree_one rfl (.pointer (some ⟨g, 0, none⟩)) (fun w1 _ => by kernel_rfl) ?_
  simp only [Act.put, List.setIfInBounds_toArray, List.set_cons_succ, List.set_cons_zero]
  refine wpFree_one rfl (.float .f32 r) (fun w1 _ => by kernel_rfl) ?_
  simp only [Act.put, List.setIfInBounds_toArray, List.set_cons_succ, List.set_cons_zero]
  refine wpFree_call rfl rfl Try.func89 (by kernel_rfl) (by kernel_rfl) (args := #[.float .f32 r]) (by simp [Act.eval]) (fun _ _ _ _ h => h) (fun w1 _ => (s_Kept r w1 hf.out).mono ?_) ?_
  · rintro e w2 ⟨rfl, n, rfl⟩
    exact ⟨_, rfl, le_drewN _ n, rfl⟩
  rintro v ⟨_, _, rfl⟩
  simp only [Act.put, List.setIfInBounds_toArray, List.set_cons_succ, List.set_cons_zero]
  refine wpFree_one rfl (.pointer (some ⟨g, 0, none⟩)) (fun w1 _ => by kernel_rfl) ?_
  simp only [Act.put, List.setIfInBounds_toArray, List.set_cons_succ, List.set_cons_zero]
  refine wpFree_one rfl (.pointer (some ⟨g, 4, none⟩)) (fun w1 _ => by kernel_rfl) ?_
  simp only [Act.put, List.setIfInBounds_toArray, List.set_cons_succ, List.set_cons_zero]
  refine wpFree_one rfl (.pointer (some ⟨g, 4 + 1, none⟩)) (fun w1 _ => by kernel_rfl) ?_
  simp only [Act.put, List.setIfInBounds_toArray, List.set_cons_succ, List.set_cons_zero]
  refine wpFree_nil (fun w5 hw5 _ => ?_)
  have RR := ((F.drewN 1).le hw5).row List.mem_cons_self
  replace U := hid (((U.out.le (le_drewN _ 1)).le hw5).setCell (a := ⟨g, 5, none⟩) rfl (.float .f32 (kept r)))
  have cc := RR.cell? 5
  have ff := RR.frozen 5
  have RN := RR.set 5 (.float .f32 (kept r))
  replace RN : Row (w5.setCell ⟨g, 5, none⟩ (.float .f32 (kept r))) g 28 (#[.int .i64 5, .float .f32 a, .float .f32 b, .float .f32 c, .float .f32 (kept s), .float .f32 (kept r)] : Array Value) := by simpa using RN
  replace RR := hid RR
  clear hw5 F
  have F := Frm.one RN
  clear RN
  have RN := hid (F.row List.mem_cons_self)
  clear F
  go_wp2
  go_ret
  refine ⟨_, rfl, e.out, hf.out, ?_, U.out⟩
  have e0 : (kept s) = st0 5 a b c x y s := by rfl
  have e1 : (kept r) = st1 5 a b c x y s := by exact kept_can (e.out.trans (can_outF _ _ _ _ _ _ _).symm)
  rw [← e0, ← e1]
  exact RN.out
end Go.Proofs.Ytmacednkpjfokaa

/- 'StepFilter' of both. -/
namespace Go.Fk
open Go Go.RowKit
theorem zero_of_same {y : Nat} (h : sameB y 0 = true) : y = 0 := by
  have e : can .f32 y = can .f32 0 := by
    simp only [sameB, beq_iff_eq] at h
    exact_mod_cast h
  exact (eq_of_can e.symm (by decide)).symm
theorem okF_y {k : Int} {a b c x y : Nat} (h : okF k a b c x y = true) (hk : k = 1 ∨ k = 2) : y = 0 := by
  simp only [okF, Bool.and_eq_true] at h
  have h2 := h.2.2
  rw [show sU k = 1 by simp [sU, hk]] at h2
  simp only [usedB, List.all_eq_true, List.mem_range] at h2
  exact zero_of_same (h2 1 (by omega))
theorem part12 {v0 v1 v2 : Value} : ∀ j, j < [v1, v2].length → (#[v0, v1, v2] : Array Value)[1 + j]? = [v1, v2][j]? := by
  intro j hj
  match j, hj with
  | 0, _ => rfl
  | 1, _ => rfl
/-- What 'StepFilter' gives of a valid filter. -/
def OutSF (k : Int) (a b c x y s : Nat) (w : World) (e : Ending) (w' : World) : Prop := ∃ r, e = .returned (.tuple #[(.agg #[.int .i64 k, .float .f32 a, .float .f32 b, .float .f32 c, .float .f32 (st0 k a b c x y s), .float .f32 (st1 k a b c x y s)]), .float .f32 r, .int .i64 0]) ∧ can .f32 r = outF k a b c x y s ∧ le w w'
theorem fits_st0 {k : Int} {a b c x y s : Nat} (hs : fits .f32 s) (ho : fits .f32 (outF k a b c x y s)) : fits .f32 (st0 k a b c x y s) := by
  unfold st0; split; exact fits_kept ho; exact fits_kept hs
end Go.Fk
namespace Go.Proofs.Ytmacednkpjfokaa
open Go.RowKit Go.Fk
theorem i_step (k : Int) (a b c x y s g : Nat) (w : World) (hk : 1 ≤ k ∧ k ≤ 5) (R : Row w g 88 #[mdl k a b c, .float .f32 x, .float .f32 y]) (hx : fits .f32 x) (hs : fits .f32 s) :
    Calls Try.prog 100 #[.pointer (some ⟨g, 0, none⟩), .float .f32 s] w (OutS k a b c x y s g 88 (fun u v => #[mdl k a b c, .float .f32 u, .float .f32 v]) w) := by
  rcases (show k = 1 ∨ k = 2 ∨ k = 3 ∨ k = 4 ∨ k = 5 by omega) with rfl | rfl | rfl | rfl | rfl
  · simp only [mdl1] at R ⊢; exact i_step1 a b c x y s g w R hx hs
  · simp only [mdl2] at R ⊢; exact i_step2 a b c x y s g w R hx hs
  · simp only [mdl3] at R ⊢; exact i_step3 a b c x y s g w R hx hs
  · simp only [mdl4] at R ⊢; exact i_step4 a b c x y s g w R hx hs
  · simp only [mdl5] at R ⊢; exact i_step5 a b c x y s g w R hx hs
theorem s_Step (k : Int) (a b c x y s g : Nat) (w : World) (hv : okF k a b c x y = true) (R : Row w g 28 (#[.int .i64 k, .float .f32 a, .float .f32 b, .float .f32 c, .float .f32 x, .float .f32 y] : Array Value)) (hx : fits .f32 x) (hs : fits .f32 s) :
    Calls Try.prog 58 #[.pointer (some ⟨g, 0, none⟩), .float .f32 s] w (OutS k a b c x y s g 28 (fun u v => (#[.int .i64 k, .float .f32 a, .float .f32 b, .float .f32 c, .float .f32 u, .float .f32 v] : Array Value)) w) := by
  have hk := okF_kind hv
  rcases (show k = 1 ∨ k = 2 ∨ k = 3 ∨ k = 4 ∨ k = 5 by omega) with rfl | rfl | rfl | rfl | rfl
  · exact s_Step1 a b c x y s g w R hx hs (okF_y hv (.inl rfl))
  · exact s_Step2 a b c x y s g w R hx hs (okF_y hv (.inr rfl))
  · exact s_Step3 a b c x y s g w R hx hs
  · exact s_Step4 a b c x y s g w R hx hs
  · exact s_Step5 a b c x y s g w R hx hs
end Go.Proofs.Ytmacednkpjfokaa

/- Equality of arrays of floats. Nothing here names a program. -/
namespace Go.Fk
open Go Go.RowKit
theorem run_all_loop {P : Program} (w : World) (c : Nat → Bool) (g : Nat → Option Bool × Unit → Sem (ForInStep (Option Bool × Unit))) : ∀ (l : List Nat),
    (∀ i, i ∈ l → ∀ s, (g i s).run P w = .ok (if c i then ForInStep.yield (none, ()) else ForInStep.done (some false, ())) w) →
    (forIn l ((none, ()) : Option Bool × Unit) g).run P w = .ok (if l.all c then (none, ()) else (some false, ())) w := by
  intro l
  induction l with
  | nil => intro _; rfl
  | cons i l ih =>
    intro h
    rw [List.forIn_cons, Sem.run_bind, h i (by simp) (none, ()), Result.andThen_ok]
    cases hc : c i
    · simp [hc]
    · simp only [if_true, hc, List.all_cons, Bool.true_and]
      exact ih (fun j hj => h j (by simp [hj]))

theorem run_equalIn_farr {P : Program} (w : World) (d n : Nat) {t e : TypeId} {k : FloatKind} (x y : Nat → Nat) (h : P.underlying t = some (.array n e)) (he : P.underlying e = some (.float k)) (hs : (P.info? e).map (·.size) = some 1) :
    (Op.equalIn (d + 2) t (.agg (ftab k x n)) (.agg (ftab k y n))).run P w = .ok ((List.range n).all (fun j => k.format.order (x j) (y j) == some .eq)) w := by
  cases hq : P.info? e with
  | none => simp [hq] at hs
  | some i =>
    have hsz : i.size = 1 := by simpa [hq] using hs
    unfold Op.equalIn
    simp only [Sem.run_bind, run_underlying h, Result.andThen_ok, sizeOf, typeInfo, hq, hsz, Nat.mul_one, run_program, Sem.run_pure, Std.Legacy.Range.forIn_eq_forIn_range']
    have key := run_all_loop (P := P) w (fun j => k.format.order (x j) (y j) == some .eq) (fun i _ => (do
            let a ← part e (ftab k x n) i
            let b ← part e (ftab k y n) i
            let r ← Op.equalIn (d + 1) e a b
            if (!r) = true then pure (ForInStep.done (some false, ())) else pure (ForInStep.yield (none, ())) : Sem (ForInStep (Option Bool × Unit)))) (List.range' 0 n) (by
      intro j hj s
      have hjn : j < n := by simpa using hj
      have p1 : ∀ z : Nat → Nat, (part e (ftab k z n) j).run P w = .ok (.float k (z j)) w := by
        intro z
        simp [part, isAgg, run_underlying he, get_ftab k z n j hjn]
      have p2 : (Op.equalIn (d + 1) e (.float k (x j)) (.float k (y j))).run P w = .ok (k.format.order (x j) (y j) == some .eq) w := by
        simp [Op.equalIn, run_underlying he, Op.floatEq]
      simp only [Sem.run_bind, p1, p2, Result.andThen_ok]
      cases (k.format.order (x j) (y j) == some .eq) <;> simp)
    have hr : [:n].size = n := by simp [Std.Legacy.Range.size]
    rw [hr, key, Result.andThen_ok, List.range_eq_range']
    cases (List.range' 0 n).all (fun j => k.format.order (x j) (y j) == some .eq) <;> simp
/-- '==' on arrays of floats. -/
theorem run_eql_farr {P : Program} (w : World) (n : Nat) {t e : TypeId} {k : FloatKind} (x y : Nat → Nat) (h : P.underlying t = some (.array n e)) (he : P.underlying e = some (.float k)) (hs : (P.info? e).map (·.size) = some 1) :
    (binOp .eql t (.agg (ftab k x n)) (.agg (ftab k y n))).run P w = .ok (.bool ((List.range n).all (fun j => k.format.order (x j) (y j) == some .eq))) w := by
  rw [run_eql_struct, run_equalIn_farr w 9998 n x y h he hs]; rfl
end Go.Fk

/- Stillness: 'IsStill', 'StepsToStill' of both. -/
namespace Go.Fk
open Go Go.RowKit
def zeroF (x : Nat) : Bool := FloatKind.f32.format.order x 0 == some .eq
def stillB (x y : Nat) : Bool := zeroF x && zeroF y
theorem stillB_arr (x y : Nat) : (List.range 2).all (fun j => FloatKind.f32.format.order (duo x y j) 0 == some .eq) = stillB x y := by
  simp [stillB, zeroF, duo, List.range_succ]
end Go.Fk
namespace Go.Proofs.Ytmacednkpjfokaa
open Go.RowKit Go.Fk
theorem i_isStill (v : Value) (x y g : Nat) (w : World) (R : Row w g 88 #[v, .float .f32 x, .float .f32 y]) :
    Calls Try.prog 103 #[.pointer (some ⟨g, 0, none⟩)] w fun e w' => e = .returned (.bool (stillB x y)) ∧ w = w' := by
  have heq : ∀ w, (binOp .eql 24 (.agg #[.float .f32 x, .float .f32 y]) (.agg #[.float .f32 0, .float .f32 0])).run Try.prog w = .ok (.bool (stillB x y)) w := fun w => by
    have h := run_eql_farr (P := Try.prog) w 2 (duo x y) (fun _ => 0) Try.underlying24 Try.underlying22 (by kernel_rfl)
    rw [stillB_arr] at h; exact h
  have hgd : Try.prog.eqGuardType Try.prog.depth 24 = false := by kernel_rfl
  have F := Frm.one R
  clear R
  go_enter Try.func103, Try.ntmps103
  go_wp2_with ((with_reducible refine wpList_loadPartFr F [.float .f32 x, .float .f32 y] rfl rfl rfl List.mem_cons_self Try.underlying24 rfl part12 info2 (by simp) ?_))
  go_ret
  exact ⟨rfl, rfl⟩
theorem s_l02StillAt (x y g f : Nat) (w : World) (c4 : w.cell? ⟨g, f + 4, none⟩ = some (.float .f32 x)) (c5 : w.cell? ⟨g, f + 5, none⟩ = some (.float .f32 y)) :
    Calls Try.prog 57 #[.pointer (some ⟨g, f, none⟩)] w fun e w' => e = .returned (.bool (stillB x y)) ∧ w = w' := by
  have c5' : w.cell? ⟨g, f + 4 + 1, none⟩ = some (.float .f32 y) := c5
  cases h1 : zeroF x <;> cases h2 : zeroF y
  all_goals
    rw [show stillB x y = (zeroF x && zeroF y) from rfl, h1, h2]
    unfold zeroF at h1 h2
    go_enter Try.func57, Try.ntmps57
    go_wp2
    go_ret
    exact ⟨rfl, rfl⟩
theorem s_l02Still (k : Int) (a b c x y g : Nat) (w : World) (R : Row w g 28 (#[.int .i64 k, .float .f32 a, .float .f32 b, .float .f32 c, .float .f32 x, .float .f32 y] : Array Value)) :
    Calls Try.prog 57 #[.pointer (some ⟨g, 0, none⟩)] w fun e w' => e = .returned (.bool (stillB x y)) ∧ w = w' :=
  s_l02StillAt x y g 0 w R.six.2.2.2.2.1 R.six.2.2.2.2.2
end Go.Proofs.Ytmacednkpjfokaa

/- How states go on, plainly. Nothing here names a program. -/
namespace Go.Fk
open Go Go.RowKit
theorem fits_fop (op : BinOp) (k : FloatKind) (x y : Nat) : fits k (fop op k x y) := by
  unfold fop
  split
  · rename_i r h
    unfold can; split
    · cases k <;> simp [fits, Lit.wf, qnan]
    · exact floatBits_wf h
  · cases k <;> simp [fits, Lit.wf, qnan]
theorem fits_outF (k : Int) (a b c x y s : Nat) : fits .f32 (outF k a b c x y s) := by
  unfold outF; split; exact fits_fop _ _ _ _; split; exact fits_fop _ _ _ _; split <;> exact fits_fop _ _ _ _
theorem fits_st1 {k : Int} {a b c x y s : Nat} (hx : fits .f32 x) : fits .f32 (st1 k a b c x y s) := by
  unfold st1; split; exact fits_zero; split; exact fits_kept hx; exact fits_kept (fits_outF _ _ _ _ _ _ _)
theorem fin_kept (v : Nat) : fin (kept v) = true := by
  unfold kept; split
  · rename_i h
    unfold flush; split
    · decide
    · exact h
  · decide
theorem usedB_three {a b c u : Nat} : usedB (tri a b c) 3 u = ((if 0 < u then fin a else sameB a 0) && (if 1 < u then fin b else sameB b 0) && (if 2 < u then fin c else sameB c 0)) := by
  simp [usedB, tri, List.range_succ, Bool.and_assoc]
theorem usedB_two {x y u : Nat} : usedB (duo x y) 2 u = ((if 0 < u then fin x else sameB x 0) && (if 1 < u then fin y else sameB y 0)) := by
  simp [usedB, duo, List.range_succ]
theorem same00 : sameB 0 0 = true := by decide
theorem okF_step {k : Int} {a b c x y s : Nat} (h : okF k a b c x y = true) : okF k a b c (st0 k a b c x y s) (st1 k a b c x y s) = true := by
  simp only [okF, Bool.and_eq_true] at h ⊢
  refine ⟨h.1, h.2.1, ?_⟩
  rw [usedB_two]
  have h0 : fin (st0 k a b c x y s) = true := by unfold st0; split <;> exact fin_kept _
  by_cases hk : k = 1 ∨ k = 2
  · have : sU k = 1 := by simp [sU, hk]
    have h1 : st1 k a b c x y s = 0 := by simp [st1, hk]
    rw [this, h1, h0]; simp [same00]
  · have : sU k = 2 := by simp [sU, hk]
    have h1 : fin (st1 k a b c x y s) = true := by unfold st1; rw [if_neg hk]; split <;> exact fin_kept _
    rw [this, h0, h1]; simp
/-- The states of a filter that gets zeros. -/
def stN (k : Int) (a b c x y : Nat) : Nat → Nat × Nat
  | 0 => (x, y)
  | n + 1 => (st0 k a b c (stN k a b c x y n).1 (stN k a b c x y n).2 0, st1 k a b c (stN k a b c x y n).1 (stN k a b c x y n).2 0)
theorem okF_stN {k : Int} {a b c x y : Nat} (h : okF k a b c x y = true) (n : Nat) : okF k a b c (stN k a b c x y n).1 (stN k a b c x y n).2 = true := by
  induction n with
  | zero => exact h
  | succ n ih => exact okF_step ih
theorem fits_stN {k : Int} {a b c x y : Nat} (hx : fits .f32 x) (hy : fits .f32 y) (n : Nat) : fits .f32 (stN k a b c x y n).1 ∧ fits .f32 (stN k a b c x y n).2 := by
  induction n with
  | zero => exact ⟨hx, hy⟩
  | succ n ih => exact ⟨fits_st0 fits_zero (fits_outF _ _ _ _ _ _ _), fits_st1 ih.1⟩
def stillN (k : Int) (a b c x y n : Nat) : Bool := stillB (stN k a b c x y n).1 (stN k a b c x y n).2
/-- What 'StepsToStill' gives. -/
def ResST (k : Int) (a b c x y K : Nat) (n code : Int) : Prop :=
  (code = 0 ∧ ∃ m : Nat, n = m ∧ m ≤ K ∧ stillN k a b c x y m = true ∧ ∀ i, i < m → stillN k a b c x y i = false) ∨ (code = 7 ∧ n = 0 ∧ ∀ i, i ≤ K → stillN k a b c x y i = false)
theorem ResST.one {k : Int} {a b c x y K : Nat} {n d n' d' : Int} (h : ResST k a b c x y K n d) (h' : ResST k a b c x y K n' d') : n = n' ∧ d = d' := by
  rcases h with ⟨rfl, m, rfl, h1, h2, h3⟩ | ⟨rfl, rfl, h1⟩ <;> rcases h' with ⟨rfl, m', rfl, h1', h2', h3'⟩ | ⟨rfl, rfl, h1'⟩
  · rcases Nat.lt_trichotomy m m' with h | h | h
    · rw [h3' m h] at h2; cases h2
    · subst h; exact ⟨rfl, rfl⟩
    · rw [h3 m' h] at h2'; cases h2'
  · rw [h1' m h1] at h2; cases h2
  · rw [h1 m' h1'] at h2'; cases h2'
  · exact ⟨rfl, rfl⟩
def OutST (k : Int) (a b c x y K : Nat) (w : World) (e : Ending) (w' : World) : Prop := ∃ n d, e = .returned (.tuple #[.int .i64 n, .int .i64 d]) ∧ ResST k a b c x y K n d ∧ le w w'
end Go.Fk

/- Strings, plainly: what they are, and their steps. Nothing here names a program. -/
namespace Go.Fk
open Go Go.RowKit
/-- A string: its samples, how many, the place of the oldest one, and the numbers of its filters. -/
structure StS where
  x : Nat → Nat
  n : Nat
  j : Nat
  ta : Nat
  tb : Nat
  tc : Nat
  tx : Nat
  ty : Nat
  da : Nat
  db : Nat
  dc : Nat
  dx : Nat
  dy : Nat
  l : Nat
/-- It is valid. -/
structure StS.Ok (q : StS) : Prop where
  n1 : 1 ≤ q.n
  n2 : q.n ≤ 1024
  j1 : q.j < q.n
  t : okF 3 q.ta q.tb q.tc q.tx q.ty = true
  d : okF 2 q.da q.db q.dc q.dx q.dy = true
  lf : fin q.l = true
  fta : fits .f32 q.ta
  ftb : fits .f32 q.tb
  ftc : fits .f32 q.tc
  ftx : fits .f32 q.tx
  fty : fits .f32 q.ty
  fda : fits .f32 q.da
  fdb : fits .f32 q.db
  fdc : fits .f32 q.dc
  fdx : fits .f32 q.dx
  fdy : fits .f32 q.dy
  fl : fits .f32 q.l
theorem outF_can (k : Int) (a b c x y s : Nat) : outF k a b c x y (can .f32 s) = outF k a b c x y s := by
  unfold outF
  split
  · rw [fop_can_r]
  · split
    · rw [fop_can_l]
    · split
      · rw [fop_can_r]
      · rw [fop_can_l]
theorem kept_of_can (a : Nat) : kept (can .f32 a) = kept a := kept_can (can_can _ _)
theorem st0_can (k : Int) (a b c x y s : Nat) : st0 k a b c x y (can .f32 s) = st0 k a b c x y s := by unfold st0; rw [outF_can, kept_of_can]
theorem st1_can (k : Int) (a b c x y s : Nat) : st1 k a b c x y (can .f32 s) = st1 k a b c x y s := by unfold st1; rw [outF_can]
theorem outF_congr {k : Int} {a b c x y s s' : Nat} (h : can .f32 s = can .f32 s') : outF k a b c x y s = outF k a b c x y s' := by rw [← outF_can, h, outF_can]
theorem st0_congr {k : Int} {a b c x y s s' : Nat} (h : can .f32 s = can .f32 s') : st0 k a b c x y s = st0 k a b c x y s' := by rw [← st0_can, h, st0_can]
theorem st1_congr {k : Int} {a b c x y s s' : Nat} (h : can .f32 s = can .f32 s') : st1 k a b c x y s = st1 k a b c x y s' := by rw [← st1_can, h, st1_can]
/-- What the filters of a string make of its oldest sample. -/
def y1S (q : StS) : Nat := outF 3 q.ta q.tb q.tc q.tx q.ty (q.x q.j)
def y2S (q : StS) : Nat := outF 2 q.da q.db q.dc q.dx q.dy (y1S q)
/-- The sample that comes in. -/
def nextS (q : StS) (a : Nat) : Nat := kept (fop .add .f32 (fop .mul .f32 (y2S q) q.l) a)
/-- The string behind a step. -/
def stepS (q : StS) (a : Nat) : StS :=
  { q with x := pushX q.x q.j (nextS q a), j := (q.j + 1) % q.n, tx := st0 3 q.ta q.tb q.tc q.tx q.ty (q.x q.j), ty := st1 3 q.ta q.tb q.tc q.tx q.ty (q.x q.j), dx := st0 2 q.da q.db q.dc q.dx q.dy (y1S q), dy := st1 2 q.da q.db q.dc q.dx q.dy (y1S q) }
theorem kept_fop_can (op : BinOp) (x y : Nat) : kept (fop op .f32 x (can .f32 y)) = kept (fop op .f32 x y) := by rw [fop_can_r]
theorem nextS_can (q : StS) (a : Nat) : nextS q (can .f32 a) = nextS q a := by unfold nextS; rw [fop_can_r]
theorem fits_can {a : Nat} (h : fits .f32 a) : fits .f32 (can .f32 a) := by
  unfold can; split
  · simp [fits, Lit.wf, qnan]
  · exact h
theorem fits_nextS (q : StS) (a : Nat) : fits .f32 (nextS q a) := fits_kept (fits_fop _ _ _ _)
theorem StS.Ok.step {q : StS} (h : q.Ok) (a : Nat) (hf : fits .f32 (q.x q.j)) : (stepS q a).Ok where
  n1 := h.n1
  n2 := h.n2
  j1 := Nat.mod_lt _ h.n1
  t := okF_step h.t
  d := okF_step h.d
  lf := h.lf
  fta := h.fta
  ftb := h.ftb
  ftc := h.ftc
  ftx := show fits .f32 (st0 3 q.ta q.tb q.tc q.tx q.ty (q.x q.j)) from fits_st0 hf (fits_outF _ _ _ _ _ _ _)
  fty := show fits .f32 (st1 3 q.ta q.tb q.tc q.tx q.ty (q.x q.j)) from fits_st1 h.ftx
  fda := h.fda
  fdb := h.fdb
  fdc := h.fdc
  fdx := show fits .f32 (st0 2 q.da q.db q.dc q.dx q.dy (y1S q)) from fits_st0 (fits_outF _ _ _ _ _ _ _) (fits_outF _ _ _ _ _ _ _)
  fdy := show fits .f32 (st1 2 q.da q.db q.dc q.dx q.dy (y1S q)) from fits_st1 h.fdx
  fl := h.fl
/-- Is a sample heard? -/
def loudB (a : Nat) : Nat := if zeroF a = true then 0 else 1
theorem zeroF_can (a : Nat) : zeroF (can .f32 a) = zeroF a := by unfold zeroF; rw [order_can_l]
theorem loudB_can (a : Nat) : loudB (can .f32 a) = loudB a := by unfold loudB; rw [zeroF_can]
/-- How many of the first samples are heard. -/
def loudN (x : Nat → Nat) : Nat → Nat
  | 0 => 0
  | n + 1 => loudN x n + loudB (x n)
theorem loudN_congr {x y : Nat → Nat} {n : Nat} (h : ∀ i, i < n → x i = y i) : loudN x n = loudN y n := by
  induction n with
  | zero => rfl
  | succ n ih => simp only [loudN]; rw [ih (fun i hi => h i (by omega)), h n (by omega)]
theorem loudN_push {x : Nat → Nat} {n j a : Nat} (hj : j < n) : loudN (pushX x j a) n + loudB (x j) = loudN x n + loudB a := by
  induction n with
  | zero => omega
  | succ n ih =>
    simp only [loudN]
    by_cases e : j = n
    · subst e
      rw [loudN_congr (y := x) (fun i hi => by simp [pushX, show i ≠ j by omega])]
      simp [pushX, loudB_can]; omega
    · have := ih (by omega)
      have e2 : pushX x j a n = x n := by simp [pushX, show n ≠ j by omega]
      rw [e2]; omega
theorem loudN_le (x : Nat → Nat) (n : Nat) : loudN x n ≤ n := by
  induction n with
  | zero => exact Nat.le_refl _
  | succ n ih => simp only [loudN]; have : loudB (x n) ≤ 1 := by unfold loudB; split <;> omega
                 omega
theorem loudN_zero {x : Nat → Nat} {n : Nat} : loudN x n = 0 ↔ ∀ i, i < n → zeroF (x i) = true := by
  induction n with
  | zero => simp [loudN]
  | succ n ih =>
    simp only [loudN]
    constructor
    · intro h i hi
      rcases Nat.lt_or_ge i n with h1 | h1
      · exact ih.1 (by omega) i h1
      · obtain rfl : i = n := by omega
        have : loudB (x i) = 0 := by omega
        unfold loudB at this
        split at this
        · assumption
        · omega
    · intro h
      have h1 := ih.2 (fun i hi => h i (by omega))
      have h2 : loudB (x n) = 0 := by unfold loudB; rw [if_pos (h n (by omega))]
      omega
/-- Is a string silent? -/
def silS (q : StS) : Bool := decide (loudN q.x q.n = 0) && (stillB q.tx q.ty && stillB q.dx q.dy)
end Go.Fk

/- The model's step of a filter that lies within a row, kind by kind. -/
namespace Go.Fk
open Go Go.RowKit
theorem set_same {cs : Array Value} {i : Nat} {v : Value} (h : cs[i]? = some v) : cs.setIfInBounds i v = cs := by
  apply Array.ext_getElem?
  intro j
  rw [Array.getElem?_setIfInBounds]
  split
  · rename_i e; subst e
    split
    · exact h.symm
    · rename_i hl; rw [Array.getElem?_eq_none (by omega)]
  · rfl
theorem set_swap {cs : Array Value} {i j : Nat} {u v : Value} (h : i ≠ j) : (cs.setIfInBounds i u).setIfInBounds j v = (cs.setIfInBounds j v).setIfInBounds i u := by
  apply Array.ext_getElem?
  intro k
  simp only [Array.getElem?_setIfInBounds, Array.size_setIfInBounds]
  by_cases h1 : i = k <;> by_cases h2 : j = k <;> simp [h1, h2] <;> omega
/-- What a step in place gives. -/
def OutSt (k : Int) (a b c x y s : Nat) (g f : Nat) (t : TypeId) (cs : Array Value) (w : World) (e : Ending) (w' : World) : Prop :=
  ∃ r, e = .returned (.float .f32 r) ∧ can .f32 r = outF k a b c x y s ∧ fits .f32 r ∧ Row w' g t ((cs.setIfInBounds (f + 4) (.float .f32 (st0 k a b c x y s))).setIfInBounds (f + 5) (.float .f32 (st1 k a b c x y s))) ∧ Upd g w w'
theorem FilIn.next {cs : Array Value} {f : Nat} {k : Int} {a b c x y : Nat} (h : FilIn cs f k a b c x y) (u v : Nat) : FilIn ((cs.setIfInBounds (f + 4) (.float .f32 u)).setIfInBounds (f + 5) (.float .f32 v)) f k a b c u v := by
  have l4 := (Array.getElem?_eq_some_iff.1 h.c4).1
  have l5 := (Array.getElem?_eq_some_iff.1 h.c5).1
  constructor
  · rw [Array.getElem?_setIfInBounds_ne (by omega), Array.getElem?_setIfInBounds_ne (by omega)]; exact h.k0
  · rw [Array.getElem?_setIfInBounds_ne (by omega), Array.getElem?_setIfInBounds_ne (by omega)]; exact h.c1
  · rw [Array.getElem?_setIfInBounds_ne (by omega), Array.getElem?_setIfInBounds_ne (by omega)]; exact h.c2
  · rw [Array.getElem?_setIfInBounds_ne (by omega), Array.getElem?_setIfInBounds_ne (by omega)]; exact h.c3
  · rw [Array.getElem?_setIfInBounds_ne (by omega), Array.getElem?_setIfInBounds_self_of_lt l4]
  · rw [Array.getElem?_setIfInBounds_self_of_lt (by simpa using l5)]
end Go.Fk
namespace Go.Proofs.Ytmacednkpjfokaa
open Go.RowKit Go.Fk
set_option maxRecDepth 100000 in
set_option maxHeartbeats 2000000 in
theorem s_StepAt1 (a b c x y s g f : Nat) (t : TypeId) (cs : Array Value) (w : World) (R : Row w g t cs) (I : FilIn cs f 1 a b c x y) (hx : fits .f32 x) (hs : fits .f32 s) (hy : y = 0) :
    Calls Try.prog 58 #[.pointer (some ⟨g, f, none⟩), .float .f32 s] w (OutSt 1 a b c x y s g f t cs w) := by
  subst hy
  have Hx := hid hx; have Hs := hid hs; clear hx hs
  have F := Frm.one R
  have U := hid (Upd.refl g w)
  have c0 := (R.cell? f).trans I.k0
  have c1 := (R.cell? (f + 1)).trans I.c1
  have c2 := (R.cell? (f + 2)).trans I.c2
  have c3 := (R.cell? (f + 3)).trans I.c3
  have c4 := (R.cell? (f + 4)).trans I.c4
  have c5 := (R.cell? (f + 5)).trans I.c5
  replace I := hid I
  clear R
  go_enter Try.func58, Try.ntmps58
  go_wp2
  refine region_free (fun _ _ _ _ => True) (by kernel_rfl) (by kernel_rfl) ?_
  refine wpFree_one rfl (.pointer (some ⟨g, f, none⟩)) (fun w1 _ => by kernel_rfl) ?_
  simp only [Act.put, List.setIfInBounds_toArray, List.set_cons_succ, List.set_cons_zero]
  refine wpFree_one rfl (.pointer (some ⟨g, f, none⟩)) (fun w1 _ => by kernel_rfl) ?_
  simp only [Act.put, List.setIfInBounds_toArray, List.set_cons_succ, List.set_cons_zero]
  refine wpFree_one rfl (.pointer (some ⟨g, f + 1, none⟩)) (fun w1 _ => by kernel_rfl) ?_
  simp only [Act.put, List.setIfInBounds_toArray, List.set_cons_succ, List.set_cons_zero]
  refine wpFree_one rfl (.pointer (some ⟨g, f + 1, none⟩)) (fun w1 _ => by kernel_rfl) ?_
  simp only [Act.put, List.setIfInBounds_toArray, List.set_cons_succ, List.set_cons_zero]
  refine wpFree_loadF F rfl rfl rfl rfl List.mem_cons_self I.out.c1 Try.underlying22 ?_
  simp only [Act.put, List.setIfInBounds_toArray, List.set_cons_succ, List.set_cons_zero]
  refine wpFree_one rfl (.float .f32 s) (fun w1 _ => by kernel_rfl) ?_
  simp only [Act.put, List.setIfInBounds_toArray, List.set_cons_succ, List.set_cons_zero]
  refine wpFree_farith rfl rfl rfl rfl rfl (fun r53 h53 f53 => ?_)
  simp only [Act.put, List.setIfInBounds_toArray, List.set_cons_succ, List.set_cons_zero]
  refine wpFree_one rfl (.pointer (some ⟨g, f, none⟩)) (fun w1 _ => by kernel_rfl) ?_
  simp only [Act.put, List.setIfInBounds_toArray, List.set_cons_succ, List.set_cons_zero]
  refine wpFree_one rfl (.pointer (some ⟨g, f, none⟩)) (fun w1 _ => by kernel_rfl) ?_
  simp only [Act.put, List.setIfInBounds_toArray, List.set_cons_succ, List.set_cons_zero]
  refine wpFree_one rfl (.pointer (some ⟨g, f + 1, none⟩)) (fun w1 _ => by kernel_rfl) ?_
  simp only [Act.put, List.setIfInBounds_toArray, List.set_cons_succ, List.set_cons_zero]
  refine wpFree_one rfl (.pointer (some ⟨g, f + 2, none⟩)) (fun w1 _ => by kernel_rfl) ?_
  simp only [Act.put, List.setIfInBounds_toArray, List.set_cons_succ, List.set_cons_zero]
  refine wpFree_loadF F rfl rfl rfl rfl List.mem_cons_self I.out.c2 Try.underlying22 ?_
  simp only [Act.put, List.setIfInBounds_toArray, List.set_cons_succ, List.set_cons_zero]
  refine wpFree_one rfl (.float .f32 x) (fun w1 _ => by kernel_rfl) ?_
  simp only [Act.put, List.setIfInBounds_toArray, List.set_cons_succ, List.set_cons_zero]
  refine wpFree_farith rfl rfl rfl rfl rfl (fun r60 h60 f60 => ?_)
  simp only [Act.put, List.setIfInBounds_toArray, List.set_cons_succ, List.set_cons_zero]
  refine wpFree_farith rfl rfl rfl rfl rfl (fun r61 h61 f61 => ?_)
  simp only [Act.put, List.setIfInBounds_toArray, List.set_cons_succ, List.set_cons_zero]
  refine wpFree_one rfl (.float .f32 r61) (fun w1 _ => by kernel_rfl) ?_
  simp only [Act.put, List.setIfInBounds_toArray, List.set_cons_succ, List.set_cons_zero]
  refine wpFree_nil (fun w3 hw3 _ => ?_)
  replace U := hid ((U.out.le (le_drewN _ 1)).le hw3)
  replace F := Frm.one (((F.drewN 1).le hw3).row List.mem_cons_self)
  clear hw3 c0 c1 c2 c3 c4 c5
  have e : can .f32 r61 = outF 1 a b c x 0 s := (by rw [h61.out]; exact fop_congr (h53.out.trans (can_fop _ _ _ _).symm) (h60.out.trans (can_fop _ _ _ _).symm))
  have hf := f61
  replace e := hid e
  go_wp2
  refine region_tail (fun _ _ _ v => v = .float .f32 (kept r61)) 6 (by kernel_rfl) (by kernel_rfl) ?_
  simp only [List.take_succ_cons, List.take_zero, List.drop_succ_cons, List.drop_zero]
  refine wpFree_one rfl (.pointer (some ⟨g, f, none⟩)) (fun w1 _ => by kernel_rfl) ?_
  simp only [Act.put, List.setIfInBounds_toArray, List.set_cons_succ, List.set_cons_zero]
  refine wpFree_one rfl (.float .f32 r61) (fun w1 _ => by kernel_rfl) ?_
  simp only [Act.put, List.setIfInBounds_toArray, List.set_cons_succ, List.set_cons_zero]
  refine wpFree_call rfl rfl Try.func89 (by kernel_rfl) (by kernel_rfl) (args := #[.float .f32 r61]) (by simp [Act.eval]) (fun _ _ _ _ h => h) (fun w1 _ => (s_Kept r61 w1 hf.out).mono ?_) ?_
  · rintro e w2 ⟨rfl, n, rfl⟩
    exact ⟨_, rfl, le_drewN _ n, rfl⟩
  rintro v ⟨_, _, rfl⟩
  simp only [Act.put, List.setIfInBounds_toArray, List.set_cons_succ, List.set_cons_zero]
  refine wpFree_one rfl (.pointer (some ⟨g, f, none⟩)) (fun w1 _ => by kernel_rfl) ?_
  simp only [Act.put, List.setIfInBounds_toArray, List.set_cons_succ, List.set_cons_zero]
  refine wpFree_one rfl (.pointer (some ⟨g, f + 4, none⟩)) (fun w1 _ => by kernel_rfl) ?_
  simp only [Act.put, List.setIfInBounds_toArray, List.set_cons_succ, List.set_cons_zero]
  refine wpFree_one rfl (.pointer (some ⟨g, f + 4, none⟩)) (fun w1 _ => by kernel_rfl) ?_
  simp only [Act.put, List.setIfInBounds_toArray, List.set_cons_succ, List.set_cons_zero]
  refine wpFree_nil (fun w5 hw5 _ => ?_)
  have RR := ((F.drewN 1).le hw5).row List.mem_cons_self
  replace U := hid (((U.out.le (le_drewN _ 1)).le hw5).setCell (a := ⟨g, f + 4, none⟩) rfl (.float .f32 (kept r61)))
  have cc : w5.cell? ⟨g, f + 4, none⟩ = some (.float .f32 x) := (RR.cell? (f + 4)).trans I.out.c4
  have ff := RR.frozen (f + 4)
  have RN : Row (w5.setCell ⟨g, f + 4, none⟩ (.float .f32 (kept r61))) g t (cs.setIfInBounds (f + 4) (.float .f32 (kept r61))) := RR.set (f + 4) (.float .f32 (kept r61))
  replace RR := hid RR
  clear hw5 F
  have F := Frm.one RN
  clear RN
  have RN := hid (F.row List.mem_cons_self)
  clear F
  go_wp2
  go_ret
  refine ⟨_, rfl, e.out, hf.out, ?_, U.out⟩
  have e0 : (kept r61) = st0 1 a b c x 0 s := by exact kept_can (e.out.trans (can_outF _ _ _ _ _ _ _).symm)
  have e1 : 0 = st1 1 a b c x 0 s := by rfl
  rw [← e0, ← e1]
  rw [set_same (i := f + 5) (by rw [Array.getElem?_setIfInBounds_ne (by omega)]; exact I.out.c5)]
  exact RN.out
set_option maxRecDepth 100000 in
set_option maxHeartbeats 2000000 in
theorem s_StepAt2 (a b c x y s g f : Nat) (t : TypeId) (cs : Array Value) (w : World) (R : Row w g t cs) (I : FilIn cs f 2 a b c x y) (hx : fits .f32 x) (hs : fits .f32 s) (hy : y = 0) :
    Calls Try.prog 58 #[.pointer (some ⟨g, f, none⟩), .float .f32 s] w (OutSt 2 a b c x y s g f t cs w) := by
  subst hy
  have Hx := hid hx; have Hs := hid hs; clear hx hs
  have F := Frm.one R
  have U := hid (Upd.refl g w)
  have c0 := (R.cell? f).trans I.k0
  have c1 := (R.cell? (f + 1)).trans I.c1
  have c2 := (R.cell? (f + 2)).trans I.c2
  have c3 := (R.cell? (f + 3)).trans I.c3
  have c4 := (R.cell? (f + 4)).trans I.c4
  have c5 := (R.cell? (f + 5)).trans I.c5
  replace I := hid I
  clear R
  go_enter Try.func58, Try.ntmps58
  go_wp2
  refine region_free (fun _ _ _ _ => True) (by kernel_rfl) (by kernel_rfl) ?_
  refine wpFree_one rfl (.pointer (some ⟨g, f, none⟩)) (fun w1 _ => by kernel_rfl) ?_
  simp only [Act.put, List.setIfInBounds_toArray, List.set_cons_succ, List.set_cons_zero]
  refine wpFree_one rfl (.pointer (some ⟨g, f, none⟩)) (fun w1 _ => by kernel_rfl) ?_
  simp only [Act.put, List.setIfInBounds_toArray, List.set_cons_succ, List.set_cons_zero]
  refine wpFree_one rfl (.pointer (some ⟨g, f + 1, none⟩)) (fun w1 _ => by kernel_rfl) ?_
  simp only [Act.put, List.setIfInBounds_toArray, List.set_cons_succ, List.set_cons_zero]
  refine wpFree_one rfl (.pointer (some ⟨g, f + 1, none⟩)) (fun w1 _ => by kernel_rfl) ?_
  simp only [Act.put, List.setIfInBounds_toArray, List.set_cons_succ, List.set_cons_zero]
  refine wpFree_loadF F rfl rfl rfl rfl List.mem_cons_self I.out.c1 Try.underlying22 ?_
  simp only [Act.put, List.setIfInBounds_toArray, List.set_cons_succ, List.set_cons_zero]
  refine wpFree_one rfl (.float .f32 s) (fun w1 _ => by kernel_rfl) ?_
  simp only [Act.put, List.setIfInBounds_toArray, List.set_cons_succ, List.set_cons_zero]
  refine wpFree_farith rfl rfl rfl rfl rfl (fun r76 h76 f76 => ?_)
  simp only [Act.put, List.setIfInBounds_toArray, List.set_cons_succ, List.set_cons_zero]
  refine wpFree_one rfl (.pointer (some ⟨g, f, none⟩)) (fun w1 _ => by kernel_rfl) ?_
  simp only [Act.put, List.setIfInBounds_toArray, List.set_cons_succ, List.set_cons_zero]
  refine wpFree_one rfl (.pointer (some ⟨g, f, none⟩)) (fun w1 _ => by kernel_rfl) ?_
  simp only [Act.put, List.setIfInBounds_toArray, List.set_cons_succ, List.set_cons_zero]
  refine wpFree_one rfl (.pointer (some ⟨g, f + 1, none⟩)) (fun w1 _ => by kernel_rfl) ?_
  simp only [Act.put, List.setIfInBounds_toArray, List.set_cons_succ, List.set_cons_zero]
  refine wpFree_one rfl (.pointer (some ⟨g, f + 2, none⟩)) (fun w1 _ => by kernel_rfl) ?_
  simp only [Act.put, List.setIfInBounds_toArray, List.set_cons_succ, List.set_cons_zero]
  refine wpFree_loadF F rfl rfl rfl rfl List.mem_cons_self I.out.c2 Try.underlying22 ?_
  simp only [Act.put, List.setIfInBounds_toArray, List.set_cons_succ, List.set_cons_zero]
  refine wpFree_one rfl (.float .f32 x) (fun w1 _ => by kernel_rfl) ?_
  simp only [Act.put, List.setIfInBounds_toArray, List.set_cons_succ, List.set_cons_zero]
  refine wpFree_farith rfl rfl rfl rfl rfl (fun r83 h83 f83 => ?_)
  simp only [Act.put, List.setIfInBounds_toArray, List.set_cons_succ, List.set_cons_zero]
  refine wpFree_farith rfl rfl rfl rfl rfl (fun r84 h84 f84 => ?_)
  simp only [Act.put, List.setIfInBounds_toArray, List.set_cons_succ, List.set_cons_zero]
  refine wpFree_one rfl (.float .f32 r84) (fun w1 _ => by kernel_rfl) ?_
  simp only [Act.put, List.setIfInBounds_toArray, List.set_cons_succ, List.set_cons_zero]
  refine wpFree_nil (fun w3 hw3 _ => ?_)
  replace U := hid ((U.out.le (le_drewN _ 1)).le hw3)
  replace F := Frm.one (((F.drewN 1).le hw3).row List.mem_cons_self)
  clear hw3 c0 c1 c2 c3 c4 c5
  have e : can .f32 r84 = outF 2 a b c x 0 s := (by rw [h84.out]; exact fop_congr (h76.out.trans (can_fop _ _ _ _).symm) (h83.out.trans (can_fop _ _ _ _).symm))
  have hf := f84
  replace e := hid e
  go_wp2
  refine region_tail (fun _ _ _ v => v = .float .f32 (kept s)) 6 (by kernel_rfl) (by kernel_rfl) ?_
  simp only [List.take_succ_cons, List.take_zero, List.drop_succ_cons, List.drop_zero]
  refine wpFree_one rfl (.pointer (some ⟨g, f, none⟩)) (fun w1 _ => by kernel_rfl) ?_
  simp only [Act.put, List.setIfInBounds_toArray, List.set_cons_succ, List.set_cons_zero]
  refine wpFree_one rfl (.float .f32 s) (fun w1 _ => by kernel_rfl) ?_
  simp only [Act.put, List.setIfInBounds_toArray, List.set_cons_succ, List.set_cons_zero]
  refine wpFree_call rfl rfl Try.func89 (by kernel_rfl) (by kernel_rfl) (args := #[.float .f32 s]) (by simp [Act.eval]) (fun _ _ _ _ h => h) (fun w1 _ => (s_Kept s w1 Hs.out).mono ?_) ?_
  · rintro e w2 ⟨rfl, n, rfl⟩
    exact ⟨_, rfl, le_drewN _ n, rfl⟩
  rintro v ⟨_, _, rfl⟩
  simp only [Act.put, List.setIfInBounds_toArray, List.set_cons_succ, List.set_cons_zero]
  refine wpFree_one rfl (.pointer (some ⟨g, f, none⟩)) (fun w1 _ => by kernel_rfl) ?_
  simp only [Act.put, List.setIfInBounds_toArray, List.set_cons_succ, List.set_cons_zero]
  refine wpFree_one rfl (.pointer (some ⟨g, f + 4, none⟩)) (fun w1 _ => by kernel_rfl) ?_
  simp only [Act.put, List.setIfInBounds_toArray, List.set_cons_succ, List.set_cons_zero]
  refine wpFree_one rfl (.pointer (some ⟨g, f + 4, none⟩)) (fun w1 _ => by kernel_rfl) ?_
  simp only [Act.put, List.setIfInBounds_toArray, List.set_cons_succ, List.set_cons_zero]
  refine wpFree_nil (fun w5 hw5 _ => ?_)
  have RR := ((F.drewN 1).le hw5).row List.mem_cons_self
  replace U := hid (((U.out.le (le_drewN _ 1)).le hw5).setCell (a := ⟨g, f + 4, none⟩) rfl (.float .f32 (kept s)))
  have cc : w5.cell? ⟨g, f + 4, none⟩ = some (.float .f32 x) := (RR.cell? (f + 4)).trans I.out.c4
  have ff := RR.frozen (f + 4)
  have RN : Row (w5.setCell ⟨g, f + 4, none⟩ (.float .f32 (kept s))) g t (cs.setIfInBounds (f + 4) (.float .f32 (kept s))) := RR.set (f + 4) (.float .f32 (kept s))
  replace RR := hid RR
  clear hw5 F
  have F := Frm.one RN
  clear RN
  have RN := hid (F.row List.mem_cons_self)
  clear F
  go_wp2
  go_ret
  refine ⟨_, rfl, e.out, hf.out, ?_, U.out⟩
  have e0 : (kept s) = st0 2 a b c x 0 s := by rfl
  have e1 : 0 = st1 2 a b c x 0 s := by rfl
  rw [← e0, ← e1]
  rw [set_same (i := f + 5) (by rw [Array.getElem?_setIfInBounds_ne (by omega)]; exact I.out.c5)]
  exact RN.out
set_option maxRecDepth 100000 in
set_option maxHeartbeats 2000000 in
theorem s_StepAt3 (a b c x y s g f : Nat) (t : TypeId) (cs : Array Value) (w : World) (R : Row w g t cs) (I : FilIn cs f 3 a b c x y) (hx : fits .f32 x) (hs : fits .f32 s) :
    Calls Try.prog 58 #[.pointer (some ⟨g, f, none⟩), .float .f32 s] w (OutSt 3 a b c x y s g f t cs w) := by
  have Hx := hid hx; have Hs := hid hs; clear hx hs
  have F := Frm.one R
  have U := hid (Upd.refl g w)
  have c0 := (R.cell? f).trans I.k0
  have c1 := (R.cell? (f + 1)).trans I.c1
  have c2 := (R.cell? (f + 2)).trans I.c2
  have c3 := (R.cell? (f + 3)).trans I.c3
  have c4 := (R.cell? (f + 4)).trans I.c4
  have c5 := (R.cell? (f + 5)).trans I.c5
  replace I := hid I
  clear R
  go_enter Try.func58, Try.ntmps58
  go_wp2_with (with_reducible refine wpList_farith rfl rfl rfl rfl rfl ?_; intro r n hr hf)
  rename_i r1 n1 h1 f1 r2 n2 h2 f2 KK aa
  clear c0 c1 c2 c3 c4 c5
  have e : can .f32 r = outF 3 a b c x y s := (by rw [hr.out]; exact fop_congr (h2.out.trans ((fop_congr rfl (h1.out.trans (can_fop _ _ _ _).symm)).trans (can_fop _ _ _ _).symm)) rfl)
  replace U := hid (U.out.le (le_drewN _ (n1 + n2 + n)))
  replace F := Frm.one ((F.drewN (n1 + n2 + n)).row List.mem_cons_self)
  replace e := hid e
  refine region_tail (fun _ _ _ v => v = .float .f32 (kept s)) 6 (by kernel_rfl) (by kernel_rfl) ?_
  simp only [List.take_succ_cons, List.take_zero, List.drop_succ_cons, List.drop_zero]
  refine wpFree_one rfl (.pointer (some ⟨g, f, none⟩)) (fun w1 _ => by kernel_rfl) ?_
  simp only [Act.put, List.setIfInBounds_toArray, List.set_cons_succ, List.set_cons_zero]
  refine wpFree_one rfl (.float .f32 s) (fun w1 _ => by kernel_rfl) ?_
  simp only [Act.put, List.setIfInBounds_toArray, List.set_cons_succ, List.set_cons_zero]
  refine wpFree_call rfl rfl Try.func89 (by kernel_rfl) (by kernel_rfl) (args := #[.float .f32 s]) (by simp [Act.eval]) (fun _ _ _ _ h => h) (fun w1 _ => (s_Kept s w1 Hs.out).mono ?_) ?_
  · rintro e w2 ⟨rfl, n, rfl⟩
    exact ⟨_, rfl, le_drewN _ n, rfl⟩
  rintro v ⟨_, _, rfl⟩
  simp only [Act.put, List.setIfInBounds_toArray, List.set_cons_succ, List.set_cons_zero]
  refine wpFree_one rfl (.pointer (some ⟨g, f, none⟩)) (fun w1 _ => by kernel_rfl) ?_
  simp only [Act.put, List.setIfInBounds_toArray, List.set_cons_succ, List.set_cons_zero]
  refine wpFree_one rfl (.pointer (some ⟨g, f + 4, none⟩)) (fun w1 _ => by kernel_rfl) ?_
  simp only [Act.put, List.setIfInBounds_toArray, List.set_cons_succ, List.set_cons_zero]
  refine wpFree_one rfl (.pointer (some ⟨g, f + 4, none⟩)) (fun w1 _ => by kernel_rfl) ?_
  simp only [Act.put, List.setIfInBounds_toArray, List.set_cons_succ, List.set_cons_zero]
  refine wpFree_nil (fun w5 hw5 _ => ?_)
  have RR := ((F.drewN 1).le hw5).row List.mem_cons_self
  replace U := hid (((U.out.le (le_drewN _ 1)).le hw5).setCell (a := ⟨g, f + 4, none⟩) rfl (.float .f32 (kept s)))
  have cc : w5.cell? ⟨g, f + 4, none⟩ = some (.float .f32 x) := (RR.cell? (f + 4)).trans I.out.c4
  have ff := RR.frozen (f + 4)
  have RN : Row (w5.setCell ⟨g, f + 4, none⟩ (.float .f32 (kept s))) g t (cs.setIfInBounds (f + 4) (.float .f32 (kept s))) := RR.set (f + 4) (.float .f32 (kept s))
  replace RR := hid RR
  clear hw5 F
  have F := Frm.one RN
  clear RN
  go_wp2
  refine region_tail (fun _ _ _ v => v = .float .f32 (kept r)) 6 (by kernel_rfl) (by kernel_rfl) ?_
  simp only [List.take_succ_cons, List.take_zero, List.drop_succ_cons, List.drop_zero]
  refine wpFree_one rfl (.pointer (some ⟨g, f, none⟩)) (fun w1 _ => by kernel_rfl) ?_
  simp only [Act.put, List.setIfInBounds_toArray, List.set_cons_succ, List.set_cons_zero]
  refine wpFree_one rfl (.float .f32 r) (fun w1 _ => by kernel_rfl) ?_
  simp only [Act.put, List.setIfInBounds_toArray, List.set_cons_succ, List.set_cons_zero]
  refine wpFree_call rfl rfl Try.func89 (by kernel_rfl) (by kernel_rfl) (args := #[.float .f32 r]) (by simp [Act.eval]) (fun _ _ _ _ h => h) (fun w1 _ => (s_Kept r w1 hf.out).mono ?_) ?_
  · rintro e w2 ⟨rfl, n, rfl⟩
    exact ⟨_, rfl, le_drewN _ n, rfl⟩
  rintro v ⟨_, _, rfl⟩
  simp only [Act.put, List.setIfInBounds_toArray, List.set_cons_succ, List.set_cons_zero]
  refine wpFree_one rfl (.pointer (some ⟨g, f, none⟩)) (fun w1 _ => by kernel_rfl) ?_
  simp only [Act.put, List.setIfInBounds_toArray, List.set_cons_succ, List.set_cons_zero]
  refine wpFree_one rfl (.pointer (some ⟨g, f + 4, none⟩)) (fun w1 _ => by kernel_rfl) ?_
  simp only [Act.put, List.setIfInBounds_toArray, List.set_cons_succ, List.set_cons_zero]
  refine wpFree_one rfl (.pointer (some ⟨g, f + 5, none⟩)) (fun w1 _ => by kernel_rfl) ?_
  simp only [Act.put, List.setIfInBounds_toArray, List.set_cons_succ, List.set_cons_zero]
  refine wpFree_nil (fun w5 hw5 _ => ?_)
  have RR := ((F.drewN 1).le hw5).row List.mem_cons_self
  replace U := hid (((U.out.le (le_drewN _ 1)).le hw5).setCell (a := ⟨g, f + 5, none⟩) rfl (.float .f32 (kept r)))
  have cc : w5.cell? ⟨g, f + 5, none⟩ = some (.float .f32 y) := (RR.cell? (f + 5)).trans (by rw [Array.getElem?_setIfInBounds_ne (by omega)]; exact I.out.c5)
  have ff := RR.frozen (f + 5)
  have RN : Row (w5.setCell ⟨g, f + 5, none⟩ (.float .f32 (kept r))) g t ((cs.setIfInBounds (f + 4) (.float .f32 (kept s))).setIfInBounds (f + 5) (.float .f32 (kept r))) := RR.set (f + 5) (.float .f32 (kept r))
  replace RR := hid RR
  clear hw5 F
  have F := Frm.one RN
  clear RN
  have RN := hid (F.row List.mem_cons_self)
  clear F
  go_wp2
  go_ret
  refine ⟨_, rfl, e.out, hf.out, ?_, U.out⟩
  have e0 : (kept s) = st0 3 a b c x y s := by rfl
  have e1 : (kept r) = st1 3 a b c x y s := by exact kept_can (e.out.trans (can_outF _ _ _ _ _ _ _).symm)
  rw [← e0, ← e1]
  exact RN.out
set_option maxRecDepth 100000 in
set_option maxHeartbeats 2000000 in
theorem s_StepAt4 (a b c x y s g f : Nat) (t : TypeId) (cs : Array Value) (w : World) (R : Row w g t cs) (I : FilIn cs f 4 a b c x y) (hx : fits .f32 x) (hs : fits .f32 s) :
    Calls Try.prog 58 #[.pointer (some ⟨g, f, none⟩), .float .f32 s] w (OutSt 4 a b c x y s g f t cs w) := by
  have Hx := hid hx; have Hs := hid hs; clear hx hs
  have F := Frm.one R
  have U := hid (Upd.refl g w)
  have c0 := (R.cell? f).trans I.k0
  have c1 := (R.cell? (f + 1)).trans I.c1
  have c2 := (R.cell? (f + 2)).trans I.c2
  have c3 := (R.cell? (f + 3)).trans I.c3
  have c4 := (R.cell? (f + 4)).trans I.c4
  have c5 := (R.cell? (f + 5)).trans I.c5
  replace I := hid I
  clear R
  go_enter Try.func58, Try.ntmps58
  go_wp2
  refine region_free (fun _ _ _ _ => True) (by kernel_rfl) (by kernel_rfl) ?_
  refine wpFree_one rfl (.pointer (some ⟨g, f, none⟩)) (fun w1 _ => by kernel_rfl) ?_
  simp only [Act.put, List.setIfInBounds_toArray, List.set_cons_succ, List.set_cons_zero]
  refine wpFree_one rfl (.pointer (some ⟨g, f, none⟩)) (fun w1 _ => by kernel_rfl) ?_
  simp only [Act.put, List.setIfInBounds_toArray, List.set_cons_succ, List.set_cons_zero]
  refine wpFree_one rfl (.pointer (some ⟨g, f + 1, none⟩)) (fun w1 _ => by kernel_rfl) ?_
  simp only [Act.put, List.setIfInBounds_toArray, List.set_cons_succ, List.set_cons_zero]
  refine wpFree_one rfl (.pointer (some ⟨g, f + 1, none⟩)) (fun w1 _ => by kernel_rfl) ?_
  simp only [Act.put, List.setIfInBounds_toArray, List.set_cons_succ, List.set_cons_zero]
  refine wpFree_loadF F rfl rfl rfl rfl List.mem_cons_self I.out.c1 Try.underlying22 ?_
  simp only [Act.put, List.setIfInBounds_toArray, List.set_cons_succ, List.set_cons_zero]
  refine wpFree_one rfl (.float .f32 s) (fun w1 _ => by kernel_rfl) ?_
  simp only [Act.put, List.setIfInBounds_toArray, List.set_cons_succ, List.set_cons_zero]
  refine wpFree_farith rfl rfl rfl rfl rfl (fun r124 h124 f124 => ?_)
  simp only [Act.put, List.setIfInBounds_toArray, List.set_cons_succ, List.set_cons_zero]
  refine wpFree_one rfl (.pointer (some ⟨g, f, none⟩)) (fun w1 _ => by kernel_rfl) ?_
  simp only [Act.put, List.setIfInBounds_toArray, List.set_cons_succ, List.set_cons_zero]
  refine wpFree_one rfl (.pointer (some ⟨g, f, none⟩)) (fun w1 _ => by kernel_rfl) ?_
  simp only [Act.put, List.setIfInBounds_toArray, List.set_cons_succ, List.set_cons_zero]
  refine wpFree_one rfl (.pointer (some ⟨g, f + 1, none⟩)) (fun w1 _ => by kernel_rfl) ?_
  simp only [Act.put, List.setIfInBounds_toArray, List.set_cons_succ, List.set_cons_zero]
  refine wpFree_one rfl (.pointer (some ⟨g, f + 2, none⟩)) (fun w1 _ => by kernel_rfl) ?_
  simp only [Act.put, List.setIfInBounds_toArray, List.set_cons_succ, List.set_cons_zero]
  refine wpFree_loadF F rfl rfl rfl rfl List.mem_cons_self I.out.c2 Try.underlying22 ?_
  simp only [Act.put, List.setIfInBounds_toArray, List.set_cons_succ, List.set_cons_zero]
  refine wpFree_one rfl (.float .f32 x) (fun w1 _ => by kernel_rfl) ?_
  simp only [Act.put, List.setIfInBounds_toArray, List.set_cons_succ, List.set_cons_zero]
  refine wpFree_farith rfl rfl rfl rfl rfl (fun r131 h131 f131 => ?_)
  simp only [Act.put, List.setIfInBounds_toArray, List.set_cons_succ, List.set_cons_zero]
  refine wpFree_farith rfl rfl rfl rfl rfl (fun r132 h132 f132 => ?_)
  simp only [Act.put, List.setIfInBounds_toArray, List.set_cons_succ, List.set_cons_zero]
  refine wpFree_one rfl (.pointer (some ⟨g, f, none⟩)) (fun w1 _ => by kernel_rfl) ?_
  simp only [Act.put, List.setIfInBounds_toArray, List.set_cons_succ, List.set_cons_zero]
  refine wpFree_one rfl (.pointer (some ⟨g, f, none⟩)) (fun w1 _ => by kernel_rfl) ?_
  simp only [Act.put, List.setIfInBounds_toArray, List.set_cons_succ, List.set_cons_zero]
  refine wpFree_one rfl (.pointer (some ⟨g, f + 1, none⟩)) (fun w1 _ => by kernel_rfl) ?_
  simp only [Act.put, List.setIfInBounds_toArray, List.set_cons_succ, List.set_cons_zero]
  refine wpFree_one rfl (.pointer (some ⟨g, f + 3, none⟩)) (fun w1 _ => by kernel_rfl) ?_
  simp only [Act.put, List.setIfInBounds_toArray, List.set_cons_succ, List.set_cons_zero]
  refine wpFree_loadF F rfl rfl rfl rfl List.mem_cons_self I.out.c3 Try.underlying22 ?_
  simp only [Act.put, List.setIfInBounds_toArray, List.set_cons_succ, List.set_cons_zero]
  refine wpFree_one rfl (.float .f32 y) (fun w1 _ => by kernel_rfl) ?_
  simp only [Act.put, List.setIfInBounds_toArray, List.set_cons_succ, List.set_cons_zero]
  refine wpFree_farith rfl rfl rfl rfl rfl (fun r139 h139 f139 => ?_)
  simp only [Act.put, List.setIfInBounds_toArray, List.set_cons_succ, List.set_cons_zero]
  refine wpFree_farith rfl rfl rfl rfl rfl (fun r140 h140 f140 => ?_)
  simp only [Act.put, List.setIfInBounds_toArray, List.set_cons_succ, List.set_cons_zero]
  refine wpFree_one rfl (.float .f32 r140) (fun w1 _ => by kernel_rfl) ?_
  simp only [Act.put, List.setIfInBounds_toArray, List.set_cons_succ, List.set_cons_zero]
  refine wpFree_nil (fun w3 hw3 _ => ?_)
  replace U := hid ((U.out.le (le_drewN _ 1)).le hw3)
  replace F := Frm.one (((F.drewN 1).le hw3).row List.mem_cons_self)
  clear hw3 c0 c1 c2 c3 c4 c5
  have e : can .f32 r140 = outF 4 a b c x y s := (by rw [h140.out]; exact fop_congr (h132.out.trans ((fop_congr (h124.out.trans (can_fop _ _ _ _).symm) (h131.out.trans (can_fop _ _ _ _).symm)).trans (can_fop _ _ _ _).symm)) (h139.out.trans (can_fop _ _ _ _).symm))
  have hf := f140
  replace e := hid e
  go_wp2
  refine region_tail (fun _ _ _ v => v = .float .f32 (kept x)) 6 (by kernel_rfl) (by kernel_rfl) ?_
  simp only [List.take_succ_cons, List.take_zero, List.drop_succ_cons, List.drop_zero]
  refine wpFree_one rfl (.pointer (some ⟨g, f, none⟩)) (fun w1 _ => by kernel_rfl) ?_
  simp only [Act.put, List.setIfInBounds_toArray, List.set_cons_succ, List.set_cons_zero]
  refine wpFree_one rfl (.float .f32 x) (fun w1 _ => by kernel_rfl) ?_
  simp only [Act.put, List.setIfInBounds_toArray, List.set_cons_succ, List.set_cons_zero]
  refine wpFree_call rfl rfl Try.func89 (by kernel_rfl) (by kernel_rfl) (args := #[.float .f32 x]) (by simp [Act.eval]) (fun _ _ _ _ h => h) (fun w1 _ => (s_Kept x w1 Hx.out).mono ?_) ?_
  · rintro e w2 ⟨rfl, n, rfl⟩
    exact ⟨_, rfl, le_drewN _ n, rfl⟩
  rintro v ⟨_, _, rfl⟩
  simp only [Act.put, List.setIfInBounds_toArray, List.set_cons_succ, List.set_cons_zero]
  refine wpFree_one rfl (.pointer (some ⟨g, f, none⟩)) (fun w1 _ => by kernel_rfl) ?_
  simp only [Act.put, List.setIfInBounds_toArray, List.set_cons_succ, List.set_cons_zero]
  refine wpFree_one rfl (.pointer (some ⟨g, f + 4, none⟩)) (fun w1 _ => by kernel_rfl) ?_
  simp only [Act.put, List.setIfInBounds_toArray, List.set_cons_succ, List.set_cons_zero]
  refine wpFree_one rfl (.pointer (some ⟨g, f + 5, none⟩)) (fun w1 _ => by kernel_rfl) ?_
  simp only [Act.put, List.setIfInBounds_toArray, List.set_cons_succ, List.set_cons_zero]
  refine wpFree_nil (fun w5 hw5 _ => ?_)
  have RR := ((F.drewN 1).le hw5).row List.mem_cons_self
  replace U := hid (((U.out.le (le_drewN _ 1)).le hw5).setCell (a := ⟨g, f + 5, none⟩) rfl (.float .f32 (kept x)))
  have cc : w5.cell? ⟨g, f + 5, none⟩ = some (.float .f32 y) := (RR.cell? (f + 5)).trans I.out.c5
  have ff := RR.frozen (f + 5)
  have RN : Row (w5.setCell ⟨g, f + 5, none⟩ (.float .f32 (kept x))) g t (cs.setIfInBounds (f + 5) (.float .f32 (kept x))) := RR.set (f + 5) (.float .f32 (kept x))
  replace RR := hid RR
  clear hw5 F
  have F := Frm.one RN
  clear RN
  go_wp2
  refine region_tail (fun _ _ _ v => v = .float .f32 (kept r140)) 6 (by kernel_rfl) (by kernel_rfl) ?_
  simp only [List.take_succ_cons, List.take_zero, List.drop_succ_cons, List.drop_zero]
  refine wpFree_one rfl (.pointer (some ⟨g, f, none⟩)) (fun w1 _ => by kernel_rfl) ?_
  simp only [Act.put, List.setIfInBounds_toArray, List.set_cons_succ, List.set_cons_zero]
  refine wpFree_one rfl (.float .f32 r140) (fun w1 _ => by kernel_rfl) ?_
  simp only [Act.put, List.setIfInBounds_toArray, List.set_cons_succ, List.set_cons_zero]
  refine wpFree_call rfl rfl Try.func89 (by kernel_rfl) (by kernel_rfl) (args := #[.float .f32 r140]) (by simp [Act.eval]) (fun _ _ _ _ h => h) (fun w1 _ => (s_Kept r140 w1 hf.out).mono ?_) ?_
  · rintro e w2 ⟨rfl, n, rfl⟩
    exact ⟨_, rfl, le_drewN _ n, rfl⟩
  rintro v ⟨_, _, rfl⟩
  simp only [Act.put, List.setIfInBounds_toArray, List.set_cons_succ, List.set_cons_zero]
  refine wpFree_one rfl (.pointer (some ⟨g, f, none⟩)) (fun w1 _ => by kernel_rfl) ?_
  simp only [Act.put, List.setIfInBounds_toArray, List.set_cons_succ, List.set_cons_zero]
  refine wpFree_one rfl (.pointer (some ⟨g, f + 4, none⟩)) (fun w1 _ => by kernel_rfl) ?_
  simp only [Act.put, List.setIfInBounds_toArray, List.set_cons_succ, List.set_cons_zero]
  refine wpFree_one rfl (.pointer (some ⟨g, f + 4, none⟩)) (fun w1 _ => by kernel_rfl) ?_
  simp only [Act.put, List.setIfInBounds_toArray, List.set_cons_succ, List.set_cons_zero]
  refine wpFree_nil (fun w5 hw5 _ => ?_)
  have RR := ((F.drewN 1).le hw5).row List.mem_cons_self
  replace U := hid (((U.out.le (le_drewN _ 1)).le hw5).setCell (a := ⟨g, f + 4, none⟩) rfl (.float .f32 (kept r140)))
  have cc : w5.cell? ⟨g, f + 4, none⟩ = some (.float .f32 x) := (RR.cell? (f + 4)).trans (by rw [Array.getElem?_setIfInBounds_ne (by omega)]; exact I.out.c4)
  have ff := RR.frozen (f + 4)
  have RN : Row (w5.setCell ⟨g, f + 4, none⟩ (.float .f32 (kept r140))) g t ((cs.setIfInBounds (f + 5) (.float .f32 (kept x))).setIfInBounds (f + 4) (.float .f32 (kept r140))) := RR.set (f + 4) (.float .f32 (kept r140))
  replace RR := hid RR
  clear hw5 F
  have F := Frm.one RN
  clear RN
  have RN := hid (F.row List.mem_cons_self)
  clear F
  go_wp2
  go_ret
  refine ⟨_, rfl, e.out, hf.out, ?_, U.out⟩
  have e0 : (kept r140) = st0 4 a b c x y s := by exact kept_can (e.out.trans (can_outF _ _ _ _ _ _ _).symm)
  have e1 : (kept x) = st1 4 a b c x y s := by rfl
  rw [← e0, ← e1]
  rw [set_swap (show f + 4 ≠ f + 5 by omega)]
  exact RN.out
set_option maxRecDepth 100000 in
set_option maxHeartbeats 2000000 in
theorem s_StepAt5 (a b c x y s g f : Nat) (t : TypeId) (cs : Array Value) (w : World) (R : Row w g t cs) (I : FilIn cs f 5 a b c x y) (hx : fits .f32 x) (hs : fits .f32 s) :
    Calls Try.prog 58 #[.pointer (some ⟨g, f, none⟩), .float .f32 s] w (OutSt 5 a b c x y s g f t cs w) := by
  have Hx := hid hx; have Hs := hid hs; clear hx hs
  have F := Frm.one R
  have U := hid (Upd.refl g w)
  have c0 := (R.cell? f).trans I.k0
  have c1 := (R.cell? (f + 1)).trans I.c1
  have c2 := (R.cell? (f + 2)).trans I.c2
  have c3 := (R.cell? (f + 3)).trans I.c3
  have c4 := (R.cell? (f + 4)).trans I.c4
  have c5 := (R.cell? (f + 5)).trans I.c5
  replace I := hid I
  clear R
  go_enter Try.func58, Try.ntmps58
  go_wp2_with (with_reducible refine wpList_farith rfl rfl rfl rfl rfl ?_; intro r n hr hf)
  rename_i r1 n1 h1 f1 r2 n2 h2 f2 KK aa
  clear c0 c1 c2 c3 c4 c5
  have e : can .f32 r = outF 5 a b c x y s := (by rw [hr.out]; exact fop_congr (h1.out.trans (can_fop _ _ _ _).symm) (h2.out.trans (can_fop _ _ _ _).symm))
  replace U := hid (U.out.le (le_drewN _ (n1 + n2 + n)))
  replace F := Frm.one ((F.drewN (n1 + n2 + n)).row List.mem_cons_self)
  replace e := hid e
  refine region_tail (fun _ _ _ v => v = .float .f32 (kept s)) 6 (by kernel_rfl) (by kernel_rfl) ?_
  simp only [List.take_succ_cons, List.take_zero, List.drop_succ_cons, List.drop_zero]
  refine wpFree_one rfl (.pointer (some ⟨g, f, none⟩)) (fun w1 _ => by kernel_rfl) ?_
  simp only [Act.put, List.setIfInBounds_toArray, List.set_cons_succ, List.set_cons_zero]
  refine wpFree_one rfl (.float .f32 s) (fun w1 _ => by kernel_rfl) ?_
  simp only [Act.put, List.setIfInBounds_toArray, List.set_cons_succ, List.set_cons_zero]
  refine wpFree_call rfl rfl Try.func89 (by kernel_rfl) (by kernel_rfl) (args := #[.float .f32 s]) (by simp [Act.eval]) (fun _ _ _ _ h => h) (fun w1 _ => (s_Kept s w1 Hs.out).mono ?_) ?_
  · rintro e w2 ⟨rfl, n, rfl⟩
    exact ⟨_, rfl, le_drewN _ n, rfl⟩
  rintro v ⟨_, _, rfl⟩
  simp only [Act.put, List.setIfInBounds_toArray, List.set_cons_succ, List.set_cons_zero]
  refine wpFree_one rfl (.pointer (some ⟨g, f, none⟩)) (fun w1 _ => by kernel_rfl) ?_
  simp only [Act.put, List.setIfInBounds_toArray, List.set_cons_succ, List.set_cons_zero]
  refine wpFree_one rfl (.pointer (some ⟨g, f + 4, none⟩)) (fun w1 _ => by kernel_rfl) ?_
  simp only [Act.put, List.setIfInBounds_toArray, List.set_cons_succ, List.set_cons_zero]
  refine wpFree_one rfl (.pointer (some ⟨g, f + 4, none⟩)) (fun w1 _ => by kernel_rfl) ?_
  simp only [Act.put, List.setIfInBounds_toArray, List.set_cons_succ, List.set_cons_zero]
  refine wpFree_nil (fun w5 hw5 _ => ?_)
  have RR := ((F.drewN 1).le hw5).row List.mem_cons_self
  replace U := hid (((U.out.le (le_drewN _ 1)).le hw5).setCell (a := ⟨g, f + 4, none⟩) rfl (.float .f32 (kept s)))
  have cc : w5.cell? ⟨g, f + 4, none⟩ = some (.float .f32 x) := (RR.cell? (f + 4)).trans I.out.c4
  have ff := RR.frozen (f + 4)
  have RN : Row (w5.setCell ⟨g, f + 4, none⟩ (.float .f32 (kept s))) g t (cs.setIfInBounds (f + 4) (.float .f32 (kept s))) := RR.set (f + 4) (.float .f32 (kept s))
  replace RR := hid RR
  clear hw5 F
  have F := Frm.one RN
  clear RN
  go_wp2
  refine region_tail (fun _ _ _ v => v = .float .f32 (kept r)) 6 (by kernel_rfl) (by kernel_rfl) ?_
  simp only [List.take_succ_cons, List.take_zero, List.drop_succ_cons, List.drop_zero]
  refine wpFree_one rfl (.pointer (some ⟨g, f, none⟩)) (fun w1 _ => by kernel_rfl) ?_
  simp only [Act.put, List.setIfInBounds_toArray, List.set_cons_succ, List.set_cons_zero]
  refine wpFree_one rfl (.float .f32 r) (fun w1 _ => by kernel_rfl) ?_
  simp only [Act.put, List.setIfInBounds_toArray, List.set_cons_succ, List.set_cons_zero]
  refine wpFree_call rfl rfl Try.func89 (by kernel_rfl) (by kernel_rfl) (args := #[.float .f32 r]) (by simp [Act.eval]) (fun _ _ _ _ h => h) (fun w1 _ => (s_Kept r w1 hf.out).mono ?_) ?_
  · rintro e w2 ⟨rfl, n, rfl⟩
    exact ⟨_, rfl, le_drewN _ n, rfl⟩
  rintro v ⟨_, _, rfl⟩
  simp only [Act.put, List.setIfInBounds_toArray, List.set_cons_succ, List.set_cons_zero]
  refine wpFree_one rfl (.pointer (some ⟨g, f, none⟩)) (fun w1 _ => by kernel_rfl) ?_
  simp only [Act.put, List.setIfInBounds_toArray, List.set_cons_succ, List.set_cons_zero]
  refine wpFree_one rfl (.pointer (some ⟨g, f + 4, none⟩)) (fun w1 _ => by kernel_rfl) ?_
  simp only [Act.put, List.setIfInBounds_toArray, List.set_cons_succ, List.set_cons_zero]
  refine wpFree_one rfl (.pointer (some ⟨g, f + 5, none⟩)) (fun w1 _ => by kernel_rfl) ?_
  simp only [Act.put, List.setIfInBounds_toArray, List.set_cons_succ, List.set_cons_zero]
  refine wpFree_nil (fun w5 hw5 _ => ?_)
  have RR := ((F.drewN 1).le hw5).row List.mem_cons_self
  replace U := hid (((U.out.le (le_drewN _ 1)).le hw5).setCell (a := ⟨g, f + 5, none⟩) rfl (.float .f32 (kept r)))
  have cc : w5.cell? ⟨g, f + 5, none⟩ = some (.float .f32 y) := (RR.cell? (f + 5)).trans (by rw [Array.getElem?_setIfInBounds_ne (by omega)]; exact I.out.c5)
  have ff := RR.frozen (f + 5)
  have RN : Row (w5.setCell ⟨g, f + 5, none⟩ (.float .f32 (kept r))) g t ((cs.setIfInBounds (f + 4) (.float .f32 (kept s))).setIfInBounds (f + 5) (.float .f32 (kept r))) := RR.set (f + 5) (.float .f32 (kept r))
  replace RR := hid RR
  clear hw5 F
  have F := Frm.one RN
  clear RN
  have RN := hid (F.row List.mem_cons_self)
  clear F
  go_wp2
  go_ret
  refine ⟨_, rfl, e.out, hf.out, ?_, U.out⟩
  have e0 : (kept s) = st0 5 a b c x y s := by rfl
  have e1 : (kept r) = st1 5 a b c x y s := by exact kept_can (e.out.trans (can_outF _ _ _ _ _ _ _).symm)
  rw [← e0, ← e1]
  exact RN.out
theorem s_StepAt (k : Int) (a b c x y s g f : Nat) (t : TypeId) (cs : Array Value) (w : World) (hv : okF k a b c x y = true) (R : Row w g t cs) (I : FilIn cs f k a b c x y) (hx : fits .f32 x) (hs : fits .f32 s) :
    Calls Try.prog 58 #[.pointer (some ⟨g, f, none⟩), .float .f32 s] w (OutSt k a b c x y s g f t cs w) := by
  have hk := okF_kind hv
  rcases (show k = 1 ∨ k = 2 ∨ k = 3 ∨ k = 4 ∨ k = 5 by omega) with rfl | rfl | rfl | rfl | rfl
  · exact s_StepAt1 a b c x y s g f t cs w R I hx hs (okF_y hv (.inl rfl))
  · exact s_StepAt2 a b c x y s g f t cs w R I hx hs (okF_y hv (.inr rfl))
  · exact s_StepAt3 a b c x y s g f t cs w R I hx hs
  · exact s_StepAt4 a b c x y s g f t cs w R I hx hs
  · exact s_StepAt5 a b c x y s g f t cs w R I hx hs
end Go.Proofs.Ytmacednkpjfokaa

/- Strings in the laws' helpers, over facts of memory. -/
namespace Go.Fk
open Go Go.RowKit
/-- A part of a row. -/
theorem part_at (pre mid post : List Value) (f : Nat) (hf : pre.length = f) : ∀ j, j < mid.length → (pre ++ (mid ++ post)).toArray[f + j]? = mid[j]? := by
  intro j hj
  subst hf
  simp only [List.getElem?_toArray]
  rw [List.getElem?_append_right (by omega), Nat.add_sub_cancel_left, List.getElem?_append_left hj]
theorem strRing (s : Value) (k tk : Int) (ta tb tc tx ty : Nat) (dk : Int) (da db dc dx dy l : Nat) : ∀ j, j < [s, Value.int .i64 k].length → (#[s, .int .i64 k, .int .i64 tk, .float .f32 ta, .float .f32 tb, .float .f32 tc, .float .f32 tx, .float .f32 ty, .int .i64 dk, .float .f32 da, .float .f32 db, .float .f32 dc, .float .f32 dx, .float .f32 dy, .float .f32 l] : Array Value)[0 + j]? = [s, Value.int .i64 k][j]? := part_at [] [s, .int .i64 k] _ 0 rfl
theorem strTune (s : Value) (k tk : Int) (ta tb tc tx ty : Nat) (dk : Int) (da db dc dx dy l : Nat) : ∀ j, j < ([.int .i64 tk, .float .f32 ta, .float .f32 tb, .float .f32 tc, .float .f32 tx, .float .f32 ty] : List Value).length → (#[s, .int .i64 k, .int .i64 tk, .float .f32 ta, .float .f32 tb, .float .f32 tc, .float .f32 tx, .float .f32 ty, .int .i64 dk, .float .f32 da, .float .f32 db, .float .f32 dc, .float .f32 dx, .float .f32 dy, .float .f32 l] : Array Value)[2 + j]? = ([.int .i64 tk, .float .f32 ta, .float .f32 tb, .float .f32 tc, .float .f32 tx, .float .f32 ty] : List Value)[j]? := part_at [s, .int .i64 k] [.int .i64 tk, .float .f32 ta, .float .f32 tb, .float .f32 tc, .float .f32 tx, .float .f32 ty] _ 2 rfl
theorem strDamp (s : Value) (k tk : Int) (ta tb tc tx ty : Nat) (dk : Int) (da db dc dx dy l : Nat) : ∀ j, j < ([.int .i64 dk, .float .f32 da, .float .f32 db, .float .f32 dc, .float .f32 dx, .float .f32 dy] : List Value).length → (#[s, .int .i64 k, .int .i64 tk, .float .f32 ta, .float .f32 tb, .float .f32 tc, .float .f32 tx, .float .f32 ty, .int .i64 dk, .float .f32 da, .float .f32 db, .float .f32 dc, .float .f32 dx, .float .f32 dy, .float .f32 l] : Array Value)[8 + j]? = ([.int .i64 dk, .float .f32 da, .float .f32 db, .float .f32 dc, .float .f32 dx, .float .f32 dy] : List Value)[j]? := part_at [s, .int .i64 k, .int .i64 tk, .float .f32 ta, .float .f32 tb, .float .f32 tc, .float .f32 tx, .float .f32 ty] [.int .i64 dk, .float .f32 da, .float .f32 db, .float .f32 dc, .float .f32 dx, .float .f32 dy] _ 8 rfl
/-- What a copy of a string is, whatever is known of it. -/
def KStr (w0 : World) (args : Array Value) (w : World) (v : Value) : Prop := ∀ (s : Value) (k tk : Int) (ta tb tc tx ty : Nat) (dk : Int) (da db dc dx dy l : Nat) (B : Nat) (x : Nat → Nat) (n : Nat), args = #[.agg #[s, .int .i64 k, .int .i64 tk, .float .f32 ta, .float .f32 tb, .float .f32 tc, .float .f32 tx, .float .f32 ty, .int .i64 dk, .float .f32 da, .float .f32 db, .float .f32 dc, .float .f32 dx, .float .f32 dy, .float .f32 l]] → RdS w0 B s x n → ∃ s' B', v = .agg #[s', .int .i64 k, .int .i64 tk, .float .f32 ta, .float .f32 tb, .float .f32 tc, .float .f32 tx, .float .f32 ty, .int .i64 dk, .float .f32 da, .float .f32 db, .float .f32 dc, .float .f32 dx, .float .f32 dy, .float .f32 l] ∧ RdS w B' s' x n
theorem KStr.le {w0 w w' : World} {args : Array Value} {v : Value} (h : KStr w0 args w v) (hl : Fk.le w w') : KStr w0 args w' v := by
  intro s k tk ta tb tc tx ty dk da db dc dx dy l B x n e hr
  obtain ⟨s', B', e1, e2⟩ := h s k tk ta tb tc tx ty dk da db dc dx dy l B x n e hr
  exact ⟨s', B', e1, e2.le hl⟩
end Go.Fk
namespace Go.Proofs.Ytmacednkpjfokaa
open Go.RowKit Go.Fk
theorem infoStr : (Try.prog.info? 48).map (·.size) = some 15 := by kernel_rfl
theorem infoStrL : (Try.prog.info? 44).map (·.size) = some 15 := by kernel_rfl
theorem infoRingL' : (Try.prog.info? 42).map (·.size) = some 2 := by kernel_rfl
theorem infoFilL' : (Try.prog.info? 26).map (·.size) = some 6 := by kernel_rfl
theorem szStringRM_yes (B : Nat) (s : Value) (x : Nat → Nat) (n : Nat) (k tk : Int) (ta tb tc tx ty : Nat) (dk : Int) (da db dc dx dy l : Nat) (m : Int) (w : World) (hs : RdS w B s x n) (h0 : 0 ≤ m) (h1 : m ≤ 1048576) (hm : 0 ≤ m - (n : Int)) :
    Calls Try.prog 21 #[.agg #[s, .int .i64 k, .int .i64 tk, .float .f32 ta, .float .f32 tb, .float .f32 tc, .float .f32 tx, .float .f32 ty, .int .i64 dk, .float .f32 da, .float .f32 db, .float .f32 dc, .float .f32 dx, .float .f32 dy, .float .f32 l], .int .i64 m] w fun e w' => e = .returned (.int .i64 (m - n)) ∧ le w w' := by
  have HS := hid hs; clear hs
  have hm' : ¬ m - (n : Int) < 0 := by omega
  have F := (Frg.nil w).box 44 #[s, .int .i64 k, .int .i64 tk, .float .f32 ta, .float .f32 tb, .float .f32 tc, .float .f32 tx, .float .f32 ty, .int .i64 dk, .float .f32 da, .float .f32 db, .float .f32 dc, .float .f32 dx, .float .f32 dy, .float .f32 l]
  go_enter Try.func21, Try.ntmps21
  go_wp2_with (first | ((with_reducible refine at_load rfl ?_); (with_reducible refine wpList_loadGP F rfl rfl rfl m0 Try.underlying42 rfl [s, .int .i64 k] (strRing s k tk ta tb tc tx ty dk da db dc dx dy l) infoRingL' rfl ?_)) | (go_at_call 60; ((with_reducible refine (szRingRM_yes B s x n k m _ (HS.out.le F.below) h0 h1 hm).mono ?_); rintro e w1 ⟨rfl, hl⟩; replace F := F.le hl; clear hl)))
  go_ret
  exact ⟨rfl, F.below⟩
theorem szStringRM_no (B : Nat) (s : Value) (x : Nat → Nat) (n : Nat) (k tk : Int) (ta tb tc tx ty : Nat) (dk : Int) (da db dc dx dy l : Nat) (m : Int) (w : World) (hs : RdS w B s x n) (h0 : 0 ≤ m) (h1 : m ≤ 1048576) (hm : m - (n : Int) < 0) :
    Calls Try.prog 21 #[.agg #[s, .int .i64 k, .int .i64 tk, .float .f32 ta, .float .f32 tb, .float .f32 tc, .float .f32 tx, .float .f32 ty, .int .i64 dk, .float .f32 da, .float .f32 db, .float .f32 dc, .float .f32 dx, .float .f32 dy, .float .f32 l], .int .i64 m] w fun e w' => e = .returned (.int .i64 (-1)) ∧ le w w' := by
  have HS := hid hs; clear hs
  have F := (Frg.nil w).box 44 #[s, .int .i64 k, .int .i64 tk, .float .f32 ta, .float .f32 tb, .float .f32 tc, .float .f32 tx, .float .f32 ty, .int .i64 dk, .float .f32 da, .float .f32 db, .float .f32 dc, .float .f32 dx, .float .f32 dy, .float .f32 l]
  go_enter Try.func21, Try.ntmps21
  go_wp2_with (first | ((with_reducible refine at_load rfl ?_); (with_reducible refine wpList_loadGP F rfl rfl rfl m0 Try.underlying42 rfl [s, .int .i64 k] (strRing s k tk ta tb tc tx ty dk da db dc dx dy l) infoRingL' rfl ?_)) | (go_at_call 60; ((with_reducible refine (szRingRM_no B s x n k m _ (HS.out.le F.below) h0 h1 hm).mono ?_); rintro e w1 ⟨rfl, hl⟩; replace F := F.le hl; clear hl)))
  go_ret
  exact ⟨rfl, F.below⟩
theorem szStringR_yes (B : Nat) (s : Value) (x : Nat → Nat) (n : Nat) (k tk : Int) (ta tb tc tx ty : Nat) (dk : Int) (da db dc dx dy l : Nat) (w : World) (hs : RdS w B s x n) (hn : n ≤ 1048576) :
    Calls Try.prog 21 #[.agg #[s, .int .i64 k, .int .i64 tk, .float .f32 ta, .float .f32 tb, .float .f32 tc, .float .f32 tx, .float .f32 ty, .int .i64 dk, .float .f32 da, .float .f32 db, .float .f32 dc, .float .f32 dx, .float .f32 dy, .float .f32 l], .int .i64 1048576] w fun e w' => e = .returned (.int .i64 (1048576 - n)) ∧ le w w' := szStringRM_yes B s x n k tk ta tb tc tx ty dk da db dc dx dy l 1048576 w hs (by omega) (by omega) (by omega)
theorem szStringR_no (B : Nat) (s : Value) (x : Nat → Nat) (n : Nat) (k tk : Int) (ta tb tc tx ty : Nat) (dk : Int) (da db dc dx dy l : Nat) (w : World) (hs : RdS w B s x n) (hn : ¬ n ≤ 1048576) :
    Calls Try.prog 21 #[.agg #[s, .int .i64 k, .int .i64 tk, .float .f32 ta, .float .f32 tb, .float .f32 tc, .float .f32 tx, .float .f32 ty, .int .i64 dk, .float .f32 da, .float .f32 db, .float .f32 dc, .float .f32 dx, .float .f32 dy, .float .f32 l], .int .i64 1048576] w fun e w' => e = .returned (.int .i64 (-1)) ∧ le w w' := szStringRM_no B s x n k tk ta tb tc tx ty dk da db dc dx dy l 1048576 w hs (by omega) (by omega) (by omega)
set_option maxRecDepth 100000 in
set_option maxHeartbeats 1000000 in
theorem eqStringR (B B' : Nat) (s s' : Value) (x : Nat → Nat) (n : Nat) (k tk : Int) (ta tb tc tx ty : Nat) (dk : Int) (da db dc dx dy l : Nat) (w : World) (hn : n ≤ 1048576) (hs : RdS w B s x n) (hs' : RdS w B' s' x n) :
    Calls Try.prog 25 #[.agg #[s, .int .i64 k, .int .i64 tk, .float .f32 ta, .float .f32 tb, .float .f32 tc, .float .f32 tx, .float .f32 ty, .int .i64 dk, .float .f32 da, .float .f32 db, .float .f32 dc, .float .f32 dx, .float .f32 dy, .float .f32 l], .agg #[s', .int .i64 k, .int .i64 tk, .float .f32 ta, .float .f32 tb, .float .f32 tc, .float .f32 tx, .float .f32 ty, .int .i64 dk, .float .f32 da, .float .f32 db, .float .f32 dc, .float .f32 dx, .float .f32 dy, .float .f32 l]] w fun e w' => e = .returned (.bool true) ∧ le w w' := by
  have HS := hid hs; have HS' := hid hs'; clear hs hs'
  have F := ((Frg.nil w).box 48 #[s, .int .i64 k, .int .i64 tk, .float .f32 ta, .float .f32 tb, .float .f32 tc, .float .f32 tx, .float .f32 ty, .int .i64 dk, .float .f32 da, .float .f32 db, .float .f32 dc, .float .f32 dx, .float .f32 dy, .float .f32 l]).box 48 #[s', .int .i64 k, .int .i64 tk, .float .f32 ta, .float .f32 tb, .float .f32 tc, .float .f32 tx, .float .f32 ty, .int .i64 dk, .float .f32 da, .float .f32 db, .float .f32 dc, .float .f32 dx, .float .f32 dy, .float .f32 l]
  simp only [World.size_alloc] at F
  go_enter Try.func25, Try.ntmps25
  go_wp2_with (first | ((with_reducible refine at_load rfl ?_); first | (with_reducible refine wpList_loadGP F rfl rfl rfl m1 Try.underlying46 rfl [s, .int .i64 k] (strRing s k tk ta tb tc tx ty dk da db dc dx dy l) infoRing rfl ?_) | (with_reducible refine wpList_loadGP F rfl rfl rfl m0 Try.underlying46 rfl [s', .int .i64 k] (strRing s' k tk ta tb tc tx ty dk da db dc dx dy l) infoRing rfl ?_) | (with_reducible refine wpList_loadGP F rfl rfl rfl m1 Try.underlying28 rfl [.int .i64 tk, .float .f32 ta, .float .f32 tb, .float .f32 tc, .float .f32 tx, .float .f32 ty] (strTune s k tk ta tb tc tx ty dk da db dc dx dy l) infoFil rfl ?_) | (with_reducible refine wpList_loadGP F rfl rfl rfl m0 Try.underlying28 rfl [.int .i64 tk, .float .f32 ta, .float .f32 tb, .float .f32 tc, .float .f32 tx, .float .f32 ty] (strTune s' k tk ta tb tc tx ty dk da db dc dx dy l) infoFil rfl ?_) | (with_reducible refine wpList_loadGP F rfl rfl rfl m1 Try.underlying28 rfl [.int .i64 dk, .float .f32 da, .float .f32 db, .float .f32 dc, .float .f32 dx, .float .f32 dy] (strDamp s k tk ta tb tc tx ty dk da db dc dx dy l) infoFil rfl ?_) | (with_reducible refine wpList_loadGP F rfl rfl rfl m0 Try.underlying28 rfl [.int .i64 dk, .float .f32 da, .float .f32 db, .float .f32 dc, .float .f32 dx, .float .f32 dy] (strDamp s' k tk ta tb tc tx ty dk da db dc dx dy l) infoFil rfl ?_)) | (go_at_call 71; ((with_reducible refine (eqRingR B B' s s' x n k _ hn (HS.out.le F.below) (HS'.out.le F.below)).mono ?_); rintro e w1 ⟨rfl, hl⟩; replace F := F.le hl; clear hl)) | (go_at_call 17; ((with_reducible refine (eqFil_yes _ _ _ _ _ _ _ _ _ _ _ _ rfl rfl rfl rfl rfl).mono ?_); rintro e w1 ⟨rfl, hl⟩; replace F := F.le hl; clear hl; have c14 := (F.row m1).cell? 14; have d14 := (F.row m0).cell? 14)) | ((with_reducible refine at_convert rfl ?_); (with_reducible refine wpList_widen rfl rfl rfl Try.underlying22 Try.underlying63 ?_; intro s1 n1 h1 f1)) | (go_at_call 35; ((with_reducible refine (sameFloat_yes _ _ _ (by exact (Eq.trans (Hid.out (by assumption)) h1.out.symm))).mono ?_); rintro e w7 ⟨rfl, dq7, rfl⟩)))
  go_ret
  exact ⟨rfl, le_trans F.below (by first | exact le_drewN _ _ | exact le_refl _)⟩
theorem markStringR (lo hi : Nat) (s : Value) (x : Nat → Nat) (n : Nat) (k tk : Int) (ta tb tc tx ty : Nat) (dk : Int) (da db dc dx dy l : Nat) (z : Int) (w : World) (hn : n ≤ 1048576) (hz : 0 ≤ z) (hz2 : z ≤ 1073741824) (hs : OwnS w lo hi s x n) :
    Calls Try.prog 26 #[.agg #[s, .int .i64 k, .int .i64 tk, .float .f32 ta, .float .f32 tb, .float .f32 tc, .float .f32 tx, .float .f32 ty, .int .i64 dk, .float .f32 da, .float .f32 db, .float .f32 dc, .float .f32 dx, .float .f32 dy, .float .f32 l], .int .i64 z] w fun e w' => e = .returned (.int .i64 (z + n)) ∧ OwnS w' lo hi s (markW z) n ∧ Chg (rng lo hi) w w' := by
  have HS := hid (hs.le (le_alloc w (.cells #[s, .int .i64 k, .int .i64 tk, .float .f32 ta, .float .f32 tb, .float .f32 tc, .float .f32 tx, .float .f32 ty, .int .i64 dk, .float .f32 da, .float .f32 db, .float .f32 dc, .float .f32 dx, .float .f32 dy, .float .f32 l] 48))); clear hs
  have F := (Frg.nil w).box 48 #[s, .int .i64 k, .int .i64 tk, .float .f32 ta, .float .f32 tb, .float .f32 tc, .float .f32 tx, .float .f32 ty, .int .i64 dk, .float .f32 da, .float .f32 db, .float .f32 dc, .float .f32 dx, .float .f32 dy, .float .f32 l]
  go_enter Try.func26, Try.ntmps26
  go_wp2_with (first | ((with_reducible refine at_load rfl ?_); (with_reducible refine wpList_loadGP F rfl rfl rfl m0 Try.underlying46 rfl [s, .int .i64 k] (strRing s k tk ta tb tc tx ty dk da db dc dx dy l) infoRing rfl ?_)) | (go_at_call 72; ((with_reducible refine (markRingR lo hi s x n k z _ hn hz hz2 HS.out).mono ?_); rintro e w2 ⟨rfl, hR, hU⟩; have HR2 := hid hR; have HU := hid (Chg.trans (Chg.of_le F.below) hU); clear hR hU F)))
  go_ret
  exact ⟨rfl, HR2.out, HU.out⟩
theorem heldStringR (B : Nat) (s : Value) (n : Nat) (k tk : Int) (ta tb tc tx ty : Nat) (dk : Int) (da db dc dx dy l : Nat) (z : Int) (w : World) (hn : n ≤ 1048576) (hz : 0 ≤ z) (hz2 : z ≤ 1073741824) (hs : RdS w B s (markW z) n) :
    Calls Try.prog 27 #[.agg #[s, .int .i64 k, .int .i64 tk, .float .f32 ta, .float .f32 tb, .float .f32 tc, .float .f32 tx, .float .f32 ty, .int .i64 dk, .float .f32 da, .float .f32 db, .float .f32 dc, .float .f32 dx, .float .f32 dy, .float .f32 l], .int .i64 z] w fun e w' => e = .returned (.int .i64 (z + n)) ∧ le w w' := by
  have HS := hid hs; clear hs
  have F := (Frg.nil w).box 48 #[s, .int .i64 k, .int .i64 tk, .float .f32 ta, .float .f32 tb, .float .f32 tc, .float .f32 tx, .float .f32 ty, .int .i64 dk, .float .f32 da, .float .f32 db, .float .f32 dc, .float .f32 dx, .float .f32 dy, .float .f32 l]
  have hz3 : ¬ (z + (n : Int) < 0) := by omega
  go_enter Try.func27, Try.ntmps27
  go_wp2_with (first | ((with_reducible refine at_load rfl ?_); (with_reducible refine wpList_loadGP F rfl rfl rfl m0 Try.underlying46 rfl [s, .int .i64 k] (strRing s k tk ta tb tc tx ty dk da db dc dx dy l) infoRing rfl ?_)) | (go_at_call 73; ((with_reducible refine (heldRingR B s n k z _ hn hz hz2 (HS.out.le F.below)).mono ?_); rintro e w2 ⟨rfl, hl⟩; replace F := F.le hl; clear hl)))
  go_ret
  exact ⟨rfl, F.below⟩
set_option maxRecDepth 100000 in
set_option maxHeartbeats 2000000 in
theorem toStringR (B : Nat) (s : Value) (x : Nat → Nat) (n : Nat) (k tk : Int) (ta tb tc tx ty : Nat) (dk : Int) (da db dc dx dy l : Nat) (w : World) (hs : RdS w B s x n) (hn : n ≤ 1048576) :
    Calls Try.prog 23 #[.agg #[s, .int .i64 k, .int .i64 tk, .float .f32 ta, .float .f32 tb, .float .f32 tc, .float .f32 tx, .float .f32 ty, .int .i64 dk, .float .f32 da, .float .f32 db, .float .f32 dc, .float .f32 dx, .float .f32 dy, .float .f32 l]] w fun e w' => ∃ s', e = .returned (.agg #[s', .int .i64 k, .int .i64 tk, .float .f32 ta, .float .f32 tb, .float .f32 tc, .float .f32 tx, .float .f32 ty, .int .i64 dk, .float .f32 da, .float .f32 db, .float .f32 dc, .float .f32 dx, .float .f32 dy, .float .f32 l]) ∧ OwnS w' w.heap.size w'.heap.size s' x n ∧ le w w' := by
  have HS := hid hs; clear hs
  have F := (((Frg.nil w).box 44 #[s, .int .i64 k, .int .i64 tk, .float .f32 ta, .float .f32 tb, .float .f32 tc, .float .f32 tx, .float .f32 ty, .int .i64 dk, .float .f32 da, .float .f32 db, .float .f32 dc, .float .f32 dx, .float .f32 dy, .float .f32 l]).box 48 #[.slice none 0 0, .int .i64 0, .int .i64 0, .float .f32 0, .float .f32 0, .float .f32 0, .float .f32 0, .float .f32 0, .int .i64 0, .float .f32 0, .float .f32 0, .float .f32 0, .float .f32 0, .float .f32 0, .float .f32 0]).box 48 #[.slice none 0 0, .int .i64 0, .int .i64 0, .float .f32 0, .float .f32 0, .float .f32 0, .float .f32 0, .float .f32 0, .int .i64 0, .float .f32 0, .float .f32 0, .float .f32 0, .float .f32 0, .float .f32 0, .float .f32 0]
  simp only [World.size_alloc] at F
  go_enter Try.func23, Try.ntmps23
  go_wp2_with (first | ((with_reducible refine at_load rfl ?_); first | (with_reducible refine wpList_loadGP F rfl rfl rfl m2 Try.underlying42 rfl [s, .int .i64 k] (strRing s k tk ta tb tc tx ty dk da db dc dx dy l) infoRingL' rfl ?_) | (with_reducible refine wpList_loadGP F rfl rfl rfl m3 Try.underlying26 rfl [.int .i64 tk, .float .f32 ta, .float .f32 tb, .float .f32 tc, .float .f32 tx, .float .f32 ty] (strTune s k tk ta tb tc tx ty dk da db dc dx dy l) infoFilL' rfl ?_) | (with_reducible refine wpList_loadGP F rfl rfl rfl m3 Try.underlying26 rfl [.int .i64 dk, .float .f32 da, .float .f32 db, .float .f32 dc, .float .f32 dx, .float .f32 dy] (strDamp s k tk ta tb tc tx ty dk da db dc dx dy l) infoFilL' rfl ?_)) | (go_at_call 65; ((with_reducible refine (toRingR B s x n k _ (HS.out.le F.below) hn).mono ?_); rintro e w1 ⟨s', rfl, ho, hl⟩; have OC := hid (OwnS.one ho); replace F := F.own1 hl ho; clear ho hl)) | (go_at_call 14; ((with_reducible refine (toFil_any _ _ _ _ _ _ _).mono ?_); rintro e w3 ⟨rfl, hl3⟩; replace F := F.le hl3; clear hl3)) | ((with_reducible refine stop_store rfl ?_)))
  show wpList _ _ _ _ _ _
  refine wpList_storeP rfl rfl rfl (f := 0) (cells := [s', .int .i64 k]) rfl (F.row m1) infoRing (by simp) (one_head OC.out rfl) (fun w2 K => ?_)
  replace F := F.wr1 (cs' := #[s', .int .i64 k, .int .i64 0, .float .f32 0, .float .f32 0, .float .f32 0, .float .f32 0, .float .f32 0, .int .i64 0, .float .f32 0, .float .f32 0, .float .f32 0, .float .f32 0, .float .f32 0, .float .f32 0]) K
  clear K
  go_wp2_with (first | ((with_reducible refine at_load rfl ?_); first | (with_reducible refine wpList_loadGP F rfl rfl rfl m2 Try.underlying42 rfl [s, .int .i64 k] (strRing s k tk ta tb tc tx ty dk da db dc dx dy l) infoRingL' rfl ?_) | (with_reducible refine wpList_loadGP F rfl rfl rfl m3 Try.underlying26 rfl [.int .i64 tk, .float .f32 ta, .float .f32 tb, .float .f32 tc, .float .f32 tx, .float .f32 ty] (strTune s k tk ta tb tc tx ty dk da db dc dx dy l) infoFilL' rfl ?_) | (with_reducible refine wpList_loadGP F rfl rfl rfl m3 Try.underlying26 rfl [.int .i64 dk, .float .f32 da, .float .f32 db, .float .f32 dc, .float .f32 dx, .float .f32 dy] (strDamp s k tk ta tb tc tx ty dk da db dc dx dy l) infoFilL' rfl ?_)) | (go_at_call 14; ((with_reducible refine (toFil_any _ _ _ _ _ _ _).mono ?_); rintro e w3 ⟨rfl, hl3⟩; replace F := F.le hl3; clear hl3)) | ((with_reducible refine stop_store rfl ?_)))
  show wpList _ _ _ _ _ _
  refine wpList_storeP rfl rfl rfl (f := 2) (cells := [.int .i64 tk, .float .f32 ta, .float .f32 tb, .float .f32 tc, .float .f32 tx, .float .f32 ty]) rfl (F.row m1) infoFil (by simp) (by simp [Value.oneCell']) (fun w4 K => ?_)
  replace F := F.wr1 (cs' := #[s', .int .i64 k, .int .i64 tk, .float .f32 ta, .float .f32 tb, .float .f32 tc, .float .f32 tx, .float .f32 ty, .int .i64 0, .float .f32 0, .float .f32 0, .float .f32 0, .float .f32 0, .float .f32 0, .float .f32 0]) K
  clear K
  go_wp2_with (first | ((with_reducible refine at_load rfl ?_); first | (with_reducible refine wpList_loadGP F rfl rfl rfl m2 Try.underlying42 rfl [s, .int .i64 k] (strRing s k tk ta tb tc tx ty dk da db dc dx dy l) infoRingL' rfl ?_) | (with_reducible refine wpList_loadGP F rfl rfl rfl m3 Try.underlying26 rfl [.int .i64 tk, .float .f32 ta, .float .f32 tb, .float .f32 tc, .float .f32 tx, .float .f32 ty] (strTune s k tk ta tb tc tx ty dk da db dc dx dy l) infoFilL' rfl ?_) | (with_reducible refine wpList_loadGP F rfl rfl rfl m3 Try.underlying26 rfl [.int .i64 dk, .float .f32 da, .float .f32 db, .float .f32 dc, .float .f32 dx, .float .f32 dy] (strDamp s k tk ta tb tc tx ty dk da db dc dx dy l) infoFilL' rfl ?_)) | (go_at_call 14; ((with_reducible refine (toFil_any _ _ _ _ _ _ _).mono ?_); rintro e w3 ⟨rfl, hl3⟩; replace F := F.le hl3; clear hl3)) | ((with_reducible refine stop_store rfl ?_)))
  show wpList _ _ _ _ _ _
  refine wpList_storeP rfl rfl rfl (f := 8) (cells := [.int .i64 dk, .float .f32 da, .float .f32 db, .float .f32 dc, .float .f32 dx, .float .f32 dy]) rfl (F.row m1) infoFil (by simp) (by simp [Value.oneCell']) (fun w5 K => ?_)
  replace F := F.wr1 (cs' := #[s', .int .i64 k, .int .i64 tk, .float .f32 ta, .float .f32 tb, .float .f32 tc, .float .f32 tx, .float .f32 ty, .int .i64 dk, .float .f32 da, .float .f32 db, .float .f32 dc, .float .f32 dx, .float .f32 dy, .float .f32 0]) K
  clear K
  have c14 := (F.row m3).cell? 14
  have d14 := (F.row m1).cell? 14
  have f14 := (F.row m1).frozen 14
  go_wp2_with (first | ((with_reducible refine at_load rfl ?_); (with_reducible refine wpList_loadG (F.set1 14 (.float .f32 l)) rfl rfl rfl m1 Try.underlying48 rfl infoStr (by simp) ?_)) | ((with_reducible refine stop_store (ty := 48) rfl ?_)))
  show wpList _ _ _ _ _ _
  replace F := F.set1 14 (.float .f32 l)
  refine wpList_storeD rfl rfl rfl (cells := #[s', .int .i64 k, .int .i64 tk, .float .f32 ta, .float .f32 tb, .float .f32 tc, .float .f32 tx, .float .f32 ty, .int .i64 dk, .float .f32 da, .float .f32 db, .float .f32 dc, .float .f32 dx, .float .f32 dy, .float .f32 l]) rfl (F.row m2) infoStr rfl (one_head OC.out rfl) (fun w6 K => ?_)
  have R := hid K.row
  have L := hid (F.fin2 K)
  clear K F
  go_wp2
  exact bodyPost_ret (results_row1 rfl _ _ _ _ _ rfl R.out Try.underlying48 rfl infoStr) rfl ⟨_, rfl, L.out.1, L.out.2⟩
theorem toStringK (w0 : World) (B : Nat) (s : Value) (x : Nat → Nat) (n : Nat) (k tk : Int) (ta tb tc tx ty : Nat) (dk : Int) (da db dc dx dy l : Nat) (w : World) (hl : le w0 w) (hs : RdS w0 B s x n) (hn : n ≤ 1048576) :
    Calls Try.prog 23 #[.agg #[s, .int .i64 k, .int .i64 tk, .float .f32 ta, .float .f32 tb, .float .f32 tc, .float .f32 tx, .float .f32 ty, .int .i64 dk, .float .f32 da, .float .f32 db, .float .f32 dc, .float .f32 dx, .float .f32 dy, .float .f32 l]] w fun e w' => ∃ v, e = .returned v ∧ le w w' ∧ KStr w0 #[.agg #[s, .int .i64 k, .int .i64 tk, .float .f32 ta, .float .f32 tb, .float .f32 tc, .float .f32 tx, .float .f32 ty, .int .i64 dk, .float .f32 da, .float .f32 db, .float .f32 dc, .float .f32 dx, .float .f32 dy, .float .f32 l]] w' v := by
  refine (toStringR B s x n k tk ta tb tc tx ty dk da db dc dx dy l w (hs.le hl) hn).mono ?_
  rintro e w' ⟨s', rfl, ho, hl'⟩
  refine ⟨_, rfl, hl', ?_⟩
  intro s2 k2 tk2 ta2 tb2 tc2 tx2 ty2 dk2 da2 db2 dc2 dx2 dy2 l2 B2 x2 n2 e2 hr
  simp only [Array.mk.injEq, List.cons.injEq, Value.agg.injEq, Value.int.injEq, Value.float.injEq, true_and, and_true] at e2
  obtain ⟨rfl, rfl, rfl, rfl, rfl, rfl, rfl, rfl, rfl, rfl, rfl, rfl, rfl, rfl, rfl⟩ := e2
  obtain ⟨rfl, hx⟩ := hs.uniq hr
  exact ⟨s', _, rfl, ho.rd.congr hx⟩
end Go.Proofs.Ytmacednkpjfokaa

/- Strings of the model. -/
namespace Go.Fk
open Go Go.RowKit
theorem inTuneQ (s : Value) (q : StS) : FilIn #[s, .int .i64 (q.j : Nat), .int .i64 3, .float .f32 (q.ta), .float .f32 (q.tb), .float .f32 (q.tc), .float .f32 (q.tx), .float .f32 (q.ty), .int .i64 2, .float .f32 (q.da), .float .f32 (q.db), .float .f32 (q.dc), .float .f32 (q.dx), .float .f32 (q.dy), .float .f32 (q.l)] 2 3 q.ta q.tb q.tc q.tx q.ty := ⟨rfl, rfl, rfl, rfl, rfl, rfl⟩
theorem inDampQ (s : Value) (q : StS) : FilIn #[s, .int .i64 (q.j : Nat), .int .i64 3, .float .f32 (q.ta), .float .f32 (q.tb), .float .f32 (q.tc), .float .f32 (q.tx), .float .f32 (q.ty), .int .i64 2, .float .f32 (q.da), .float .f32 (q.db), .float .f32 (q.dc), .float .f32 (q.dx), .float .f32 (q.dy), .float .f32 (q.l)] 8 2 q.da q.db q.dc q.dx q.dy := ⟨rfl, rfl, rfl, rfl, rfl, rfl⟩
theorem can_y2 (q : StS) : can .f32 (y2S q) = y2S q := can_outF _ _ _ _ _ _ _
theorem chg_upd {g : Nat} {w w' : World} (h : Upd g w w') : Chg (· = g) w w' := ⟨h.os, h.tape, h.output, h.size, fun k hk hn => h.block k hk hn⟩
theorem next_of {q : StS} {a r2 p r : Nat} (h2 : can .f32 r2 = y2S q) (hp : can .f32 p = fop .mul .f32 r2 q.l) (hr : can .f32 r = fop .add .f32 p a) : kept r = nextS q a := by
  unfold nextS
  refine kept_can (hr.trans ?_)
  rw [can_fop]
  exact fop_congr (hp.trans ((fop_congr (by rw [h2]; exact (can_y2 q).symm) rfl).trans (can_fop _ _ _ _).symm)) rfl
end Go.Fk
namespace Go.Proofs.Ytmacednkpjfokaa
open Go.RowKit Go.Fk
/-- A string in a block of its own; all its blocks lie from B to C. -/
def SpS (w : World) (B C g : Nat) (q : StS) : Prop := ∃ (s : Value) (lo hi : Nat), Row w g 48 #[s, .int .i64 (q.j : Nat), .int .i64 3, .float .f32 (q.ta), .float .f32 (q.tb), .float .f32 (q.tc), .float .f32 (q.tx), .float .f32 (q.ty), .int .i64 2, .float .f32 (q.da), .float .f32 (q.db), .float .f32 (q.dc), .float .f32 (q.dx), .float .f32 (q.dy), .float .f32 (q.l)] ∧ OwnS w lo hi s q.x q.n ∧ B ≤ g ∧ g < C ∧ B ≤ lo ∧ hi ≤ C ∧ ¬ (lo ≤ g ∧ g < hi)
def OutSS (B C g : Nat) (q : StS) (a : Nat) (w : World) (e : Ending) (w' : World) : Prop := ∃ o, e = .returned (.float .f32 o) ∧ can .f32 o = q.x q.j ∧ fits .f32 o ∧ SpS w' B C g (stepS q a) ∧ Chg (rng B C) w w'
set_option maxRecDepth 100000 in
set_option maxHeartbeats 2000000 in
theorem s_l03Copy (B : Nat) (s : Value) (x : Nat → Nat) (n : Nat) (k tk : Int) (ta tb tc tx ty : Nat) (dk : Int) (da db dc dx dy l : Nat) (g : Nat) (w : World) (hs : RdS w B s x n) (R : Row w g 48 #[s, .int .i64 k, .int .i64 tk, .float .f32 ta, .float .f32 tb, .float .f32 tc, .float .f32 tx, .float .f32 ty, .int .i64 dk, .float .f32 da, .float .f32 db, .float .f32 dc, .float .f32 dx, .float .f32 dy, .float .f32 l]) (h1 : 1 ≤ n) (h2 : n ≤ 1024) :
    Calls Try.prog 63 #[.pointer (some ⟨g, 0, none⟩)] w fun e w' => ∃ s', e = .returned (.agg #[s', .int .i64 k, .int .i64 tk, .float .f32 ta, .float .f32 tb, .float .f32 tc, .float .f32 tx, .float .f32 ty, .int .i64 dk, .float .f32 da, .float .f32 db, .float .f32 dc, .float .f32 dx, .float .f32 dy, .float .f32 l]) ∧ OwnS w' w.heap.size w'.heap.size s' x n ∧ le w w' := by
  have HS := hid hs; have HRW := hid R; clear hs
  have hgw : g < w.heap.size := R.lt
  clear R
  have G := (Frg.nil w).box 48 #[.slice none 0 0, .int .i64 0, .int .i64 0, .float .f32 0, .float .f32 0, .float .f32 0, .float .f32 0, .float .f32 0, .int .i64 0, .float .f32 0, .float .f32 0, .float .f32 0, .float .f32 0, .float .f32 0, .float .f32 0]
  go_enter Try.func63, Try.ntmps63
  go_wp2_with fail
  obtain ⟨W, hW⟩ : ∃ W, W = w.alloc (.cells #[.slice none 0 0, .int .i64 0, .int .i64 0, .float .f32 0, .float .f32 0, .float .f32 0, .float .f32 0, .float .f32 0, .int .i64 0, .float .f32 0, .float .f32 0, .float .f32 0, .float .f32 0, .float .f32 0, .float .f32 0] 48) := ⟨_, rfl⟩
  rw [← hW] at G ⊢
  clear hW
  have F := (Frm.one (HRW.out.le G.below)).drewN 1
  have G1 := G.drewN 1
  refine region_tail (fun _ _ w' v => ∃ s', v = .agg #[s', .int .i64 k] ∧ OwnS w' (W.drewN 1).heap.size w'.heap.size s' x n) 17 (by kernel_rfl) (by kernel_rfl) ?_
  simp only [List.take_succ_cons, List.take_zero, List.drop_succ_cons, List.drop_zero]
  refine wpFree_one rfl (.pointer (some ⟨g, 0, none⟩)) (fun w1 _ => by kernel_rfl) ?_
  simp only [Act.put, List.setIfInBounds_toArray, List.set_cons_succ, List.set_cons_zero]
  refine wpFree_one rfl (.pointer (some ⟨g, 0, none⟩)) (fun w1 _ => by kernel_rfl) ?_
  simp only [Act.put, List.setIfInBounds_toArray, List.set_cons_succ, List.set_cons_zero]
  refine wpFree_one rfl (.pointer (some ⟨g, 0, none⟩)) (fun w1 _ => by kernel_rfl) ?_
  simp only [Act.put, List.setIfInBounds_toArray, List.set_cons_succ, List.set_cons_zero]
  refine wpFree_call rfl rfl Try.func92 (by kernel_rfl) (by kernel_rfl) (args := #[.pointer (some ⟨g, 0, none⟩)]) (by simp [Act.eval]) (fun v w1 w2 hw hv => by obtain ⟨s', e1, e2⟩ := hv; exact ⟨s', e1, (e2.le hw).mono (Nat.le_refl _) hw.size⟩) (fun w1 hw1 => (s_l02Copy B s x n k g 0 w1 (HS.out.le (le_trans G1.below hw1)) ((HRW.out.le (le_trans G1.below hw1)).cell? 0) ((HRW.out.le (le_trans G1.below hw1)).cell? 1) h1 h2).mono ?_) ?_
  · rintro e w2 ⟨s', rfl, ho, hl⟩
    exact ⟨_, rfl, hl, s', rfl, ho.mono hw1.size (Nat.le_refl _)⟩
  rintro v ⟨_, _, s', rfl, _⟩
  simp only [Act.put, List.setIfInBounds_toArray, List.set_cons_succ, List.set_cons_zero]
  refine wpFree_one rfl (.pointer (some ⟨g, 0, none⟩)) (fun w1 _ => by kernel_rfl) ?_
  simp only [Act.put, List.setIfInBounds_toArray, List.set_cons_succ, List.set_cons_zero]
  refine wpFree_one rfl (.pointer (some ⟨g, 0, none⟩)) (fun w1 _ => by kernel_rfl) ?_
  simp only [Act.put, List.setIfInBounds_toArray, List.set_cons_succ, List.set_cons_zero]
  refine wpFree_one rfl (.pointer (some ⟨g, 2, none⟩)) (fun w1 _ => by kernel_rfl) ?_
  simp only [Act.put, List.setIfInBounds_toArray, List.set_cons_succ, List.set_cons_zero]
  refine wpFree_loadPart F (n := 0) rfl rfl rfl rfl List.mem_cons_self Try.underlying28 rfl [.int .i64 tk, .float .f32 ta, .float .f32 tb, .float .f32 tc, .float .f32 tx, .float .f32 ty] (strTune s k tk ta tb tc tx ty dk da db dc dx dy l) infoFil ?_
  simp only [Act.put, List.setIfInBounds_toArray, List.set_cons_succ, List.set_cons_zero]
  refine wpFree_one rfl (.pointer (some ⟨g, 0, none⟩)) (fun w1 _ => by kernel_rfl) ?_
  simp only [Act.put, List.setIfInBounds_toArray, List.set_cons_succ, List.set_cons_zero]
  refine wpFree_one rfl (.pointer (some ⟨g, 0, none⟩)) (fun w1 _ => by kernel_rfl) ?_
  simp only [Act.put, List.setIfInBounds_toArray, List.set_cons_succ, List.set_cons_zero]
  refine wpFree_one rfl (.pointer (some ⟨g, 8, none⟩)) (fun w1 _ => by kernel_rfl) ?_
  simp only [Act.put, List.setIfInBounds_toArray, List.set_cons_succ, List.set_cons_zero]
  refine wpFree_loadPart F (n := 0) rfl rfl rfl rfl List.mem_cons_self Try.underlying28 rfl [.int .i64 dk, .float .f32 da, .float .f32 db, .float .f32 dc, .float .f32 dx, .float .f32 dy] (strDamp s k tk ta tb tc tx ty dk da db dc dx dy l) infoFil ?_
  simp only [Act.put, List.setIfInBounds_toArray, List.set_cons_succ, List.set_cons_zero]
  refine wpFree_one rfl (.pointer (some ⟨g, 0, none⟩)) (fun w1 _ => by kernel_rfl) ?_
  simp only [Act.put, List.setIfInBounds_toArray, List.set_cons_succ, List.set_cons_zero]
  refine wpFree_one rfl (.pointer (some ⟨g, 0, none⟩)) (fun w1 _ => by kernel_rfl) ?_
  simp only [Act.put, List.setIfInBounds_toArray, List.set_cons_succ, List.set_cons_zero]
  refine wpFree_one rfl (.pointer (some ⟨g, 14, none⟩)) (fun w1 _ => by kernel_rfl) ?_
  simp only [Act.put, List.setIfInBounds_toArray, List.set_cons_succ, List.set_cons_zero]
  refine wpFree_loadF F (n := 0) rfl rfl rfl rfl List.mem_cons_self rfl Try.underlying22 ?_
  simp only [Act.put, List.setIfInBounds_toArray, List.set_cons_succ, List.set_cons_zero]
  refine wpFree_one rfl (.agg #[s', .int .i64 k, .int .i64 tk, .float .f32 ta, .float .f32 tb, .float .f32 tc, .float .f32 tx, .float .f32 ty, .int .i64 dk, .float .f32 da, .float .f32 db, .float .f32 dc, .float .f32 dx, .float .f32 dy, .float .f32 l]) (fun w1 _ => by kernel_rfl) ?_
  simp only [Act.put, List.setIfInBounds_toArray, List.set_cons_succ, List.set_cons_zero]
  refine wpFree_nil (fun w3 hw3 hF => ?_)
  obtain ⟨_, s2, hs2, ho⟩ := hF
  obtain rfl : s' = s2 := by simpa using hs2
  have G3 := G1.own1 hw3 ho
  have OC := hid (OwnS.one ho)
  refine wpList_storeD rfl rfl rfl (cells := #[s', .int .i64 k, .int .i64 tk, .float .f32 ta, .float .f32 tb, .float .f32 tc, .float .f32 tx, .float .f32 ty, .int .i64 dk, .float .f32 da, .float .f32 db, .float .f32 dc, .float .f32 dx, .float .f32 dy, .float .f32 l]) rfl (G3.row m1) infoStr rfl (one_head OC.out rfl) (fun w4 KW => ?_)
  have RW := hid KW.row
  have L := hid (G3.fin0 KW)
  clear KW G3 G1 G F
  go_wp2
  exact bodyPost_ret (results_row1 rfl _ _ _ _ _ rfl RW.out Try.underlying48 rfl infoStr) rfl ⟨_, rfl, L.out.1, L.out.2⟩
set_option maxRecDepth 100000 in
set_option maxHeartbeats 4000000 in
theorem s_l03Step (B C g : Nat) (q : StS) (a : Nat) (w : World) (h : SpS w B C g q) (ok : q.Ok) (ha : fits .f32 a) :
    Calls Try.prog 76 #[.pointer (some ⟨g, 0, none⟩), .float .f32 a] w (OutSS B C g q a w) := by
  obtain ⟨s, lo, hi, R, O, g1, g2, g3, g4, g5⟩ := h
  rcases O with ⟨rfl, h0⟩ | ⟨b, o, cap, ds, rfl, hc, hm, hb, hb', hrow, hx⟩
  · have := ok.n1; omega
  obtain ⟨y, ey, fy, cy⟩ := hx q.j ok.j1
  have c0 := R.cell? 0
  have c1 := R.cell? 1
  have cb : w.cell? ⟨b, o + q.j, none⟩ = some (.float .f32 y) := (hrow.cell? (o + q.j)).trans ey
  have j1 := ok.j1
  have n2 := ok.n2
  have RR := hid R; have HROW := hid hrow; have HX := hid hx; have HY := hid ey; have HC := hid cy; have HM := hid hm; have OK := hid ok
  clear R hrow hx ey cy ok
  unfold maxLen at hm
  go_enter Try.func76, Try.ntmps76
  go_wp2_with fail
  refine wp_region_loose (fun _ _ _ => True) (by kernel_rfl) (by kernel_rfl) ?_
  repeat (first | (refine wpLoose_quiet rfl ?_; go_big_quiet_step (fail); refine wpQuiet_nil ?_) | (refine wpLoose_nilP rfl rfl rfl ?_; simp only [Act.put, List.setIfInBounds_toArray, List.set_cons_succ, List.set_cons_zero]))
  refine wpLoose_nil (fun m1 => ?_)
  go_wp2_with fail
  clear c0 c1 cb
  have HCY : Hid (can .f32 y = can .f32 (q.x q.j)) := by unfold Hid; rw [← HC.out, can_can]
  have HN := hid (fun r2 p r => @next_of q a r2 p r)
  go_region_with (go_at_call 58; first | ((with_reducible refine (s_StepAt3 q.ta q.tb q.tc q.tx q.ty y g 2 _ _ _ (RR.out.drewN _) (inTuneQ _ q) OK.out.ftx fy).mono ?_); rintro e w1 ⟨r1, rfl, hr1, fr1, hR1, hU1⟩; rw [st0_congr HCY.out, st1_congr HCY.out] at hR1; have R1 := hid (show Row w1 g 48 #[(.slice (some ⟨b, o, none⟩) q.n cap), .int .i64 (q.j : Nat), .int .i64 3, .float .f32 (q.ta), .float .f32 (q.tb), .float .f32 (q.tc), .float .f32 (st0 3 q.ta q.tb q.tc q.tx q.ty (q.x q.j)), .float .f32 (st1 3 q.ta q.tb q.tc q.tx q.ty (q.x q.j)), .int .i64 2, .float .f32 (q.da), .float .f32 (q.db), .float .f32 (q.dc), .float .f32 (q.dx), .float .f32 (q.dy), .float .f32 (q.l)] from by simpa using hR1); have HC1 : Hid (can .f32 r1 = can .f32 (y1S q)) := (hr1.trans ((outF_congr HCY.out).trans (can_outF _ _ _ _ _ _ _).symm)); have U1 := hid (chg_upd hU1); clear hR1 hr1 hU1) | ((with_reducible refine (s_StepAt2 q.da q.db q.dc q.dx q.dy r1 g 8 _ _ _ R1.out ⟨rfl, rfl, rfl, rfl, rfl, rfl⟩ OK.out.fdx fr1 (okF_y OK.out.d (.inr rfl))).mono ?_); rintro e w2 ⟨r2, rfl, hr2, fr2, hR2, hU2⟩; rw [st0_congr HC1.out, st1_congr HC1.out] at hR2; have R2 := hid (show Row w2 g 48 #[(.slice (some ⟨b, o, none⟩) q.n cap), .int .i64 (q.j : Nat), .int .i64 3, .float .f32 (q.ta), .float .f32 (q.tb), .float .f32 (q.tc), .float .f32 (st0 3 q.ta q.tb q.tc q.tx q.ty (q.x q.j)), .float .f32 (st1 3 q.ta q.tb q.tc q.tx q.ty (q.x q.j)), .int .i64 2, .float .f32 (q.da), .float .f32 (q.db), .float .f32 (q.dc), .float .f32 (st0 2 q.da q.db q.dc q.dx q.dy (y1S q)), .float .f32 (st1 2 q.da q.db q.dc q.dx q.dy (y1S q)), .float .f32 (q.l)] from by simpa using hR2); have HC2 : Hid (can .f32 r2 = y2S q) := (hr2.trans (outF_congr HC1.out)); have U2 := hid (chg_upd hU2); clear hR2 hr2 hU2))
  go_simp
  have c14 := R2.out.cell? 14
  have UU := hid (((Chg.of_le (le_drewN w (m1 + 1))).trans U1.out).trans U2.out)
  have OW : Hid (OwnS w2 lo hi (.slice (some ⟨b, o, none⟩) q.n cap) q.x q.n) := OwnS.chgS (.inr ⟨b, o, cap, ds, rfl, hc, HM.out, hb, hb', HROW.out, HX.out⟩) UU.out (fun i h1 h2 h3 => g5 (by have h3' : i = g := h3; subst h3'; exact ⟨h1, h2⟩))
  go_wp2_with fail
  refine wp_region_tail (fun _ _ v => v = .float .f32 (nextS q a)) 12 (by kernel_rfl) (by kernel_rfl) ?_; simp only [List.take_succ_cons, List.take_zero, List.drop_succ_cons, List.drop_zero]
  repeat (first | (with_reducible refine wpLoose_farith rfl rfl rfl rfl rfl ?_; intro r hr hf; simp only [Act.put, List.setIfInBounds_toArray, List.set_cons_succ, List.set_cons_zero]) | (refine wpLoose_quiet rfl ?_; go_big_quiet_step (fail); refine wpQuiet_nil ?_) | (refine wpLoose_nilP rfl rfl rfl ?_; simp only [Act.put, List.setIfInBounds_toArray, List.set_cons_succ, List.set_cons_zero]))
  refine wpLoose_any rfl (· = .float .f32 (nextS q a)) (fun m0 => ?_) ?_
  · go_simp
    refine (s_Kept _ _ hf.out).mono ?_
    rintro e w3 ⟨rfl, m2, rfl⟩
    exact ⟨_, rfl, by rw [HN.out _ _ _ HC2.out (Hid.out ‹Hid (can .f32 _ = fop .mul .f32 r2 q.l)›) hr.out], m0 + m2, by first | (go_simp; done) | (go_simp; rw [Nat.add_assoc])⟩
  · rintro v rfl
    simp only [Act.put, List.setIfInBounds_toArray, List.set_cons_succ, List.set_cons_zero]
    repeat (refine wpLoose_quiet rfl ?_; go_big_quiet_step (fail); refine wpQuiet_nil ?_)
    refine wpLoose_nil (fun m3 => ?_)
    go_wp2_with (go_at_call 97; ((with_reducible refine (s_l02Push lo hi _ q.x q.n q.j (nextS q a) g 0 _ _ _ (OW.out.le (le_drewN _ _)) (R2.out.drewN _) rfl rfl g5 j1 n2 (fits_nextS q a)).mono ?_); rintro e w4 ⟨o4, rfl, ho4, fo4, hR4, hO4, hU4⟩))
    go_ret
    refine ⟨y, rfl, HC.out, fy, ⟨_, lo, hi, by simpa [stepS] using hR4, hO4, g1, g2, g3, g4, g5⟩, ?_⟩
    refine ((UU.out.le (le_drewN _ _)).mono (fun i hi' => ?_)).trans (hU4.mono (fun i hi' => ?_))
    · have hi2 : i = g := hi'
      subst hi2; exact ⟨g1, g2⟩
    · rcases hi' with hi2 | hi2
      · subst hi2; exact ⟨g1, g2⟩
      · exact ⟨by omega, by omega⟩
end Go.Proofs.Ytmacednkpjfokaa

/- As FreeD, where one operation (with the index c) may write what all others leave as it is: it comes up but once. Nothing here names a program. -/
namespace Go.Fk
open Go Go.RowKit
section
variable (E0 E1 : Ext) (c : Nat) (Vc : World → Value → Prop) (P : Program) (ops : Array Oper) (md : Region.Mode) (W : World) (K : FuncId → Array Value → World → Value → Prop)
def preE (i : Nat) : Ext := if i = c then E0 else E1
def stepE (i : Nat) : Ext := if i = c then E1 else E0
def YieldsP (i : Nat) (o : Oper) (a : Act) (F : Facts) (V : World → Value → Prop) : Prop :=
  MonoT E1 V ∧ (i = c → V = Vc) ∧ ((Region.wanted o (yielded ops a.tmps) = true ∧ ∀ w, (preE E0 E1 c i).R W w → behind md o F w → insideT (stepE E0 E1 c i) P K w V ((execOp a.eval o).run P w)) ∨ (i ≠ c ∧ Region.wanted o (yielded ops a.tmps) = false ∧ ∀ w, E1.R W w → behind md o F w → V w undef))
def wpFreeP (Q : Act → World → Prop) : List Oper → Nat → Act → Facts → Prop
  | [], _, a, F => ∀ w, E1.R W w → (∀ e, F e w) → Q a w
  | o :: rest, k, a, F => ∃ V, YieldsP E0 E1 c Vc P ops md W K k o a F V ∧ ∀ v, met E1 W F (fun w => V w v) → wpFreeP Q rest (k + 1) (a.put o.dst v) (F.with k (fun w => V w v))
def anyFreeP (n : Nat) (L : Array Bool → Act → Facts → Prop) : Nat → Array Bool → Act → Facts → Prop
  | 0, listed, a, F => L listed a F
  | f + 1, listed, a, F => Region.ready md ops listed ≠ [] ∧
      ∀ i ∈ Region.ready md ops listed, i < n ∧ ∀ o, ops[i]? = some o → ∃ V, YieldsP E0 E1 c Vc P ops md W K i o a F V ∧ ∀ v, met E1 W F (fun w => V w v) → anyFreeP n L f (listed.setIfInBounds i true) (a.put o.dst v) (F.with i (fun w => V w v))
end
section
variable {E0 E1 : Ext} {c : Nat} {Vc : World → Value → Prop} {P : Program} {ops : Array Oper} {md : Region.Mode} {W : World} {K : FuncId → Array Value → World → Value → Prop}
theorem stepE_sub (hs : ∀ w w', E0.R w w' → E1.R w w') {i : Nat} {w w' : World} (h : (stepE E0 E1 c i).R w w') : E1.R w w' := by
  unfold stepE at h
  split at h
  · exact h
  · exact hs _ _ h
theorem YieldsP.some (hs : ∀ w w', E0.R w w' → E1.R w w') (hVc : ∀ w, E1.R W w → ∃ v w', E1.R w w' ∧ Vc w' v) {i : Nat} {o : Oper} {a : Act} {F : Facts} {V : World → Value → Prop} (hm : FMono E1 F) (hx : met E1 W F (fun _ => True)) (h : YieldsP E0 E1 c Vc P ops md W K i o a F V) : ∃ v, met E1 W F (fun w => V w v) := by
  obtain ⟨w, hw, hF, _⟩ := hx
  by_cases e : i = c
  · obtain ⟨v, w', hl, hv⟩ := hVc w hw
    exact ⟨v, w', E1.trans hw hl, hm w w' hl hF, by rw [h.2.1 e]; exact hv⟩
  · rcases h.2.2 with ⟨_, h⟩ | ⟨_, _, h⟩
    · obtain ⟨v, w', hl, hv⟩ := insideT_some (h w (by unfold preE; rw [if_neg e]; exact hw) (fun e _ _ => hF e.on))
      have hl' := stepE_sub hs hl
      exact ⟨v, w', E1.trans hw hl', hm w w' hl' hF, hv⟩
    · exact ⟨undef, w, hw, hF, h w hw (fun e _ _ => hF e.on)⟩
theorem YieldsP.same {i : Nat} {o : Oper} {a a' : Act} {F : Facts} {V : World → Value → Prop} (he : execOp a'.eval o = execOp a.eval o) (hw : Region.wanted o (yielded ops a'.tmps) = Region.wanted o (yielded ops a.tmps))
    (h : YieldsP E0 E1 c Vc P ops md W K i o a F V) : YieldsP E0 E1 c Vc P ops md W K i o a' F V := by
  unfold YieldsP at *; rw [he, hw]; exact h
theorem YieldsP.less {j : Nat} {o : Oper} {a : Act} {F : Facts} {i : Nat} {X : World → Prop} {V : World → Value → Prop} (hn : ∀ e ∈ o.after, Region.binds md e = true → e.on ≠ i) (h : YieldsP E0 E1 c Vc P ops md W K j o a (F.with i X) V) : YieldsP E0 E1 c Vc P ops md W K j o a F V := by
  have key : ∀ w, behind md o F w → behind md o (F.with i X) w := fun w hw e he hb => ⟨hw e he hb, fun h => absurd h (hn e he hb)⟩
  refine ⟨h.1, h.2.1, ?_⟩
  rcases h.2.2 with ⟨h1, h2⟩ | ⟨h0, h1, h2⟩
  · exact .inl ⟨h1, fun w hw hb => h2 w hw (key w hb)⟩
  · exact .inr ⟨h0, h1, fun w hw hb => h2 w hw (key w hb)⟩
theorem YieldsP.stronger {j : Nat} {o : Oper} {a : Act} {F F' : Facts} {V : World → Value → Prop} (hF : ∀ e w, F' e w → F e w) (h : YieldsP E0 E1 c Vc P ops md W K j o a F V) : YieldsP E0 E1 c Vc P ops md W K j o a F' V := by
  have key : ∀ w, behind md o F' w → behind md o F w := fun w hw e he hb => hF _ _ (hw e he hb)
  refine ⟨h.1, h.2.1, ?_⟩
  rcases h.2.2 with ⟨h1, h2⟩ | ⟨h0, h1, h2⟩
  · exact .inl ⟨h1, fun w hw hb => h2 w hw (key w hb)⟩
  · exact .inr ⟨h0, h1, fun w hw hb => h2 w hw (key w hb)⟩
theorem YieldsP.more {j : Nat} {o : Oper} {a : Act} {F : Facts} {i : Nat} {X : World → Prop} {V : World → Value → Prop} (h : YieldsP E0 E1 c Vc P ops md W K j o a F V) : YieldsP E0 E1 c Vc P ops md W K j o a (F.with i X) V := h.stronger (fun _ _ h => h.1)
theorem insideT_mono {E E' : Ext} (hE : ∀ w w', E.R w w' → E'.R w w') {V : World → Value → Prop} {w : World} {r : Result Next} (h : insideT E P K w V r) : insideT E' P K w V r := by
  cases r with
  | ok n w' =>
    cases n <;> simp only [insideT] at h ⊢
    case value u => exact ⟨hE _ _ h.1, h.2⟩
    case skip => exact ⟨hE _ _ h.1, h.2⟩
    case enter f args => exact ⟨hE _ _ h.1, h.2.1.mono (fun e w'' ⟨v, e1, e2, e3⟩ => ⟨v, e1, hE _ _ e2, e3⟩), h.2.2⟩
  | halt x w' => simp only [insideT] at h
theorem wpOp_yieldsP {i : Nat} {o : Oper} {a : Act} {w : World} {F : Facts} {V : World → Value → Prop} {next : Act → World → Prop} {Q' : Exit → Act → World → Prop} (ho : ops[i]? = some o) (hw1 : E1.R W w) (hw : (preE E0 E1 c i).R W w) (hF : ∀ e, F e w) (hg : YieldsP E0 E1 c Vc P ops md W K i o a F V)
    (hn : ∀ v w', (stepE E0 E1 c i).R w w' → V w' v → next (a.put o.dst v) w') : wpOp P ops Q' i next a w := by
  unfold wpOp
  simp only [ho]
  rcases hg.2.2 with ⟨hwant, hv⟩ | ⟨_, hwant, hv⟩
  · rw [if_pos hwant]
    left
    have h3 := hv w hw (fun e _ _ => hF e.on)
    unfold Oper.wp
    generalize (execOp a.eval o).run P w = r at h3
    cases r with
    | ok x w' =>
      cases x <;> simp only [insideT] at h3 <;> simp only [Oper.upon]
      case value u => exact hn u _ h3.1 h3.2
      case skip => exact hn undef _ h3.1 h3.2
      case enter f args =>
        refine h3.2.1.mono fun e w'' he => ?_
        obtain ⟨v, rfl, hl, hk⟩ := he
        exact hn v _ ((stepE E0 E1 c i).trans h3.1 hl) (h3.2.2 w'' v hk)
    | halt x w' => simp only [insideT] at h3
  · rw [if_neg (by simp [hwant])]
    exact hn undef _ ((stepE E0 E1 c i).refl w) (hv w hw1 (fun e _ _ => hF e.on))
theorem anyFreeP_sound (hs : ∀ w w', E0.R w w' → E1.R w w') {n g : Nat} {L : Array Bool → Act → Facts → Prop} {Q' : Exit → Act → World → Prop} (hL : ∀ listed a F w, E1.R W w → (∀ e, F e w) → L listed a F → wpAny P md ops Q' g listed a w) :
    ∀ (f : Nat) (listed : Array Bool) (a : Act) (F : Facts) (w : World), FMono E1 F → E1.R W w → (listed.getD c true = false → E0.R W w) → (∀ e, F e w) → anyFreeP E0 E1 c Vc P ops md W K n L f listed a F → wpAny P md ops Q' (f + g) listed a w := by
  intro f
  induction f with
  | zero => intro listed a F w _ hw _ hF h; rw [Nat.zero_add]; exact hL _ _ _ _ hw hF h
  | succ f ih =>
    intro listed a F w hm hw hph hF h
    rw [show f + 1 + g = (f + g) + 1 by omega]
    refine ⟨fun h0 => absurd h0 h.1, fun i hi => ?_⟩
    obtain ⟨hun, o, ho, _⟩ := mem_ready.1 hi
    obtain ⟨V, hg, hn⟩ := (h.2 i hi).2 o ho
    have hpre : (preE E0 E1 c i).R W w := by
      unfold preE
      split
      · next e => subst e; exact hph hun
      · exact hw
    refine wpOp_yieldsP ho hw hpre hF hg (fun v w' hl hv => ih _ _ _ _ (hm.with hg.1 i v) (E1.trans hw (stepE_sub hs hl)) (fun hc => ?_) (Facts.with_mk (hm w w' (stepE_sub hs hl) hF) hv) (hn v ⟨w', E1.trans hw (stepE_sub hs hl), hm w w' (stepE_sub hs hl) hF, hv⟩))
    by_cases e : i = c
    · subst e
      have hlt : i < listed.size := by
        apply Nat.lt_of_not_le
        intro hle
        simp [Array.getD, Nat.not_lt.2 hle] at hun
      simp [Array.getD, hlt] at hc
    · rw [getD_set_ne true e] at hc
      unfold stepE at hl
      rw [if_neg e] at hl
      exact E0.trans (hph hc) hl
theorem anyFreeP_weaken {n : Nat} {L : Array Bool → Act → Facts → Prop} (hLm : ∀ listed a F F', (∀ e w, F' e w → F e w) → L listed a F → L listed a F') :
    ∀ (f : Nat) (listed : Array Bool) (a : Act) (F F' : Facts), (∀ e w, F' e w → F e w) → anyFreeP E0 E1 c Vc P ops md W K n L f listed a F → anyFreeP E0 E1 c Vc P ops md W K n L f listed a F' := by
  intro f
  induction f with
  | zero => intro listed a F F' h hh; exact hLm _ _ _ _ h hh
  | succ f ih =>
    intro listed a F F' h hh
    refine ⟨hh.1, fun i hi => ⟨(hh.2 i hi).1, fun o ho => ?_⟩⟩
    obtain ⟨V, hg, hn⟩ := (hh.2 i hi).2 o ho
    exact ⟨V, hg.stronger h, fun v hv => ih _ _ _ _ (fun e w hw => ⟨h e w hw.1, hw.2⟩) (hn v (hv.weaken (fun w hw e => h e w (hw e))))⟩
theorem anyFreeP_first (hs : ∀ w w', E0.R w w' → E1.R w w') (hVc : ∀ w, E1.R W w → ∃ v w', E1.R w w' ∧ Vc w' v) {n i : Nat} {oi : Oper} {V : World → Value → Prop} {L : Array Bool → Act → Facts → Prop} (hi : ops[i]? = some oi) (hsel : ∀ (j : Nat) (o : Oper) cs b, ops[j]? = some o → o.op ≠ .select cs b)
    (hbound : ∀ listed i, HeadInv md ops n listed → i < n → listed.getD i true = false → ∀ j ∈ Region.ready md ops listed, j < n) (hin : i < n)
    (hdone : ∀ listed a F, L listed a F → ∀ j ∈ Region.ready md ops listed, n ≤ j) (hLm : ∀ listed a F F', (∀ e w, F' e w → F e w) → L listed a F → L listed a F') :
    ∀ (f : Nat) (listed : Array Bool) (a : Act) (F : Facts), HeadInv md ops n listed →
      (∀ j oj, ops[j]? = some oj → j ≠ i → listed.getD j true = false → (∀ e ∈ oj.after, Region.binds md e = true → e.on ≠ i) → oi.apart ops oj = true) →
      i ∈ Region.ready md ops listed → FMono E1 F → met E1 W F (fun _ => True) → YieldsP E0 E1 c Vc P ops md W K i oi a F V →
      (∀ v, met E1 W F (fun w => V w v) → anyFreeP E0 E1 c Vc P ops md W K n L f (listed.setIfInBounds i true) (a.put oi.dst v) (F.with i (fun w => V w v))) → anyFreeP E0 E1 c Vc P ops md W K n L (f + 1) listed a F := by
  intro f
  induction f with
  | zero =>
    intro listed a F inv _ hr hm hx hg H
    have hun := (mem_ready.1 hr).1
    refine ⟨fun h => (by rw [h] at hr; cases hr), fun j hj => ?_⟩
    have hjn := hbound listed i inv hin hun j hj
    refine ⟨hjn, fun o ho => ?_⟩
    by_cases hji : j = i
    · subst hji
      rw [hi] at ho; cases ho
      exact ⟨V, hg, H⟩
    · obtain ⟨v, hv⟩ := hg.some hs hVc hm hx
      have := hdone _ _ _ (H v hv) j (ready_mono hj hji)
      omega
  | succ f ih =>
    intro listed a F inv hfree hr hm hx hg H
    have hun := (mem_ready.1 hr).1
    refine ⟨fun h => (by rw [h] at hr; cases hr), fun j hj => ?_⟩
    have hjn := hbound listed i inv hin hun j hj
    refine ⟨hjn, fun o ho => ?_⟩
    by_cases hji : j = i
    · subst hji
      rw [hi] at ho; cases ho
      exact ⟨V, hg, H⟩
    · obtain ⟨hjun, oj, hoj, hall⟩ := mem_ready.1 hj
      rw [ho] at hoj; cases hoj
      have hnot : ∀ e ∈ o.after, Region.binds md e = true → e.on ≠ i := fun e he hb heq => by
        have h1 := hall e he hb
        rw [heq, getD_both hun] at h1
        cases h1
      have hap := hfree j o ho hji hjun hnot
      obtain ⟨a1, a2, a3⟩ := Oper.apart_spec hap
      have hsi := fun cs b => hsel i oi cs b hi
      have hsj := fun cs b => hsel j o cs b ho
      have hU : ∀ v : {v // met E1 W F (fun w => V w v)}, ∃ U, YieldsP E0 E1 c Vc P ops md W K j o (a.put oi.dst v.1) (F.with i (fun w => V w v.1)) U ∧ ∀ u, met E1 W (F.with i (fun w => V w v.1)) (fun w => U w u) →
          anyFreeP E0 E1 c Vc P ops md W K n L f ((listed.setIfInBounds i true).setIfInBounds j true) ((a.put oi.dst v.1).put o.dst u) ((F.with i (fun w => V w v.1)).with j (fun w => U w u)) :=
        fun v => ((H v.1 v.2).2 j (ready_mono hj hji)).2 o ho
      obtain ⟨U, hU⟩ := Classical.skolem.1 hU
      obtain ⟨v0, hv0⟩ := hg.some hs hVc hm hx
      have hone : ∀ v, YieldsP E0 E1 c Vc P ops md W K j o a F (U v) := fun v => ((hU v).1.same (execOp_put o hsj a oi.dst v.1 a1).symm (wanted_put o a oi.dst v.1 a1).symm).less hnot
      have hgood : YieldsP E0 E1 c Vc P ops md W K j o a F (fun w u => ∀ v, U v w u) := by
        refine ⟨fun u w w' hl h v => (hone v).1 u w w' hl (h v), fun e => ?_, ?_⟩
        · funext w u
          exact propext ⟨fun h => by have := h ⟨v0, hv0⟩; rw [(hone ⟨v0, hv0⟩).2.1 e] at this; exact this, fun h v => by rw [(hone v).2.1 e]; exact h⟩
        by_cases hw : Region.wanted o (yielded ops a.tmps) = true
        · refine .inl ⟨hw, fun w hw' hb => inside_allT ⟨⟨v0, hv0⟩, trivial⟩ (fun v => ?_)⟩
          rcases (hone v).2.2 with ⟨_, h3⟩ | ⟨_, h3, _⟩
          · exact h3 w hw' hb
          · rw [hw] at h3; cases h3
        · have hne : j ≠ c := by
            rcases (hone ⟨v0, hv0⟩).2.2 with ⟨h3, _⟩ | ⟨h3, _, _⟩
            · exact absurd h3 hw
            · exact h3
          refine .inr ⟨hne, by simpa using hw, fun w hw' hb v => ?_⟩
          rcases (hone v).2.2 with ⟨h3, _⟩ | ⟨_, _, h3⟩
          · exact absurd h3 hw
          · exact h3 w hw' hb
      refine ⟨_, hgood, ?_⟩
      intro u hu
      have hfree' : ∀ k ok, ops[k]? = some ok → k ≠ i → (listed.setIfInBounds j true).getD k true = false →
          (∀ e ∈ ok.after, Region.binds md e = true → e.on ≠ i) → oi.apart ops ok = true := fun k ok hk hki hun hno => by
        refine hfree k ok hk hki ?_ hno
        by_cases hjk : j = k
        · subst hjk; exact hjun
        · rw [getD_set_ne true hjk] at hun; exact hun
      have hx' : met E1 W (F.with j (fun w => ∀ v, U v w u)) (fun _ => True) := by
        obtain ⟨w, hw, hF, hv⟩ := hu
        exact ⟨w, hw, Facts.with_mk hF hv, trivial⟩
      refine ih (listed.setIfInBounds j true) (a.put o.dst u) (F.with j (fun w => ∀ v, U v w u)) (inv.set hj hjn) hfree' (ready_mono hr (Ne.symm hji)) (hm.with hgood.1 j u) hx' ((hg.same (execOp_put oi hsi a o.dst u a3) (wanted_put oi a o.dst u a3)).more) (fun v hv => ?_)
      rw [Array.setIfInBounds_comm _ _ hji, ← Act.put_comm a v u a2]
      obtain ⟨w, hw, hF, hVv⟩ := hv
      have hF' := Facts.with_of hF
      have mv : met E1 W F (fun w => V w v) := ⟨w, hw, hF'.1, hVv⟩
      exact anyFreeP_weaken hLm _ _ _ _ _ (fun e w' h' => ⟨⟨h'.1.1, h'.2⟩, fun he => h'.1.2 he ⟨v, mv⟩⟩) ((hU ⟨v, mv⟩).2 u ⟨w, hw, Facts.with_mk hF'.1 hVv, hF'.2 ⟨v, mv⟩⟩)

theorem anyFreeP_lex (hs : ∀ w w', E0.R w w' → E1.R w w') (hVc : ∀ w, E1.R W w → ∃ v w', E1.R w w' ∧ Vc w' v) {n g : Nat} {R : Act → World → Prop} (hsel : Region.noSelect ops = true)
    (hbound : ∀ listed i, HeadInv md ops n listed → i < n → listed.getD i true = false → ∀ j ∈ Region.ready md ops listed, j < n) :
    ∀ (l : List Oper) (k : Nat) (listed : Array Bool) (a : Act) (F : Facts), (∀ j, j < l.length → l[j]? = ops[k + j]?) → k + l.length = n → HeadInv md ops n listed →
    Region.lexHead md ops g l.length k listed = true → FMono E1 F → met E1 W F (fun _ => True) → wpFreeP E0 E1 c Vc P ops md W K R l k a F →
    anyFreeP E0 E1 c Vc P ops md W K n (fun listed' a' F' => Region.seqB md ops g n listed' = true ∧ ∀ w, E1.R W w → (∀ e, F' e w) → R a' w) l.length listed a F := by
  intro l
  induction l with
  | nil =>
    intro k listed a F _ hk _ hB _ _ h
    have : k = n := by simpa using hk
    subst this
    exact ⟨by simpa [Region.lexHead] using hB, h⟩
  | cons o l ih =>
    intro k listed a F hl hk inv hB hm hx h
    have h0 : ops[k]? = some o := by simpa using (hl 0 (by simp)).symm
    simp only [List.length_cons, Region.lexHead, Bool.and_eq_true] at hB
    obtain ⟨⟨hr, hf⟩, hB'⟩ := hB
    have hkn : k < n := by simp only [List.length_cons] at hk; omega
    have hr' : k ∈ Region.ready md ops listed := by simpa using hr
    obtain ⟨V, hg, hnext⟩ := h
    exact anyFreeP_first hs hVc h0 (Region.noSelect_spec hsel) hbound hkn (fun listed' a' F' hL => seqB_ready hL.1) (fun _ _ _ _ hF hL => ⟨hL.1, fun w hw h' => hL.2 w hw (fun e => hF e w (h' e))⟩) l.length listed a F inv (Region.free_spec h0 hf) hr' hm hx hg
      (fun v hv => ih (k + 1) _ _ _ (fun j hj => by have := hl (j + 1) (by simp; omega); simpa [Nat.add_assoc, Nat.add_comm 1 j] using this) (by simp only [List.length_cons] at hk; omega) (inv.set hr' hkn) hB' (hm.with hg.1 k v)
        (by obtain ⟨w, hw, hF, hv'⟩ := hv; exact ⟨w, hw, Facts.with_mk hF hv', trivial⟩) (hnext v hv))

/-- A REGION THAT DRAWS ITS ORDER, one of whose operations writes. -/
theorem region_freeP (hs : ∀ w w', E0.R w w' → E1.R w w') (K : FuncId → Array Value → World → Value → Prop) {id : Nat} {Q : Exit → Act → World → Prop} {a : Act} {w : World} {l : List Oper} (hVc : ∀ w', E1.R (w.drewN 1) w' → ∃ v w'', E1.R w' w'' ∧ Vc w'' v) (hm : P.follows .mixedOrders = true)
    (hB : (Region.noSelect l.toArray && Region.lexHead .any l.toArray 0 l.length 0 (Array.replicate l.toArray.size false)) = true)
    (h : wpFreeP E0 E1 c Vc P l.toArray .any (w.drewN 1) K (fun a' w' => Q .normal a' w') l 0 a noFacts) : (Code.region id l.toArray true).wp P Q a w := by
  simp only [Bool.and_eq_true] at hB
  obtain ⟨hsel, hlex⟩ := hB
  have hbound : ∀ listed i, HeadInv .any l.toArray l.length listed → i < l.length → listed.getD i true = false → ∀ j ∈ Region.ready .any l.toArray listed, j < l.length := by
    intro listed i _ _ _ j hj
    obtain ⟨_, oj, hoj, _⟩ := mem_ready.1 hj
    simpa using (Array.getElem?_eq_some_iff.1 hoj).1
  have H := anyFreeP_lex (md := .any) (g := 0) hs hVc hsel hbound l 0 _ a noFacts (fun j hj => by simp) (by simp) (head_start _ l.length) hlex (fun _ _ _ h => h) ⟨w.drewN 1, E1.refl _, fun _ => trivial, trivial⟩ h
  refine wp_region_any hm ?_
  have := anyFreeP_sound (Q' := Q) (W := w.drewN 1) (g := 0) hs (fun listed a' F w' hw' hF hL => ⟨by simpa [Region.seqB] using hL.1, hL.2 w' hw' hF⟩) _ _ _ _ _ (fun _ _ _ h => h) (E1.refl _) (fun _ => E0.refl _) (fun _ => trivial) H
  rw [Nat.add_zero] at this
  exact this
end
end Go.Fk

/- Regions with a call that writes: laws of single operations. Nothing here names a program. -/
namespace Go.Fk
open Go Go.RowKit
section
variable {E0 E1 : Ext} {c : Nat} {Vc : World → Value → Prop} {P : Program} {ops : Array Oper} {W : World} {K : FuncId → Array Value → World → Value → Prop} {Q : Act → World → Prop} {F : Facts} {k : Nat} {o : Oper} {rest : List Oper} {a : Act}
theorem wpFreeP_weaken : ∀ (l : List Oper) (k : Nat) (a : Act) (F F' : Facts), (∀ e w, F' e w → F e w) → wpFreeP E0 E1 c Vc P ops .any W K Q l k a F → wpFreeP E0 E1 c Vc P ops .any W K Q l k a F' := by
  intro l
  induction l with
  | nil => intro k a F F' h hh w hw hF; exact hh w hw (fun e => h e w (hF e))
  | cons o l ih =>
    intro k a F F' h hh
    obtain ⟨V, hg, hn⟩ := hh
    exact ⟨V, hg.stronger h, fun v hv => ih _ _ _ _ (fun e w hw => ⟨h e w hw.1, hw.2⟩) (hn v (hv.weaken (fun w hw e => h e w (hw e))))⟩
theorem wpFreeP_nil (h : ∀ w, E1.R W w → (∀ e, F e w) → Q a w) : wpFreeP E0 E1 c Vc P ops .any W K Q [] k a F := h
theorem wpFreeP_some (hk : k ≠ c) (hg : o.guard = none) (V : Value → Prop) (hr : ∀ w, E1.R W w → ∃ v n, (execOp a.eval o).run P w = .ok (.value v) (w.drewN n) ∧ V v)
    (h : ∀ v, V v → wpFreeP E0 E1 c Vc P ops .any W K Q rest (k + 1) (a.put o.dst v) (F.with k (fun _ => True))) : wpFreeP E0 E1 c Vc P ops .any W K Q (o :: rest) k a F := by
  refine ⟨fun _ u => V u, ⟨fun _ _ _ _ h => h, fun e => absurd e hk, .inl ⟨by simp [Region.wanted, hg], fun w hw _ => ?_⟩⟩, fun u hu => ?_⟩
  · obtain ⟨v, n, hrun, hv⟩ := hr w (by unfold preE at hw; rw [if_neg hk] at hw; exact hw)
    rw [hrun]; exact ⟨(stepE E0 E1 c k).of_le (le_drewN w n), hv⟩
  · obtain ⟨w, _, _, hv⟩ := hu
    exact wpFreeP_weaken _ _ _ _ _ (fun e w h => ⟨h.1, fun _ => trivial⟩) (h u hv)
theorem wpFreeP_one (hk : k ≠ c) (hg : o.guard = none) (v : Value) (hr : ∀ w, E1.R W w → (execOp a.eval o).run P w = .ok (.value v) w)
    (h : wpFreeP E0 E1 c Vc P ops .any W K Q rest (k + 1) (a.put o.dst v) (F.with k (fun _ => True))) : wpFreeP E0 E1 c Vc P ops .any W K Q (o :: rest) k a F :=
  wpFreeP_some hk hg (· = v) (fun w hw => ⟨v, 0, by rw [hr w hw]; rfl, rfl⟩) (by rintro u rfl; exact h)
theorem wpFreeP_quiet (hk : k ≠ c) (hnc : simple o.op = true) (h : wpQuiet P ops (fun _ => True) (fun a' => wpFreeP E0 E1 c Vc P ops .any W K Q rest (k + 1) a' (F.with k (fun _ => True))) [o] a) : wpFreeP E0 E1 c Vc P ops .any W K Q (o :: rest) k a F := by
  simp only [wpQuiet] at h
  by_cases hw : Region.wanted o (yielded ops a.tmps) = true
  · rw [if_pos hw] at h
    obtain ⟨v, h1, h2⟩ := h
    refine ⟨fun _ u => u = v, ⟨fun _ _ _ _ h => h, fun e => absurd e hk, .inl ⟨hw, fun w hw' _ => ?_⟩⟩, fun u hu => ?_⟩
    · have h3 := h1 w trivial
      unfold Oper.quietAt at h3
      generalize hrun : (execOp a.eval o).run P w = r at h3
      cases r with
      | ok n w' =>
        cases n <;> simp only [Oper.quietUpon] at h3 <;> simp only [insideT]
        case value u => exact ⟨by rw [h3.1]; exact (stepE E0 E1 c k).refl w, h3.2⟩
        case skip => exact ⟨by rw [h3.1]; exact (stepE E0 E1 c k).refl w, h3.2.symm⟩
        case enter f args => exact (noEnter hnc hrun).elim
      | halt x w' => simp only [Oper.quietUpon] at h3
    · obtain ⟨w, _, _, rfl⟩ := hu
      exact wpFreeP_weaken _ _ _ _ _ (fun e w h => ⟨h.1, fun _ => trivial⟩) h2
  · rw [if_neg hw] at h
    refine ⟨fun _ u => u = undef, ⟨fun _ _ _ _ h => h, fun e => absurd e hk, .inr ⟨hk, by simpa using hw, fun _ _ _ => rfl⟩⟩, fun u hu => ?_⟩
    obtain ⟨w, _, _, rfl⟩ := hu
    exact wpFreeP_weaken _ _ _ _ _ (fun e w h => ⟨h.1, fun _ => trivial⟩) h
theorem wpFreeP_farith (hk : k ≠ c) (hg : o.guard = none) {op : BinOp} {t t' : TypeId} {x y : Operand} (hop : o.op = Op.binOp op t x y t') (ho : arith op = true)
    {fk : FloatKind} {p q : Nat} (hx : a.eval x = .float fk p) (hy : a.eval y = .float fk q)
    (h : ∀ r, Hid (can fk r = fop op fk p q) → Hid (fits fk r) → wpFreeP E0 E1 c Vc P ops .any W K Q rest (k + 1) (a.put o.dst (.float fk r)) (F.with k (fun _ => True))) : wpFreeP E0 E1 c Vc P ops .any W K Q (o :: rest) k a F := by
  refine wpFreeP_some hk hg (fun v => ∃ r, v = .float fk r ∧ can fk r = fop op fk p q ∧ fits fk r) (fun w _ => ?_) ?_
  · obtain ⟨r, n, hrun, hr, hf⟩ := run_farith (P := P) w op ho t fk p q
    have he := eqGuard_float (P := P) w op t x y fk fk p q
    refine ⟨.float fk r, n, ?_, r, rfl, hr, hf⟩
    simp [execOp, hop, hx, hy, he, hrun, Result.andThen]
  · rintro v ⟨r, rfl, h1, h2⟩
    exact h r h1 h2
theorem wpFreeP_call (hk : k = c) (hg : o.guard = none) (hm : MonoT E1 Vc) (h1 : ∀ w, E0.R W w → insideT E1 P K w Vc ((execOp a.eval o).run P w))
    (h2 : ∀ v, (∃ w, E1.R W w ∧ Vc w v) → wpFreeP E0 E1 c Vc P ops .any W K Q rest (k + 1) (a.put o.dst v) (F.with k (fun w => Vc w v))) : wpFreeP E0 E1 c Vc P ops .any W K Q (o :: rest) k a F := by
  refine ⟨Vc, ⟨hm, fun _ => rfl, .inl ⟨by simp [Region.wanted, hg], fun w hw _ => ?_⟩⟩, fun v hv => h2 v (by obtain ⟨w, hw, _, h⟩ := hv; exact ⟨w, hw, h⟩)⟩
  unfold preE at hw
  rw [if_pos hk] at hw
  unfold stepE
  rw [if_pos hk]
  exact h1 w hw
/-- A REGION WITH FORCED LAST OPERATIONS (from number n on), one of whose first ones writes. -/
theorem region_tailP (hs : ∀ w w', E0.R w w' → E1.R w w') (K : FuncId → Array Value → World → Value → Prop) {id : Nat} {Q : Exit → Act → World → Prop} {a : Act} {w : World} {l : List Oper} (n : Nat) (hVc : ∀ w', E1.R (w.drewN 1) w' → ∃ v w'', E1.R w' w'' ∧ Vc w'' v) (hm : P.follows .mixedOrders = true) (hB : Region.lexTailB .any l.toArray n = true)
    (h : wpFreeP E0 E1 c Vc P l.toArray .any (w.drewN 1) K (fun a' w' => wpList P l.toArray Q (l.drop n) a' w') (l.take n) 0 a noFacts) : (Code.region id l.toArray true).wp P Q a w := by
  simp only [Region.lexTailB, Bool.and_eq_true, decide_eq_true_eq] at hB
  obtain ⟨⟨⟨⟨hsel, hn⟩, hs'⟩, hc⟩, hlex⟩ := hB
  have hn' : n < l.length := by simpa using hn
  have htl : (l.take n).length = n := by simp; omega
  have hdl : (l.drop n).length = l.toArray.size - n := by simp
  have hbound : ∀ listed i, HeadInv .any l.toArray n listed → i < n → listed.getD i true = false → ∀ j ∈ Region.ready .any l.toArray listed, j < n := by
    intro listed i inv hi hun j hj
    rcases Nat.lt_or_ge j n with h | h
    · exact h
    · exact absurd hj (tail_waits hs' hc hn inv _ i rfl hi hun j h)
  have H := anyFreeP_lex (md := .any) (g := l.toArray.size - n) hs hVc hsel hbound (l.take n) 0 _ a noFacts (fun j hj => by
    have hj' : j < n := by rw [htl] at hj; exact hj
    simp [hj']) (by simpa using htl) (head_start _ n) (by rw [htl]; exact hlex) (fun _ _ _ h => h) ⟨w.drewN 1, E1.refl _, fun _ => trivial, trivial⟩ h
  refine wp_region_any hm ?_
  have := anyFreeP_sound (Q' := Q) (W := w.drewN 1) (g := l.toArray.size - n) hs (fun listed a' F w' hw' hF hL => by
    have := wpAny_of_seq (md := .any) (Q' := Q) (l.drop n) n listed a' w' (fun j => by simp [List.getElem?_drop]) (by rw [hdl]; exact hL.1) (hL.2 w' hw' hF)
    rwa [hdl] at this) _ _ _ _ _ (fun _ _ _ h => h) (E1.refl _) (fun _ => E0.refl _) (fun _ => trivial) H
  rw [htl, show n + (l.toArray.size - n) = l.toArray.size by omega] at this
  exact this
end
/-- What may turn: before a call has run, all is as Pre says; behind it, as Post says. -/
def altE (S : Nat → Prop) (Pre Post : World → Prop) (h1 : ∀ w w', le w w' → Pre w → Pre w') (h2 : ∀ w w', le w w' → Post w → Post w') : Ext where
  R w w' := Chg S w w' ∧ (Post w → Post w') ∧ (Pre w ∨ Post w → Pre w' ∨ Post w')
  refl w := ⟨Chg.refl _ w, id, id⟩
  trans := by
    rintro a b c ⟨p1, p2, p3⟩ ⟨q1, q2, q3⟩
    exact ⟨p1.trans q1, fun h => q2 (p2 h), fun h => q3 (p3 h)⟩
  of_le := by
    intro a b h
    exact ⟨Chg.of_le h, h2 a b h, fun e => e.elim (fun x => .inl (h1 a b h x)) (fun x => .inr (h2 a b h x))⟩
section
variable {E0 E1 : Ext} {c : Nat} {Vc : World → Value → Prop} {P : Program} {ops : Array Oper} {W : World} {K : FuncId → Array Value → World → Value → Prop} {Q : Act → World → Prop} {F : Facts} {k : Nat} {o : Oper} {rest : List Oper} {a : Act}
/-- A cell that holds the same before and behind. -/
theorem wpFreeP_cellA (hk : k ≠ c) (hg : o.guard = none) {ty : TypeId} {x : Operand} (hop : o.op = .load ty x) {ad : Addr} (hx : a.eval x = .pointer (some ad)) {v : Value} (hv : ∀ w, E1.R W w → w.cell? ad = some v) (hu : ∀ w, (isAgg ty).run P w = .ok false w)
    (h : wpFreeP E0 E1 c Vc P ops .any W K Q rest (k + 1) (a.put o.dst v) (F.with k (fun _ => True))) : wpFreeP E0 E1 c Vc P ops .any W K Q (o :: rest) k a F := by
  refine wpFreeP_one hk hg v (fun w hw => ?_) h
  have hl : (Instr.loadAt ty (.pointer (some ad))).run P w = .ok v w := by
    simp [Instr.loadAt, Instr.sureAddr, loadVar, hu, hv w hw]
  simp [execOp, hop, hx, hl, Result.andThen]
/-- A call that only reads. -/
theorem wpFreeP_callQ (hk : k ≠ c) (hg : o.guard = none) {f : FuncId} {xs : Array Operand} {ts : Array TypeId} (hop : o.op = Op.call { callee := Callee.value (Operand.func f), args := xs, argTypes := ts }) {fn : Func} (hf : P.funcs[f]? = some fn)
    (hb : fn.body.isNone = false) (hn : (fn.name == "runtime.NumGoroutine") = false) {args : Array Value} (ha : xs.map a.eval = args) (V : Value → Prop)
    (h1 : ∀ w, E1.R W w → Calls P f args w (fun e w' => ∃ v, e = .returned v ∧ le w w' ∧ K f args w' v ∧ V v)) (hK : ∀ w v, K f args w v → V v)
    (h : ∀ v, V v → wpFreeP E0 E1 c Vc P ops .any W K Q rest (k + 1) (a.put o.dst v) (F.with k (fun _ => True))) : wpFreeP E0 E1 c Vc P ops .any W K Q (o :: rest) k a F := by
  refine ⟨fun _ u => V u, ⟨fun _ _ _ _ h => h, fun e => absurd e hk, .inl ⟨by simp [Region.wanted, hg], fun w hw _ => ?_⟩⟩, fun u hu => ?_⟩
  · rw [run_enter hop hf hb hn ha]
    unfold preE at hw
    rw [if_neg hk] at hw
    refine ⟨(stepE E0 E1 c k).refl w, (h1 w hw).mono ?_, fun w'' v hk => hK w'' v hk⟩
    rintro e w' ⟨v, rfl, hl, hk', _⟩
    exact ⟨v, rfl, (stepE E0 E1 c k).of_le hl, hk'⟩
  · obtain ⟨w, _, _, hv⟩ := hu
    exact wpFreeP_weaken _ _ _ _ _ (fun e w h => ⟨h.1, fun _ => trivial⟩) (h u hv)
/-- The call that writes. -/
theorem wpFreeP_callC (hk : k = c) (hg : o.guard = none) {f : FuncId} {xs : Array Operand} {ts : Array TypeId} (hop : o.op = Op.call { callee := Callee.value (Operand.func f), args := xs, argTypes := ts }) {fn : Func} (hf : P.funcs[f]? = some fn)
    (hb : fn.body.isNone = false) (hn : (fn.name == "runtime.NumGoroutine") = false) {args : Array Value} (ha : xs.map a.eval = args) (hm : MonoT E1 Vc)
    (h1 : ∀ w, E0.R W w → Calls P f args w (fun e w' => ∃ v, e = .returned v ∧ E1.R w w' ∧ K f args w' v)) (hK : ∀ w v, K f args w v → Vc w v)
    (h2 : ∀ v, (∃ w, E1.R W w ∧ Vc w v) → wpFreeP E0 E1 c Vc P ops .any W K Q rest (k + 1) (a.put o.dst v) (F.with k (fun w => Vc w v))) : wpFreeP E0 E1 c Vc P ops .any W K Q (o :: rest) k a F := by
  refine wpFreeP_call hk hg hm (fun w hw => ?_) h2
  rw [run_enter hop hf hb hn ha]
  exact ⟨E1.refl w, h1 w hw, fun w'' v hk => hK w'' v hk⟩
end
end Go.Fk

/- Delays: '(*delay).come', 'newDelay'. -/
namespace Go.Fk
open Go Go.RowKit
/-- A ring's samples behind a further one that is kept. -/
def comeX (x : Nat → Nat) (j a : Nat) : Nat → Nat := pushX x j (kept a)
theorem loud_int {x : Nat → Nat} {n j a : Nat} (hj : j < n) : ((loudN x n : Nat) : Int) + (((loudB (kept a) : Nat) : Int) - ((loudB (x j) : Nat) : Int)) = ((loudN (comeX x j a) n : Nat) : Int) := by
  have := loudN_push (x := x) (a := kept a) hj
  unfold comeX; omega
theorem own_form {w : World} {lo hi : Nat} {s : Value} {x : Nat → Nat} {n : Nat} (h : OwnS w lo hi s x n) (hn : 1 ≤ n) : ∃ b o cap, s = .slice (some ⟨b, o, none⟩) n cap ∧ n ≤ cap ∧ cap ≤ maxLen := by
  rcases h with ⟨_, h⟩ | ⟨b, o, cap, cs, h1, h2, h3, _⟩
  · omega
  · exact ⟨b, o, cap, h1, h2, h3⟩
theorem loudB_le (a : Nat) : loudB a ≤ 1 := by unfold loudB; split <;> omega
theorem loudB_congr {a b : Nat} (h : can .f32 a = can .f32 b) : loudB a = loudB b := by rw [← loudB_can a, h, loudB_can]
end Go.Fk
namespace Go.Proofs.Ytmacednkpjfokaa
open Go.RowKit Go.Fk
theorem i_loudness (x : Nat) (w : World) : Calls Try.prog 107 #[.float .f32 x] w fun e w' => e = .returned (.int .i64 (loudB x : Nat)) ∧ w = w' := by
  cases h : zeroF x
  · have HZ : Hid (loudB x = 1) := by unfold Hid loudB; rw [if_neg (by rw [h]; decide)]
    unfold zeroF at h
    have h2 : (FloatKind.f32.format.order x 0 != some .eq) = !(FloatKind.f32.format.order x 0 == some .eq) := rfl
    rw [h] at h2
    replace h2 := h2.trans (show _ = true from rfl)
    go_enter Try.func107, Try.ntmps107
    go_wp2
    go_ret
    exact ⟨by rw [HZ.out]; rfl, rfl⟩
  · have HZ : Hid (loudB x = 0) := by unfold Hid loudB; rw [if_pos h]
    unfold zeroF at h
    have h2 : (FloatKind.f32.format.order x 0 != some .eq) = !(FloatKind.f32.format.order x 0 == some .eq) := rfl
    rw [h] at h2
    replace h2 := h2.trans (show _ = false from rfl)
    go_enter Try.func107, Try.ntmps107
    go_wp2
    go_ret
    exact ⟨by rw [HZ.out]; rfl, rfl⟩
def loudK (_ : FuncId) (args : Array Value) (v : Value) : Prop := ∃ p, args = #[.float .f32 p] ∧ v = .int .i64 (loudB p : Nat)
theorem loudK_v {f : FuncId} {p : Nat} {v : Value} (h : loudK f #[.float .f32 p] v) : v = .int .i64 (loudB p : Nat) := by
  obtain ⟨p', h, rfl⟩ := h
  simp at h
  subst h
  rfl
theorem loud_call {p N : Nat} {w : World} : Calls Try.prog 107 #[.float .f32 p] (w.drewN N) fun e w'' => ∃ u, e = .returned u ∧ loudK 107 #[.float .f32 p] u ∧ ∃ m, w'' = w.drewN m :=
  (i_loudness p (w.drewN N)).mono fun _ _ ⟨he, hw⟩ => ⟨_, he, ⟨p, rfl, rfl⟩, N, hw.symm⟩
theorem kindN : ∀ w : World, (isAgg 3).run Try.prog w = .ok false w := fun w => by kernel_rfl
set_option maxRecDepth 100000 in
set_option maxHeartbeats 4000000 in
theorem i_come (lo hi : Nat) (s : Value) (x : Nat → Nat) (n j a g f : Nat) (t : TypeId) (cs : Array Value) (w : World) (hs : OwnS w lo hi s x n) (hr : Row w g t cs) (e0 : cs[f]? = some s) (e1 : cs[f + 1]? = some (.int .i64 j)) (e2 : cs[f + 2]? = some (.int .i64 (loudN x n : Nat))) (hg : ¬ (lo ≤ g ∧ g < hi)) (hj : j < n) (hn : n ≤ 1024) (ha : fits .f32 a) :
    Calls Try.prog 101 #[.pointer (some ⟨g, f, none⟩), .float .f32 a] w fun e w' => (∃ v, e = .returned v) ∧ Row w' g t ((cs.setIfInBounds (f + 1) (.int .i64 (((j + 1) % n : Nat) : Int))).setIfInBounds (f + 2) (.int .i64 (loudN (comeX x j a) n : Nat))) ∧ OwnS w' lo hi s (comeX x j a) n ∧ Chg (fun i => i = g ∨ lo ≤ i ∧ i < hi) w w' := by
  have hlow : ∀ w w' : World, le w w' → (Row w g t cs ∧ OwnS w lo hi s x n) → (Row w' g t cs ∧ OwnS w' lo hi s x n) := fun w w' h e => ⟨e.1.le h, e.2.le h⟩
  have hlow2 : ∀ w w' : World, le w w' → (Row w g t (cs.setIfInBounds (f + 1) (.int .i64 (((j + 1) % n : Nat) : Int))) ∧ OwnS w lo hi s (comeX x j a) n) → (Row w' g t (cs.setIfInBounds (f + 1) (.int .i64 (((j + 1) % n : Nat) : Int))) ∧ OwnS w' lo hi s (comeX x j a) n) := fun w w' h e => ⟨e.1.le h, e.2.le h⟩
  have HK := hid (fun w' => i_kept a w' ha)
  have HP := hid (fun (w' : World) (hl : le w w') => i_push lo hi s x n j (kept a) g f t cs w' (hs.le hl) (hr.le hl) e0 e1 hg hj hn (fits_kept ha))
  have HPRE := hid (And.intro hr hs)
  have h2 : ∀ w' : World, (Row w' g t cs ∧ OwnS w' lo hi s x n) ∨ (Row w' g t (cs.setIfInBounds (f + 1) (.int .i64 (((j + 1) % n : Nat) : Int))) ∧ OwnS w' lo hi s (comeX x j a) n) → w'.cell? ⟨g, f + 2, none⟩ = some (.int .i64 (loudN x n : Nat)) := fun w' h => by
    rcases h with h | h
    · exact (h.1.cell? (f + 2)).trans e2
    · exact (h.1.cell? (f + 2)).trans (by rw [Array.getElem?_setIfInBounds_ne (by omega)]; exact e2)
  have H2 := hid h2
  obtain ⟨y0, hy0⟩ : ∃ y, fits .f32 y ∧ can .f32 y = x j := by
    rcases hs with ⟨_, h⟩ | ⟨b, o, cap, ds, _, _, _, _, _, _, hx⟩
    · omega
    · obtain ⟨y, _, f1, c1⟩ := hx j hj; exact ⟨y, f1, c1⟩
  have HY0 := hid hy0
  have l1 : loudN x n ≤ 1024 := Nat.le_trans (loudN_le _ _) hn
  have l2 := loudB_le (kept a)
  have l3 := loudB_le (x j)
  have LI := hid (loud_int (x := x) (a := a) hj)
  clear hr hs e0 e1 e2 h2 hy0
  go_enter Try.func101, Try.ntmps101
  go_wp2_with (go_at_call 108; ((with_reducible refine (HK.out _).mono ?_); rintro e w1 ⟨rfl, rfl⟩))
  refine region_tailP (E0 := leX) (E1 := altE (fun i => i = g ∨ lo ≤ i ∧ i < hi) _ _ hlow hlow2) (c := 10) (Vc := fun wa v => ∃ o, v = .float .f32 o ∧ can .f32 o = x j ∧ fits .f32 o ∧ Row wa g t (cs.setIfInBounds (f + 1) (.int .i64 (((j + 1) % n : Nat) : Int))) ∧ OwnS wa lo hi s (comeX x j a) n) (fun _ _ h => (altE _ _ _ hlow hlow2).of_le h) (fun _ args wa v => (∀ o, args = #[.float .f32 o] → v = .int .i64 (loudB o : Nat)) ∧ (args.size = 2 → ∃ o, v = .float .f32 o ∧ can .f32 o = x j ∧ fits .f32 o ∧ Row wa g t (cs.setIfInBounds (f + 1) (.int .i64 (((j + 1) % n : Nat) : Int))) ∧ OwnS wa lo hi s (comeX x j a) n)) 16 (fun wa hwa => ?_) (by kernel_rfl) (by kernel_rfl) ?_
  · rcases hwa.2.2 (.inl (hlow _ _ (le_drewN w 1) HPRE.out)) with h | h
    · obtain ⟨h3, h4⟩ := h
      have hp := i_push lo hi s x n j (kept a) g f t cs wa h4 h3
      rcases h4 with ⟨_, h0⟩ | ⟨b, o, cap, ds, rfl, hc, hm, hb, hb', hrow, hx⟩
      · omega
      have hjs : o + j < ds.size := by obtain ⟨y, e, _⟩ := hx j hj; exact (Array.getElem?_eq_some_iff.1 e).1
      have hne : b ≠ g := fun e => hg (e ▸ ⟨hb, hb'⟩)
      refine ⟨.float .f32 y0, (wa.setCell ⟨b, o + j, none⟩ (.float .f32 (kept a))).setCell ⟨g, f + 1, none⟩ (.int .i64 (((j + 1) % n : Nat) : Int)), ?_, y0, rfl, HY0.out.2, HY0.out.1, (h3.other _ _ (by simp; omega)).set _ _, own_set j (kept a) ((hrow.set _ _).other _ _ (by simp; exact hne)) hc hm hb hb' hjs (fits_kept ha) hx⟩
      have hpost : Row ((wa.setCell ⟨b, o + j, none⟩ (.float .f32 (kept a))).setCell ⟨g, f + 1, none⟩ (.int .i64 (((j + 1) % n : Nat) : Int))) g t (cs.setIfInBounds (f + 1) (.int .i64 (((j + 1) % n : Nat) : Int))) ∧ OwnS ((wa.setCell ⟨b, o + j, none⟩ (.float .f32 (kept a))).setCell ⟨g, f + 1, none⟩ (.int .i64 (((j + 1) % n : Nat) : Int))) lo hi (.slice (some ⟨b, o, none⟩) n cap) (comeX x j a) n := ⟨(h3.other _ _ (by simp; omega)).set _ _, own_set j (kept a) ((hrow.set _ _).other _ _ (by simp; exact hne)) hc hm hb hb' hjs (fits_kept ha) hx⟩
      exact ⟨(Chg.setCell (S := fun i => i = g ∨ lo ≤ i ∧ i < hi) (Chg.refl _ wa) (.inr ⟨hb, hb'⟩) _).setCell (.inl rfl) _, fun _ => hpost, fun _ => .inr hpost⟩
    · exact ⟨.float .f32 y0, wa, (altE _ _ _ hlow hlow2).refl wa, y0, rfl, HY0.out.2, HY0.out.1, h.1, h.2⟩
  simp only [List.take_succ_cons, List.take_zero, List.drop_succ_cons, List.drop_zero]
  refine wpFreeP_one (by decide) rfl (.pointer (some ⟨g, f, none⟩)) (fun w1 _ => by kernel_rfl) ?_
  simp only [Act.put, List.setIfInBounds_toArray, List.set_cons_succ, List.set_cons_zero]
  refine wpFreeP_one (by decide) rfl (.pointer (some ⟨g, f, none⟩)) (fun w1 _ => by kernel_rfl) ?_
  simp only [Act.put, List.setIfInBounds_toArray, List.set_cons_succ, List.set_cons_zero]
  refine wpFreeP_one (by decide) rfl (.pointer (some ⟨g, f + 2, none⟩)) (fun w1 _ => by kernel_rfl) ?_
  simp only [Act.put, List.setIfInBounds_toArray, List.set_cons_succ, List.set_cons_zero]
  refine wpFreeP_cellA (by decide) rfl rfl rfl (fun w1 h1 => H2.out w1 (h1.2.2 (.inl (hlow _ _ (le_drewN w 1) HPRE.out)))) kindN ?_
  simp only [Act.put, List.setIfInBounds_toArray, List.set_cons_succ, List.set_cons_zero]
  refine wpFreeP_one (by decide) rfl (.float .f32 (kept a)) (fun w1 _ => by kernel_rfl) ?_
  simp only [Act.put, List.setIfInBounds_toArray, List.set_cons_succ, List.set_cons_zero]
  refine wpFreeP_callQ (by decide) rfl rfl Try.func107 (by kernel_rfl) (by kernel_rfl) (args := #[.float .f32 (kept a)]) (by simp [Act.eval]) (· = .int .i64 (loudB (kept a) : Nat)) (fun w1 h1 => (i_loudness (kept a) w1).mono ?_) (fun w1 v h => h.1 _ rfl) ?_
  · rintro e w2 ⟨rfl, rfl⟩
    exact ⟨_, rfl, le_refl _, ⟨fun o ho => by simp at ho; rw [ho], fun h => by simp at h⟩, rfl⟩
  rintro v rfl
  simp only [Act.put, List.setIfInBounds_toArray, List.set_cons_succ, List.set_cons_zero]
  refine wpFreeP_one (by decide) rfl (.pointer (some ⟨g, f, none⟩)) (fun w1 _ => by kernel_rfl) ?_
  simp only [Act.put, List.setIfInBounds_toArray, List.set_cons_succ, List.set_cons_zero]
  refine wpFreeP_one (by decide) rfl (.pointer (some ⟨g, f, none⟩)) (fun w1 _ => by kernel_rfl) ?_
  simp only [Act.put, List.setIfInBounds_toArray, List.set_cons_succ, List.set_cons_zero]
  refine wpFreeP_one (by decide) rfl (.pointer (some ⟨g, f, none⟩)) (fun w1 _ => by kernel_rfl) ?_
  simp only [Act.put, List.setIfInBounds_toArray, List.set_cons_succ, List.set_cons_zero]
  refine wpFreeP_one (by decide) rfl (.float .f32 (kept a)) (fun w1 _ => by kernel_rfl) ?_
  simp only [Act.put, List.setIfInBounds_toArray, List.set_cons_succ, List.set_cons_zero]
  refine wpFreeP_callC rfl rfl rfl Try.func109 (by kernel_rfl) (by kernel_rfl) (args := #[.pointer (some ⟨g, f, none⟩), .float .f32 (kept a)]) (by simp [Act.eval]) (fun v wa wb hw hv => by obtain ⟨o, h1, h2, h3, h4, h5⟩ := hv; exact ⟨o, h1, h2, h3, hw.2.1 ⟨h4, h5⟩⟩) (fun w1 h1 => (HP.out w1 (le_trans (le_drewN w 1) h1)).mono ?_) (fun w1 v h => h.2 rfl) ?_
  · rintro e w2 ⟨o, rfl, ho, fo, hR, hO, hC⟩
    exact ⟨_, rfl, ⟨hC, fun _ => ⟨hR, hO⟩, fun _ => .inr ⟨hR, hO⟩⟩, fun o2 h => by simp at h, fun _ => ⟨o, rfl, ho, fo, hR, hO⟩⟩
  rintro v ⟨_, _, o, rfl, ho, fo, _⟩
  have HO := hid ho; clear ho
  simp only [Act.put, List.setIfInBounds_toArray, List.set_cons_succ, List.set_cons_zero]
  refine wpFreeP_callQ (by decide) rfl rfl Try.func107 (by kernel_rfl) (by kernel_rfl) (args := #[.float .f32 o]) (by simp [Act.eval]) (· = .int .i64 (loudB o : Nat)) (fun w1 h1 => (i_loudness o w1).mono ?_) (fun w1 v h => h.1 _ rfl) ?_
  · rintro e w2 ⟨rfl, rfl⟩
    exact ⟨_, rfl, le_refl _, ⟨fun o ho => by simp at ho; rw [ho], fun h => by simp at h⟩, rfl⟩
  rintro v rfl
  simp only [Act.put, List.setIfInBounds_toArray, List.set_cons_succ, List.set_cons_zero]
  have hlo : loudB o = loudB (x j) := by rw [← loudB_can o, HO.out]
  rw [hlo]
  refine wpFreeP_one (by decide) rfl (.int .i64 (((loudB (kept a) : Nat) : Int) - ((loudB (x j) : Nat) : Int))) (fun w1 _ => ?_) ?_
  · go_simp
    exact IntWalk.i64_in _ (by omega)
  simp only [Act.put, List.setIfInBounds_toArray, List.set_cons_succ, List.set_cons_zero]
  refine wpFreeP_one (by decide) rfl (.int .i64 (((loudN x n : Nat) : Int) + (((loudB (kept a) : Nat) : Int) - ((loudB (x j) : Nat) : Int)))) (fun w1 _ => ?_) ?_
  · go_simp
    exact IntWalk.i64_in _ (by omega)
  simp only [Act.put, List.setIfInBounds_toArray, List.set_cons_succ, List.set_cons_zero]
  refine wpFreeP_one (by decide) rfl (.pointer (some ⟨g, f, none⟩)) (fun w1 _ => by kernel_rfl) ?_
  simp only [Act.put, List.setIfInBounds_toArray, List.set_cons_succ, List.set_cons_zero]
  refine wpFreeP_one (by decide) rfl (.pointer (some ⟨g, f + 2, none⟩)) (fun w1 _ => by kernel_rfl) ?_
  simp only [Act.put, List.setIfInBounds_toArray, List.set_cons_succ, List.set_cons_zero]
  rw [LI.out]
  refine wpFreeP_nil (fun wR hwR hF => ?_)
  obtain ⟨o', _, _, _, hRR, hRO⟩ := (hF 10).1.1.1.1.1.2 rfl
  have C0 := hid ((Chg.of_le (le_drewN w 1)).trans hwR.1)
  have RR := hid hRR; have RO := hid hRO
  have fz := hRR.frozen (f + 2)
  have cz : wR.cell? ⟨g, f + 2, none⟩ = some (.int .i64 (loudN x n : Nat)) := H2.out wR (.inr ⟨hRR, hRO⟩)
  clear hF hwR hRR hRO
  go_wp2
  go_end0
  refine ⟨⟨_, rfl⟩, RR.out.set _ _, RO.out.chgS (S := fun i => i = g) (Chg.setCell (S := fun i => i = g) (a := ⟨g, f + 2, none⟩) (Chg.refl _ wR) rfl _) (fun i h1 h2 e => by have e' : i = g := e; subst e'; exact hg ⟨h1, h2⟩), C0.out.setCell (.inl rfl) _⟩
theorem infoDelay : (Try.prog.info? 134).map (·.size) = some 3 := by kernel_rfl
set_option maxRecDepth 100000 in
set_option maxHeartbeats 4000000 in
theorem i_newDelay (B : Nat) (s : Value) (x : Nat → Nat) (n : Nat) (k : Int) (w : World) (hs : RdS w B s x n) (h1 : 1 ≤ n) (h2 : n ≤ 1024) :
    Calls Try.prog 98 #[.agg #[s, .int .i64 k]] w fun e w' => ∃ s', e = .returned (.agg #[s', .int .i64 k, .int .i64 (loudN x n : Nat)]) ∧ OwnS w' w.heap.size w'.heap.size s' x n ∧ le w w' := by
  have HC := hid (fun (w' : World) (hl : le w w') => i_copied B s x n k w' (hs.le hl) h1 h2)
  clear hs
  have F := ((Frg.nil w).box 46 #[s, .int .i64 k]).box 134 #[.slice none 0 0, .int .i64 0, .int .i64 0]
  simp only [World.size_alloc] at F
  go_enter Try.func98, Try.ntmps98
  go_wp2_with (first | ((with_reducible refine at_loadU rfl rfl ?_); (with_reducible refine wpList_loadG F rfl rfl rfl (by first | exact m0 | exact m1) Try.underlying46 rfl infoRing rfl ?_)) | (go_at_call 95; ((with_reducible refine (HC.out _ F.below).mono ?_); rintro e w1 ⟨s1, rfl, ho, hl⟩; obtain ⟨b, o, cap, rfl, hc, hm⟩ := own_form ho h1; have mm := hm; unfold maxLen at mm; replace F := F.own1 hl ho; clear ho hl)) | (refine wpList_storeG F rfl rfl rfl rfl rfl infoDelay rfl rfl ?_; clear F; intro W3 F zW; clear zW; have c0 := (F.row m0).cell? 0))
  have F0 := hid F
  clear F
  go_loopw [13] (fun i wr => ∃ m : Nat, m ≤ n ∧ i = .int .i64 m ∧ Hid (Frg w wr [rowF w1.heap.size 134 #[.slice (some ⟨b, o, none⟩) n cap, .int .i64 k, .int .i64 (loudN x m : Nat)], ownF (w.heap.size + 1 + 1) w1.heap.size (.slice (some ⟨b, o, none⟩) n cap) x n, rowF (w.heap.size + 1) 134 #[.slice none 0 0, .int .i64 0, .int .i64 0], rowF w.heap.size 46 #[s, .int .i64 k]])) (fun i _ => n - (intOf i).toNat)
  case atStart => exact ⟨0, by omega, rfl, by have h := F0.out.box 134 #[.slice (some ⟨b, o, none⟩) n cap, .int .i64 k, .int .i64 0]; simp only [World.size_alloc] at h; exact h⟩
  case round =>
    obtain ⟨m, hk, rfl, HF⟩ := hrel
    rename_i wr _
    by_cases hlt : m < n
    · obtain ⟨y, cy, fy, ey⟩ : ∃ y, wr.cell? ⟨b, o + m, none⟩ = some (.float .f32 y) ∧ fits .f32 y ∧ can .f32 y = x m := by
        rcases HF.out.own m1 with ⟨e, h0⟩ | ⟨b2, o2, cap2, ds2, e, _, _, _, _, hrow, hx⟩
        · omega
        · simp only [Value.slice.injEq, Option.some.injEq, Addr.mk.injEq] at e
          obtain ⟨⟨rfl, rfl, _⟩, _, rfl⟩ := e
          obtain ⟨y, e1, e2, e3⟩ := hx m hlt
          exact ⟨y, (hrow.cell? (o + m)).trans e1, e2, e3⟩
      have EY := hid ey
      have c2 := (HF.out.row m0).cell? 2
      have f2 := (HF.out.row m0).frozen 2
      have l1 : loudN x m ≤ 1024 := Nat.le_trans (loudN_le _ _) (by omega)
      have l2 := loudB_le y
      have hw : IntKind.i64.wrap (((loudN x m : Nat) : Int) + ((loudB y : Nat) : Int)) = ((loudN x m : Nat) : Int) + ((loudB y : Nat) : Int) := IntWalk.i64_in _ (by omega)
      clear ey
      go_wp2_with fail
      refine wp_region_tail (fun _ _ v => v = .int .i64 (loudB y : Nat)) 6 (by kernel_rfl) (by kernel_rfl) ?_; simp only [List.take_succ_cons, List.take_zero, List.drop_succ_cons, List.drop_zero]
      repeat (refine wpLoose_quiet rfl ?_; go_big_quiet_step (fail); refine wpQuiet_nil ?_)
      refine wpLoose_any rfl (· = .int .i64 (loudB y : Nat)) (fun m0 => ?_) ?_
      · go_simp
        refine (i_loudness _ _).mono ?_
        rintro e w9 ⟨rfl, rfl⟩
        exact ⟨_, rfl, rfl, m0, by first | rfl | (go_simp; done)⟩
      rintro v0 rfl
      simp only [Act.put, List.setIfInBounds_toArray, List.set_cons_succ, List.set_cons_zero]
      repeat (refine wpLoose_quiet rfl ?_; go_big_quiet_step (fail); refine wpQuiet_nil ?_)
      refine wpLoose_nil (fun m3 => ?_)
      have HW := hid hw
      clear hw
      go_wp2
      go_roundw
      case rel =>
        refine ⟨m + 1, by omega, by go_num, ?_⟩
        have h := (HF.out.drewN m3).set0 2 (.int .i64 (loudN x (m + 1) : Nat))
        have e1 : ((loudN x (m + 1) : Nat) : Int) = ((loudN x m : Nat) : Int) + ((loudB y : Nat) : Int) := by
          have : loudB y = loudB (x m) := by rw [← loudB_can y, EY.out]
          simp only [loudN]; omega
        rw [e1] at h
        first
        | simpa [e1] using h
        | (rw [e1]; exact h)
      case measure => simp [intOf]; omega
    · obtain rfl : m = n := by omega
      have F := HF.out
      go_wp2_with (first | ((with_reducible refine at_loadU rfl rfl ?_); (with_reducible refine wpList_loadG F rfl rfl rfl (by first | exact m0 | exact m1) Try.underlying134 rfl infoDelay rfl ?_)) | (with_reducible refine stop_store rfl ?_))
      show wpList _ _ _ _ _ _
      have O1 := F.own m1
      refine wpList_storeD rfl rfl rfl (cells := #[.slice (some ⟨b, o, none⟩) m cap, .int .i64 k, .int .i64 (loudN x m : Nat)]) rfl (F.row m2) infoDelay rfl (by simp [Value.oneCell']) (fun w9 K => ?_)
      have C := (Chg.refl (· = w.heap.size + 1) _).wrote K rfl
      have zc := C.size
      have a2 := (F.facts _ m1).2.1
      simp only [ownF] at a2
      have Q1 := hid (O1.chgS C (fun i a b e => by have e' : i = w.heap.size + 1 := e; omega))
      have R := hid K.row
      have L := hid (F.wr2 K).below
      clear K F C O1
      go_wp2
      exact bodyPost_ret (results_row1 rfl _ _ _ _ _ rfl R.out Try.underlying134 rfl infoDelay) rfl ⟨_, rfl, Q1.out.mono (by omega) (by omega), L.out⟩
end Go.Proofs.Ytmacednkpjfokaa
