/- The model's step of a filter, kind by kind. -/
import Derived.Test.YtaenbpkcehenkabStep
namespace Go.Proofs.Ytaenbpkcehenkab
open Go.RowKit Go.Fk
set_option maxRecDepth 100000 in
set_option maxHeartbeats 2000000 in
theorem s_Step1 (a b c x y s g : Nat) (w : World) (R : Row w g 33 (#[.int .i64 1, .float .f32 a, .float .f32 b, .float .f32 c, .float .f32 x, .float .f32 y] : Array Value)) (hx : fits .f32 x) (hs : fits .f32 s) (hy : y = 0) :
    Calls Try.prog 47 #[.pointer (some ⟨g, 0, none⟩), .float .f32 s] w (OutS 1 a b c x y s g 33 (fun u v => (#[.int .i64 1, .float .f32 a, .float .f32 b, .float .f32 c, .float .f32 u, .float .f32 v] : Array Value)) w) := by
  subst hy
  have Hx := hid hx; have Hs := hid hs; clear hx hs
  have F := Frm.one R
  have U := hid (Upd.refl g w)
  obtain ⟨c0, c1, c2, c3, c4, c5⟩ := R.six
  clear R
  go_enter Try.func47, Try.ntmps47
  go_wp2
  refine region_free (fun _ _ _ _ => True) (by kernel_rfl) (by kernel_rfl) ?_
  refine wpFree_one rfl (.pointer (some ⟨g, 0, none⟩)) (fun w1 _ => by kernel_rfl) ?_
  simp only [Act.put, List.setIfInBounds_toArray, List.set_cons_succ, List.set_cons_zero]
  refine wpFree_one rfl (.pointer (some ⟨g, 0, none⟩)) (fun w1 _ => by kernel_rfl) ?_
  simp only [Act.put, List.setIfInBounds_toArray, List.set_cons_succ, List.set_cons_zero]
  refine wpFree_one rfl (.pointer (some ⟨g, 1, none⟩)) (fun w1 _ => by kernel_rfl) ?_
  simp only [Act.put, List.setIfInBounds_toArray, List.set_cons_succ, List.set_cons_zero]
  refine wpFree_one rfl (.pointer (some ⟨g, 1, none⟩)) (fun w1 _ => by kernel_rfl) ?_
  simp only [Act.put, List.setIfInBounds_toArray, List.set_cons_succ, List.set_cons_zero]
  refine wpFree_loadF F rfl rfl rfl rfl List.mem_cons_self rfl Try.underlying22 ?_
  simp only [Act.put, List.setIfInBounds_toArray, List.set_cons_succ, List.set_cons_zero]
  refine wpFree_one rfl (.float .f32 s) (fun w1 _ => by kernel_rfl) ?_
  simp only [Act.put, List.setIfInBounds_toArray, List.set_cons_succ, List.set_cons_zero]
  refine wpFree_farith rfl rfl rfl rfl rfl (fun r53 h53 f53 => ?_)
  simp only [Act.put, List.setIfInBounds_toArray, List.set_cons_succ, List.set_cons_zero]
  refine wpFree_one rfl (.pointer (some ⟨g, 0, none⟩)) (fun w1 _ => by kernel_rfl) ?_
  simp only [Act.put, List.setIfInBounds_toArray, List.set_cons_succ, List.set_cons_zero]
  refine wpFree_one rfl (.pointer (some ⟨g, 0, none⟩)) (fun w1 _ => by kernel_rfl) ?_
  simp only [Act.put, List.setIfInBounds_toArray, List.set_cons_succ, List.set_cons_zero]
  refine wpFree_one rfl (.pointer (some ⟨g, 1, none⟩)) (fun w1 _ => by kernel_rfl) ?_
  simp only [Act.put, List.setIfInBounds_toArray, List.set_cons_succ, List.set_cons_zero]
  refine wpFree_one rfl (.pointer (some ⟨g, 1 + 1, none⟩)) (fun w1 _ => by kernel_rfl) ?_
  simp only [Act.put, List.setIfInBounds_toArray, List.set_cons_succ, List.set_cons_zero]
  refine wpFree_loadF F rfl rfl rfl rfl List.mem_cons_self rfl Try.underlying22 ?_
  simp only [Act.put, List.setIfInBounds_toArray, List.set_cons_succ, List.set_cons_zero]
  refine wpFree_one rfl (.float .f32 x) (fun w1 _ => by kernel_rfl) ?_
  simp only [Act.put, List.setIfInBounds_toArray, List.set_cons_succ, List.set_cons_zero]
  refine wpFree_farith rfl rfl rfl rfl rfl (fun r60 h60 f60 => ?_)
  simp only [Act.put, List.setIfInBounds_toArray, List.set_cons_succ, List.set_cons_zero]
  refine wpFree_farith rfl rfl rfl rfl rfl (fun r61 h61 f61 => ?_)
  simp only [Act.put, List.setIfInBounds_toArray, List.set_cons_succ, List.set_cons_zero]
  refine wpFree_one rfl (.float .f32 r61) (fun w1 _ => by kernel_rfl) ?_
  simp only [Act.put, List.setIfInBounds_toArray, List.set_cons_succ, List.set_cons_zero]
  refine wpFree_nil (fun w3 hw3 _ => ?_)
  replace U := hid ((U.out.le (le_drewN _ 1)).le hw3)
  replace F := Frm.one (((F.drewN 1).le hw3).row List.mem_cons_self)
  clear hw3 c0 c1 c2 c3 c4 c5
  have e : can .f32 r61 = outF 1 a b c x 0 s := (by rw [h61.out]; exact fop_congr (h53.out.trans (can_fop _ _ _ _).symm) (h60.out.trans (can_fop _ _ _ _).symm))
  have hf := f61
  replace e := hid e
  go_wp2
  refine region_tail (fun _ _ _ v => v = .float .f32 (kept r61)) 6 (by kernel_rfl) (by kernel_rfl) ?_
  simp only [List.take_succ_cons, List.take_zero, List.drop_succ_cons, List.drop_zero]
  refine wpFree_one rfl (.pointer (some ⟨g, 0, none⟩)) (fun w1 _ => by kernel_rfl) ?_
  simp only [Act.put, List.setIfInBounds_toArray, List.set_cons_succ, List.set_cons_zero]
  refine wpFree_one rfl (.float .f32 r61) (fun w1 _ => by kernel_rfl) ?_
  simp only [Act.put, List.setIfInBounds_toArray, List.set_cons_succ, List.set_cons_zero]
  refine wpFree_call rfl rfl Try.func71 (by kernel_rfl) (by kernel_rfl) (args := #[.float .f32 r61]) (by simp [Act.eval]) (fun _ _ _ _ h => h) (fun w1 _ => (s_Kept r61 w1 hf.out).mono ?_) ?_
  · rintro e w2 ⟨rfl, n, rfl⟩
    exact ⟨_, rfl, le_drewN _ n, rfl⟩
  rintro v ⟨_, _, rfl⟩
  simp only [Act.put, List.setIfInBounds_toArray, List.set_cons_succ, List.set_cons_zero]
  refine wpFree_one rfl (.pointer (some ⟨g, 0, none⟩)) (fun w1 _ => by kernel_rfl) ?_
  simp only [Act.put, List.setIfInBounds_toArray, List.set_cons_succ, List.set_cons_zero]
  refine wpFree_one rfl (.pointer (some ⟨g, 4, none⟩)) (fun w1 _ => by kernel_rfl) ?_
  simp only [Act.put, List.setIfInBounds_toArray, List.set_cons_succ, List.set_cons_zero]
  refine wpFree_one rfl (.pointer (some ⟨g, 4, none⟩)) (fun w1 _ => by kernel_rfl) ?_
  simp only [Act.put, List.setIfInBounds_toArray, List.set_cons_succ, List.set_cons_zero]
  refine wpFree_nil (fun w5 hw5 _ => ?_)
  have RR := ((F.drewN 1).le hw5).row List.mem_cons_self
  replace U := hid (((U.out.le (le_drewN _ 1)).le hw5).setCell (a := ⟨g, 4, none⟩) rfl (.float .f32 (kept r61)))
  have cc := RR.cell? 4
  have ff := RR.frozen 4
  have RN := RR.set 4 (.float .f32 (kept r61))
  replace RN : Row (w5.setCell ⟨g, 4, none⟩ (.float .f32 (kept r61))) g 33 (#[.int .i64 1, .float .f32 a, .float .f32 b, .float .f32 c, .float .f32 (kept r61), .float .f32 0] : Array Value) := by simpa using RN
  replace RR := hid RR
  clear hw5 F
  have F := Frm.one RN
  clear RN
  have RN := hid (F.row List.mem_cons_self)
  clear F
  go_wp2
  go_ret
  refine ⟨_, rfl, e.out, hf.out, ?_, U.out⟩
  have e0 : (kept r61) = st0 1 a b c x 0 s := by exact kept_can (e.out.trans (can_outF _ _ _ _ _ _ _).symm)
  have e1 : 0 = st1 1 a b c x 0 s := by rfl
  rw [← e0, ← e1]
  exact RN.out
set_option maxRecDepth 100000 in
set_option maxHeartbeats 2000000 in
theorem s_Step2 (a b c x y s g : Nat) (w : World) (R : Row w g 33 (#[.int .i64 2, .float .f32 a, .float .f32 b, .float .f32 c, .float .f32 x, .float .f32 y] : Array Value)) (hx : fits .f32 x) (hs : fits .f32 s) (hy : y = 0) :
    Calls Try.prog 47 #[.pointer (some ⟨g, 0, none⟩), .float .f32 s] w (OutS 2 a b c x y s g 33 (fun u v => (#[.int .i64 2, .float .f32 a, .float .f32 b, .float .f32 c, .float .f32 u, .float .f32 v] : Array Value)) w) := by
  subst hy
  have Hx := hid hx; have Hs := hid hs; clear hx hs
  have F := Frm.one R
  have U := hid (Upd.refl g w)
  obtain ⟨c0, c1, c2, c3, c4, c5⟩ := R.six
  clear R
  go_enter Try.func47, Try.ntmps47
  go_wp2
  refine region_free (fun _ _ _ _ => True) (by kernel_rfl) (by kernel_rfl) ?_
  refine wpFree_one rfl (.pointer (some ⟨g, 0, none⟩)) (fun w1 _ => by kernel_rfl) ?_
  simp only [Act.put, List.setIfInBounds_toArray, List.set_cons_succ, List.set_cons_zero]
  refine wpFree_one rfl (.pointer (some ⟨g, 0, none⟩)) (fun w1 _ => by kernel_rfl) ?_
  simp only [Act.put, List.setIfInBounds_toArray, List.set_cons_succ, List.set_cons_zero]
  refine wpFree_one rfl (.pointer (some ⟨g, 1, none⟩)) (fun w1 _ => by kernel_rfl) ?_
  simp only [Act.put, List.setIfInBounds_toArray, List.set_cons_succ, List.set_cons_zero]
  refine wpFree_one rfl (.pointer (some ⟨g, 1, none⟩)) (fun w1 _ => by kernel_rfl) ?_
  simp only [Act.put, List.setIfInBounds_toArray, List.set_cons_succ, List.set_cons_zero]
  refine wpFree_loadF F rfl rfl rfl rfl List.mem_cons_self rfl Try.underlying22 ?_
  simp only [Act.put, List.setIfInBounds_toArray, List.set_cons_succ, List.set_cons_zero]
  refine wpFree_one rfl (.float .f32 s) (fun w1 _ => by kernel_rfl) ?_
  simp only [Act.put, List.setIfInBounds_toArray, List.set_cons_succ, List.set_cons_zero]
  refine wpFree_farith rfl rfl rfl rfl rfl (fun r76 h76 f76 => ?_)
  simp only [Act.put, List.setIfInBounds_toArray, List.set_cons_succ, List.set_cons_zero]
  refine wpFree_one rfl (.pointer (some ⟨g, 0, none⟩)) (fun w1 _ => by kernel_rfl) ?_
  simp only [Act.put, List.setIfInBounds_toArray, List.set_cons_succ, List.set_cons_zero]
  refine wpFree_one rfl (.pointer (some ⟨g, 0, none⟩)) (fun w1 _ => by kernel_rfl) ?_
  simp only [Act.put, List.setIfInBounds_toArray, List.set_cons_succ, List.set_cons_zero]
  refine wpFree_one rfl (.pointer (some ⟨g, 1, none⟩)) (fun w1 _ => by kernel_rfl) ?_
  simp only [Act.put, List.setIfInBounds_toArray, List.set_cons_succ, List.set_cons_zero]
  refine wpFree_one rfl (.pointer (some ⟨g, 1 + 1, none⟩)) (fun w1 _ => by kernel_rfl) ?_
  simp only [Act.put, List.setIfInBounds_toArray, List.set_cons_succ, List.set_cons_zero]
  refine wpFree_loadF F rfl rfl rfl rfl List.mem_cons_self rfl Try.underlying22 ?_
  simp only [Act.put, List.setIfInBounds_toArray, List.set_cons_succ, List.set_cons_zero]
  refine wpFree_one rfl (.float .f32 x) (fun w1 _ => by kernel_rfl) ?_
  simp only [Act.put, List.setIfInBounds_toArray, List.set_cons_succ, List.set_cons_zero]
  refine wpFree_farith rfl rfl rfl rfl rfl (fun r83 h83 f83 => ?_)
  simp only [Act.put, List.setIfInBounds_toArray, List.set_cons_succ, List.set_cons_zero]
  refine wpFree_farith rfl rfl rfl rfl rfl (fun r84 h84 f84 => ?_)
  simp only [Act.put, List.setIfInBounds_toArray, List.set_cons_succ, List.set_cons_zero]
  refine wpFree_one rfl (.float .f32 r84) (fun w1 _ => by kernel_rfl) ?_
  simp only [Act.put, List.setIfInBounds_toArray, List.set_cons_succ, List.set_cons_zero]
  refine wpFree_nil (fun w3 hw3 _ => ?_)
  replace U := hid ((U.out.le (le_drewN _ 1)).le hw3)
  replace F := Frm.one (((F.drewN 1).le hw3).row List.mem_cons_self)
  clear hw3 c0 c1 c2 c3 c4 c5
  have e : can .f32 r84 = outF 2 a b c x 0 s := (by rw [h84.out]; exact fop_congr (h76.out.trans (can_fop _ _ _ _).symm) (h83.out.trans (can_fop _ _ _ _).symm))
  have hf := f84
  replace e := hid e
  go_wp2
  refine region_tail (fun _ _ _ v => v = .float .f32 (kept s)) 6 (by kernel_rfl) (by kernel_rfl) ?_
  simp only [List.take_succ_cons, List.take_zero, List.drop_succ_cons, List.drop_zero]
  refine wpFree_one rfl (.pointer (some ⟨g, 0, none⟩)) (fun w1 _ => by kernel_rfl) ?_
  simp only [Act.put, List.setIfInBounds_toArray, List.set_cons_succ, List.set_cons_zero]
  refine wpFree_one rfl (.float .f32 s) (fun w1 _ => by kernel_rfl) ?_
  simp only [Act.put, List.setIfInBounds_toArray, List.set_cons_succ, List.set_cons_zero]
  refine wpFree_call rfl rfl Try.func71 (by kernel_rfl) (by kernel_rfl) (args := #[.float .f32 s]) (by simp [Act.eval]) (fun _ _ _ _ h => h) (fun w1 _ => (s_Kept s w1 Hs.out).mono ?_) ?_
  · rintro e w2 ⟨rfl, n, rfl⟩
    exact ⟨_, rfl, le_drewN _ n, rfl⟩
  rintro v ⟨_, _, rfl⟩
  simp only [Act.put, List.setIfInBounds_toArray, List.set_cons_succ, List.set_cons_zero]
  refine wpFree_one rfl (.pointer (some ⟨g, 0, none⟩)) (fun w1 _ => by kernel_rfl) ?_
  simp only [Act.put, List.setIfInBounds_toArray, List.set_cons_succ, List.set_cons_zero]
  refine wpFree_one rfl (.pointer (some ⟨g, 4, none⟩)) (fun w1 _ => by kernel_rfl) ?_
  simp only [Act.put, List.setIfInBounds_toArray, List.set_cons_succ, List.set_cons_zero]
  refine wpFree_one rfl (.pointer (some ⟨g, 4, none⟩)) (fun w1 _ => by kernel_rfl) ?_
  simp only [Act.put, List.setIfInBounds_toArray, List.set_cons_succ, List.set_cons_zero]
  refine wpFree_nil (fun w5 hw5 _ => ?_)
  have RR := ((F.drewN 1).le hw5).row List.mem_cons_self
  replace U := hid (((U.out.le (le_drewN _ 1)).le hw5).setCell (a := ⟨g, 4, none⟩) rfl (.float .f32 (kept s)))
  have cc := RR.cell? 4
  have ff := RR.frozen 4
  have RN := RR.set 4 (.float .f32 (kept s))
  replace RN : Row (w5.setCell ⟨g, 4, none⟩ (.float .f32 (kept s))) g 33 (#[.int .i64 2, .float .f32 a, .float .f32 b, .float .f32 c, .float .f32 (kept s), .float .f32 0] : Array Value) := by simpa using RN
  replace RR := hid RR
  clear hw5 F
  have F := Frm.one RN
  clear RN
  have RN := hid (F.row List.mem_cons_self)
  clear F
  go_wp2
  go_ret
  refine ⟨_, rfl, e.out, hf.out, ?_, U.out⟩
  have e0 : (kept s) = st0 2 a b c x 0 s := by rfl
  have e1 : 0 = st1 2 a b c x 0 s := by rfl
  rw [← e0, ← e1]
  exact RN.out
set_option maxRecDepth 100000 in
set_option maxHeartbeats 2000000 in
theorem s_Step3 (a b c x y s g : Nat) (w : World) (R : Row w g 33 (#[.int .i64 3, .float .f32 a, .float .f32 b, .float .f32 c, .float .f32 x, .float .f32 y] : Array Value)) (hx : fits .f32 x) (hs : fits .f32 s) :
    Calls Try.prog 47 #[.pointer (some ⟨g, 0, none⟩), .float .f32 s] w (OutS 3 a b c x y s g 33 (fun u v => (#[.int .i64 3, .float .f32 a, .float .f32 b, .float .f32 c, .float .f32 u, .float .f32 v] : Array Value)) w) := by
  have Hx := hid hx; have Hs := hid hs; clear hx hs
  have F := Frm.one R
  have U := hid (Upd.refl g w)
  obtain ⟨c0, c1, c2, c3, c4, c5⟩ := R.six
  clear R
  go_enter Try.func47, Try.ntmps47
  go_wp2_with (with_reducible refine wpList_farith rfl rfl rfl rfl rfl ?_; intro r n hr hf)
  rename_i r1 n1 h1 f1 r2 n2 h2 f2 KK aa
  clear c0 c1 c2 c3 c4 c5
  have e : can .f32 r = outF 3 a b c x y s := (by rw [hr.out]; exact fop_congr (h2.out.trans ((fop_congr rfl (h1.out.trans (can_fop _ _ _ _).symm)).trans (can_fop _ _ _ _).symm)) rfl)
  replace U := hid (U.out.le (le_drewN _ (n1 + n2 + n)))
  replace F := Frm.one ((F.drewN (n1 + n2 + n)).row List.mem_cons_self)
  replace e := hid e
  refine region_tail (fun _ _ _ v => v = .float .f32 (kept s)) 6 (by kernel_rfl) (by kernel_rfl) ?_
  simp only [List.take_succ_cons, List.take_zero, List.drop_succ_cons, List.drop_zero]
  refine wpFree_one rfl (.pointer (some ⟨g, 0, none⟩)) (fun w1 _ => by kernel_rfl) ?_
  simp only [Act.put, List.setIfInBounds_toArray, List.set_cons_succ, List.set_cons_zero]
  refine wpFree_one rfl (.float .f32 s) (fun w1 _ => by kernel_rfl) ?_
  simp only [Act.put, List.setIfInBounds_toArray, List.set_cons_succ, List.set_cons_zero]
  refine wpFree_call rfl rfl Try.func71 (by kernel_rfl) (by kernel_rfl) (args := #[.float .f32 s]) (by simp [Act.eval]) (fun _ _ _ _ h => h) (fun w1 _ => (s_Kept s w1 Hs.out).mono ?_) ?_
  · rintro e w2 ⟨rfl, n, rfl⟩
    exact ⟨_, rfl, le_drewN _ n, rfl⟩
  rintro v ⟨_, _, rfl⟩
  simp only [Act.put, List.setIfInBounds_toArray, List.set_cons_succ, List.set_cons_zero]
  refine wpFree_one rfl (.pointer (some ⟨g, 0, none⟩)) (fun w1 _ => by kernel_rfl) ?_
  simp only [Act.put, List.setIfInBounds_toArray, List.set_cons_succ, List.set_cons_zero]
  refine wpFree_one rfl (.pointer (some ⟨g, 4, none⟩)) (fun w1 _ => by kernel_rfl) ?_
  simp only [Act.put, List.setIfInBounds_toArray, List.set_cons_succ, List.set_cons_zero]
  refine wpFree_one rfl (.pointer (some ⟨g, 4, none⟩)) (fun w1 _ => by kernel_rfl) ?_
  simp only [Act.put, List.setIfInBounds_toArray, List.set_cons_succ, List.set_cons_zero]
  refine wpFree_nil (fun w5 hw5 _ => ?_)
  have RR := ((F.drewN 1).le hw5).row List.mem_cons_self
  replace U := hid (((U.out.le (le_drewN _ 1)).le hw5).setCell (a := ⟨g, 4, none⟩) rfl (.float .f32 (kept s)))
  have cc := RR.cell? 4
  have ff := RR.frozen 4
  have RN := RR.set 4 (.float .f32 (kept s))
  replace RN : Row (w5.setCell ⟨g, 4, none⟩ (.float .f32 (kept s))) g 33 (#[.int .i64 3, .float .f32 a, .float .f32 b, .float .f32 c, .float .f32 (kept s), .float .f32 y] : Array Value) := by simpa using RN
  replace RR := hid RR
  clear hw5 F
  have F := Frm.one RN
  clear RN
  go_wp2
  refine region_tail (fun _ _ _ v => v = .float .f32 (kept r)) 6 (by kernel_rfl) (by kernel_rfl) ?_
  simp only [List.take_succ_cons, List.take_zero, List.drop_succ_cons, List.drop_zero]
  refine wpFree_one rfl (.pointer (some ⟨g, 0, none⟩)) (fun w1 _ => by kernel_rfl) ?_
  simp only [Act.put, List.setIfInBounds_toArray, List.set_cons_succ, List.set_cons_zero]
  refine wpFree_one rfl (.float .f32 r) (fun w1 _ => by kernel_rfl) ?_
  simp only [Act.put, List.setIfInBounds_toArray, List.set_cons_succ, List.set_cons_zero]
  refine wpFree_call rfl rfl Try.func71 (by kernel_rfl) (by kernel_rfl) (args := #[.float .f32 r]) (by simp [Act.eval]) (fun _ _ _ _ h => h) (fun w1 _ => (s_Kept r w1 hf.out).mono ?_) ?_
  · rintro e w2 ⟨rfl, n, rfl⟩
    exact ⟨_, rfl, le_drewN _ n, rfl⟩
  rintro v ⟨_, _, rfl⟩
  simp only [Act.put, List.setIfInBounds_toArray, List.set_cons_succ, List.set_cons_zero]
  refine wpFree_one rfl (.pointer (some ⟨g, 0, none⟩)) (fun w1 _ => by kernel_rfl) ?_
  simp only [Act.put, List.setIfInBounds_toArray, List.set_cons_succ, List.set_cons_zero]
  refine wpFree_one rfl (.pointer (some ⟨g, 4, none⟩)) (fun w1 _ => by kernel_rfl) ?_
  simp only [Act.put, List.setIfInBounds_toArray, List.set_cons_succ, List.set_cons_zero]
  refine wpFree_one rfl (.pointer (some ⟨g, 4 + 1, none⟩)) (fun w1 _ => by kernel_rfl) ?_
  simp only [Act.put, List.setIfInBounds_toArray, List.set_cons_succ, List.set_cons_zero]
  refine wpFree_nil (fun w5 hw5 _ => ?_)
  have RR := ((F.drewN 1).le hw5).row List.mem_cons_self
  replace U := hid (((U.out.le (le_drewN _ 1)).le hw5).setCell (a := ⟨g, 5, none⟩) rfl (.float .f32 (kept r)))
  have cc := RR.cell? 5
  have ff := RR.frozen 5
  have RN := RR.set 5 (.float .f32 (kept r))
  replace RN : Row (w5.setCell ⟨g, 5, none⟩ (.float .f32 (kept r))) g 33 (#[.int .i64 3, .float .f32 a, .float .f32 b, .float .f32 c, .float .f32 (kept s), .float .f32 (kept r)] : Array Value) := by simpa using RN
  replace RR := hid RR
  clear hw5 F
  have F := Frm.one RN
  clear RN
  have RN := hid (F.row List.mem_cons_self)
  clear F
  go_wp2
  go_ret
  refine ⟨_, rfl, e.out, hf.out, ?_, U.out⟩
  have e0 : (kept s) = st0 3 a b c x y s := by rfl
  have e1 : (kept r) = st1 3 a b c x y s := by exact kept_can (e.out.trans (can_outF _ _ _ _ _ _ _).symm)
  rw [← e0, ← e1]
  exact RN.out
set_option maxRecDepth 100000 in
set_option maxHeartbeats 2000000 in
theorem s_Step4 (a b c x y s g : Nat) (w : World) (R : Row w g 33 (#[.int .i64 4, .float .f32 a, .float .f32 b, .float .f32 c, .float .f32 x, .float .f32 y] : Array Value)) (hx : fits .f32 x) (hs : fits .f32 s) :
    Calls Try.prog 47 #[.pointer (some ⟨g, 0, none⟩), .float .f32 s] w (OutS 4 a b c x y s g 33 (fun u v => (#[.int .i64 4, .float .f32 a, .float .f32 b, .float .f32 c, .float .f32 u, .float .f32 v] : Array Value)) w) := by
  have Hx := hid hx; have Hs := hid hs; clear hx hs
  have F := Frm.one R
  have U := hid (Upd.refl g w)
  obtain ⟨c0, c1, c2, c3, c4, c5⟩ := R.six
  clear R
  go_enter Try.func47, Try.ntmps47
  go_wp2
  refine region_free (fun _ _ _ _ => True) (by kernel_rfl) (by kernel_rfl) ?_
  refine wpFree_one rfl (.pointer (some ⟨g, 0, none⟩)) (fun w1 _ => by kernel_rfl) ?_
  simp only [Act.put, List.setIfInBounds_toArray, List.set_cons_succ, List.set_cons_zero]
  refine wpFree_one rfl (.pointer (some ⟨g, 0, none⟩)) (fun w1 _ => by kernel_rfl) ?_
  simp only [Act.put, List.setIfInBounds_toArray, List.set_cons_succ, List.set_cons_zero]
  refine wpFree_one rfl (.pointer (some ⟨g, 1, none⟩)) (fun w1 _ => by kernel_rfl) ?_
  simp only [Act.put, List.setIfInBounds_toArray, List.set_cons_succ, List.set_cons_zero]
  refine wpFree_one rfl (.pointer (some ⟨g, 1, none⟩)) (fun w1 _ => by kernel_rfl) ?_
  simp only [Act.put, List.setIfInBounds_toArray, List.set_cons_succ, List.set_cons_zero]
  refine wpFree_loadF F rfl rfl rfl rfl List.mem_cons_self rfl Try.underlying22 ?_
  simp only [Act.put, List.setIfInBounds_toArray, List.set_cons_succ, List.set_cons_zero]
  refine wpFree_one rfl (.float .f32 s) (fun w1 _ => by kernel_rfl) ?_
  simp only [Act.put, List.setIfInBounds_toArray, List.set_cons_succ, List.set_cons_zero]
  refine wpFree_farith rfl rfl rfl rfl rfl (fun r124 h124 f124 => ?_)
  simp only [Act.put, List.setIfInBounds_toArray, List.set_cons_succ, List.set_cons_zero]
  refine wpFree_one rfl (.pointer (some ⟨g, 0, none⟩)) (fun w1 _ => by kernel_rfl) ?_
  simp only [Act.put, List.setIfInBounds_toArray, List.set_cons_succ, List.set_cons_zero]
  refine wpFree_one rfl (.pointer (some ⟨g, 0, none⟩)) (fun w1 _ => by kernel_rfl) ?_
  simp only [Act.put, List.setIfInBounds_toArray, List.set_cons_succ, List.set_cons_zero]
  refine wpFree_one rfl (.pointer (some ⟨g, 1, none⟩)) (fun w1 _ => by kernel_rfl) ?_
  simp only [Act.put, List.setIfInBounds_toArray, List.set_cons_succ, List.set_cons_zero]
  refine wpFree_one rfl (.pointer (some ⟨g, 1 + 1, none⟩)) (fun w1 _ => by kernel_rfl) ?_
  simp only [Act.put, List.setIfInBounds_toArray, List.set_cons_succ, List.set_cons_zero]
  refine wpFree_loadF F rfl rfl rfl rfl List.mem_cons_self rfl Try.underlying22 ?_
  simp only [Act.put, List.setIfInBounds_toArray, List.set_cons_succ, List.set_cons_zero]
  refine wpFree_one rfl (.float .f32 x) (fun w1 _ => by kernel_rfl) ?_
  simp only [Act.put, List.setIfInBounds_toArray, List.set_cons_succ, List.set_cons_zero]
  refine wpFree_farith rfl rfl rfl rfl rfl (fun r131 h131 f131 => ?_)
  simp only [Act.put, List.setIfInBounds_toArray, List.set_cons_succ, List.set_cons_zero]
  refine wpFree_farith rfl rfl rfl rfl rfl (fun r132 h132 f132 => ?_)
  simp only [Act.put, List.setIfInBounds_toArray, List.set_cons_succ, List.set_cons_zero]
  refine wpFree_one rfl (.pointer (some ⟨g, 0, none⟩)) (fun w1 _ => by kernel_rfl) ?_
  simp only [Act.put, List.setIfInBounds_toArray, List.set_cons_succ, List.set_cons_zero]
  refine wpFree_one rfl (.pointer (some ⟨g, 0, none⟩)) (fun w1 _ => by kernel_rfl) ?_
  simp only [Act.put, List.setIfInBounds_toArray, List.set_cons_succ, List.set_cons_zero]
  refine wpFree_one rfl (.pointer (some ⟨g, 1, none⟩)) (fun w1 _ => by kernel_rfl) ?_
  simp only [Act.put, List.setIfInBounds_toArray, List.set_cons_succ, List.set_cons_zero]
  refine wpFree_one rfl (.pointer (some ⟨g, 1 + 2, none⟩)) (fun w1 _ => by kernel_rfl) ?_
  simp only [Act.put, List.setIfInBounds_toArray, List.set_cons_succ, List.set_cons_zero]
  refine wpFree_loadF F rfl rfl rfl rfl List.mem_cons_self rfl Try.underlying22 ?_
  simp only [Act.put, List.setIfInBounds_toArray, List.set_cons_succ, List.set_cons_zero]
  refine wpFree_one rfl (.float .f32 y) (fun w1 _ => by kernel_rfl) ?_
  simp only [Act.put, List.setIfInBounds_toArray, List.set_cons_succ, List.set_cons_zero]
  refine wpFree_farith rfl rfl rfl rfl rfl (fun r139 h139 f139 => ?_)
  simp only [Act.put, List.setIfInBounds_toArray, List.set_cons_succ, List.set_cons_zero]
  refine wpFree_farith rfl rfl rfl rfl rfl (fun r140 h140 f140 => ?_)
  simp only [Act.put, List.setIfInBounds_toArray, List.set_cons_succ, List.set_cons_zero]
  refine wpFree_one rfl (.float .f32 r140) (fun w1 _ => by kernel_rfl) ?_
  simp only [Act.put, List.setIfInBounds_toArray, List.set_cons_succ, List.set_cons_zero]
  refine wpFree_nil (fun w3 hw3 _ => ?_)
  replace U := hid ((U.out.le (le_drewN _ 1)).le hw3)
  replace F := Frm.one (((F.drewN 1).le hw3).row List.mem_cons_self)
  clear hw3 c0 c1 c2 c3 c4 c5
  have e : can .f32 r140 = outF 4 a b c x y s := (by rw [h140.out]; exact fop_congr (h132.out.trans ((fop_congr (h124.out.trans (can_fop _ _ _ _).symm) (h131.out.trans (can_fop _ _ _ _).symm)).trans (can_fop _ _ _ _).symm)) (h139.out.trans (can_fop _ _ _ _).symm))
  have hf := f140
  replace e := hid e
  go_wp2
  refine region_tail (fun _ _ _ v => v = .float .f32 (kept x)) 6 (by kernel_rfl) (by kernel_rfl) ?_
  simp only [List.take_succ_cons, List.take_zero, List.drop_succ_cons, List.drop_zero]
  refine wpFree_one rfl (.pointer (some ⟨g, 0, none⟩)) (fun w1 _ => by kernel_rfl) ?_
  simp only [Act.put, List.setIfInBounds_toArray, List.set_cons_succ, List.set_cons_zero]
  refine wpFree_one rfl (.float .f32 x) (fun w1 _ => by kernel_rfl) ?_
  simp only [Act.put, List.setIfInBounds_toArray, List.set_cons_succ, List.set_cons_zero]
  refine wpFree_call rfl rfl Try.func71 (by kernel_rfl) (by kernel_rfl) (args := #[.float .f32 x]) (by simp [Act.eval]) (fun _ _ _ _ h => h) (fun w1 _ => (s_Kept x w1 Hx.out).mono ?_) ?_
  · rintro e w2 ⟨rfl, n, rfl⟩
    exact ⟨_, rfl, le_drewN _ n, rfl⟩
  rintro v ⟨_, _, rfl⟩
  simp only [Act.put, List.setIfInBounds_toArray, List.set_cons_succ, List.set_cons_zero]
  refine wpFree_one rfl (.pointer (some ⟨g, 0, none⟩)) (fun w1 _ => by kernel_rfl) ?_
  simp only [Act.put, List.setIfInBounds_toArray, List.set_cons_succ, List.set_cons_zero]
  refine wpFree_one rfl (.pointer (some ⟨g, 4, none⟩)) (fun w1 _ => by kernel_rfl) ?_
  simp only [Act.put, List.setIfInBounds_toArray, List.set_cons_succ, List.set_cons_zero]
  refine wpFree_one rfl (.pointer (some ⟨g, 4 + 1, none⟩)) (fun w1 _ => by kernel_rfl) ?_
  simp only [Act.put, List.setIfInBounds_toArray, List.set_cons_succ, List.set_cons_zero]
  refine wpFree_nil (fun w5 hw5 _ => ?_)
  have RR := ((F.drewN 1).le hw5).row List.mem_cons_self
  replace U := hid (((U.out.le (le_drewN _ 1)).le hw5).setCell (a := ⟨g, 5, none⟩) rfl (.float .f32 (kept x)))
  have cc := RR.cell? 5
  have ff := RR.frozen 5
  have RN := RR.set 5 (.float .f32 (kept x))
  replace RN : Row (w5.setCell ⟨g, 5, none⟩ (.float .f32 (kept x))) g 33 (#[.int .i64 4, .float .f32 a, .float .f32 b, .float .f32 c, .float .f32 x, .float .f32 (kept x)] : Array Value) := by simpa using RN
  replace RR := hid RR
  clear hw5 F
  have F := Frm.one RN
  clear RN
  go_wp2
  refine region_tail (fun _ _ _ v => v = .float .f32 (kept r140)) 6 (by kernel_rfl) (by kernel_rfl) ?_
  simp only [List.take_succ_cons, List.take_zero, List.drop_succ_cons, List.drop_zero]
  refine wpFree_one rfl (.pointer (some ⟨g, 0, none⟩)) (fun w1 _ => by kernel_rfl) ?_
  simp only [Act.put, List.setIfInBounds_toArray, List.set_cons_succ, List.set_cons_zero]
  refine wpFree_one rfl (.float .f32 r140) (fun w1 _ => by kernel_rfl) ?_
  simp only [Act.put, List.setIfInBounds_toArray, List.set_cons_succ, List.set_cons_zero]
  refine wpFree_call rfl rfl Try.func71 (by kernel_rfl) (by kernel_rfl) (args := #[.float .f32 r140]) (by simp [Act.eval]) (fun _ _ _ _ h => h) (fun w1 _ => (s_Kept r140 w1 hf.out).mono ?_) ?_
  · rintro e w2 ⟨rfl, n, rfl⟩
    exact ⟨_, rfl, le_drewN _ n, rfl⟩
  rintro v ⟨_, _, rfl⟩
  simp only [Act.put, List.setIfInBounds_toArray, List.set_cons_succ, List.set_cons_zero]
  refine wpFree_one rfl (.pointer (some ⟨g, 0, none⟩)) (fun w1 _ => by kernel_rfl) ?_
  simp only [Act.put, List.setIfInBounds_toArray, List.set_cons_succ, List.set_cons_zero]
  refine wpFree_one rfl (.pointer (some ⟨g, 4, none⟩)) (fun w1 _ => by kernel_rfl) ?_
  simp only [Act.put, List.setIfInBounds_toArray, List.set_cons_succ, List.set_cons_zero]
  refine wpFree_one rfl (.pointer (some ⟨g, 4, none⟩)) (fun w1 _ => by kernel_rfl) ?_
  simp only [Act.put, List.setIfInBounds_toArray, List.set_cons_succ, List.set_cons_zero]
  refine wpFree_nil (fun w5 hw5 _ => ?_)
  have RR := ((F.drewN 1).le hw5).row List.mem_cons_self
  replace U := hid (((U.out.le (le_drewN _ 1)).le hw5).setCell (a := ⟨g, 4, none⟩) rfl (.float .f32 (kept r140)))
  have cc := RR.cell? 4
  have ff := RR.frozen 4
  have RN := RR.set 4 (.float .f32 (kept r140))
  replace RN : Row (w5.setCell ⟨g, 4, none⟩ (.float .f32 (kept r140))) g 33 (#[.int .i64 4, .float .f32 a, .float .f32 b, .float .f32 c, .float .f32 (kept r140), .float .f32 (kept x)] : Array Value) := by simpa using RN
  replace RR := hid RR
  clear hw5 F
  have F := Frm.one RN
  clear RN
  have RN := hid (F.row List.mem_cons_self)
  clear F
  go_wp2
  go_ret
  refine ⟨_, rfl, e.out, hf.out, ?_, U.out⟩
  have e0 : (kept r140) = st0 4 a b c x y s := by exact kept_can (e.out.trans (can_outF _ _ _ _ _ _ _).symm)
  have e1 : (kept x) = st1 4 a b c x y s := by rfl
  rw [← e0, ← e1]
  exact RN.out
set_option maxRecDepth 100000 in
set_option maxHeartbeats 2000000 in
theorem s_Step5 (a b c x y s g : Nat) (w : World) (R : Row w g 33 (#[.int .i64 5, .float .f32 a, .float .f32 b, .float .f32 c, .float .f32 x, .float .f32 y] : Array Value)) (hx : fits .f32 x) (hs : fits .f32 s) :
    Calls Try.prog 47 #[.pointer (some ⟨g, 0, none⟩), .float .f32 s] w (OutS 5 a b c x y s g 33 (fun u v => (#[.int .i64 5, .float .f32 a, .float .f32 b, .float .f32 c, .float .f32 u, .float .f32 v] : Array Value)) w) := by
  have Hx := hid hx; have Hs := hid hs; clear hx hs
  have F := Frm.one R
  have U := hid (Upd.refl g w)
  obtain ⟨c0, c1, c2, c3, c4, c5⟩ := R.six
  clear R
  go_enter Try.func47, Try.ntmps47
  go_wp2_with (with_reducible refine wpList_farith rfl rfl rfl rfl rfl ?_; intro r n hr hf)
  rename_i r1 n1 h1 f1 r2 n2 h2 f2 KK aa
  clear c0 c1 c2 c3 c4 c5
  have e : can .f32 r = outF 5 a b c x y s := (by rw [hr.out]; exact fop_congr (h1.out.trans (can_fop _ _ _ _).symm) (h2.out.trans (can_fop _ _ _ _).symm))
  replace U := hid (U.out.le (le_drewN _ (n1 + n2 + n)))
  replace F := Frm.one ((F.drewN (n1 + n2 + n)).row List.mem_cons_self)
  replace e := hid e
  refine region_tail (fun _ _ _ v => v = .float .f32 (kept s)) 6 (by kernel_rfl) (by kernel_rfl) ?_
  simp only [List.take_succ_cons, List.take_zero, List.drop_succ_cons, List.drop_zero]
  refine wpFree_one rfl (.pointer (some ⟨g, 0, none⟩)) (fun w1 _ => by kernel_rfl) ?_
  simp only [Act.put, List.setIfInBounds_toArray, List.set_cons_succ, List.set_cons_zero]
  refine wpFree_one rfl (.float .f32 s) (fun w1 _ => by kernel_rfl) ?_
  simp only [Act.put, List.setIfInBounds_toArray, List.set_cons_succ, List.set_cons_zero]
  refine wpFree_call rfl rfl Try.func71 (by kernel_rfl) (by kernel_rfl) (args := #[.float .f32 s]) (by simp [Act.eval]) (fun _ _ _ _ h => h) (fun w1 _ => (s_Kept s w1 Hs.out).mono ?_) ?_
  · rintro e w2 ⟨rfl, n, rfl⟩
    exact ⟨_, rfl, le_drewN _ n, rfl⟩
  rintro v ⟨_, _, rfl⟩
  simp only [Act.put, List.setIfInBounds_toArray, List.set_cons_succ, List.set_cons_zero]
  refine wpFree_one rfl (.pointer (some ⟨g, 0, none⟩)) (fun w1 _ => by kernel_rfl) ?_
  simp only [Act.put, List.setIfInBounds_toArray, List.set_cons_succ, List.set_cons_zero]
  refine wpFree_one rfl (.pointer (some ⟨g, 4, none⟩)) (fun w1 _ => by kernel_rfl) ?_
  simp only [Act.put, List.setIfInBounds_toArray, List.set_cons_succ, List.set_cons_zero]
  refine wpFree_one rfl (.pointer (some ⟨g, 4, none⟩)) (fun w1 _ => by kernel_rfl) ?_
  simp only [Act.put, List.setIfInBounds_toArray, List.set_cons_succ, List.set_cons_zero]
  refine wpFree_nil (fun w5 hw5 _ => ?_)
  have RR := ((F.drewN 1).le hw5).row List.mem_cons_self
  replace U := hid (((U.out.le (le_drewN _ 1)).le hw5).setCell (a := ⟨g, 4, none⟩) rfl (.float .f32 (kept s)))
  have cc := RR.cell? 4
  have ff := RR.frozen 4
  have RN := RR.set 4 (.float .f32 (kept s))
  replace RN : Row (w5.setCell ⟨g, 4, none⟩ (.float .f32 (kept s))) g 33 (#[.int .i64 5, .float .f32 a, .float .f32 b, .float .f32 c, .float .f32 (kept s), .float .f32 y] : Array Value) := by simpa using RN
  replace RR := hid RR
  clear hw5 F
  have F := Frm.one RN
  clear RN
  go_wp2
  refine region_tail (fun _ _ _ v => v = .float .f32 (kept r)) 6 (by kernel_rfl) (by kernel_rfl) ?_
  simp only [List.take_succ_cons, List.take_zero, List.drop_succ_cons, List.drop_zero]
  refine wpFree_one rfl (.pointer (some ⟨g, 0, none⟩)) (fun w1 _ => by kernel_rfl) ?_
  simp only [Act.put, List.setIfInBounds_toArray, List.set_cons_succ, List.set_cons_zero]
  refine wpFree_one rfl (.float .f32 r) (fun w1 _ => by kernel_rfl) ?_
  simp only [Act.put, List.setIfInBounds_toArray, List.set_cons_succ, List.set_cons_zero]
  refine wpFree_call rfl rfl Try.func71 (by kernel_rfl) (by kernel_rfl) (args := #[.float .f32 r]) (by simp [Act.eval]) (fun _ _ _ _ h => h) (fun w1 _ => (s_Kept r w1 hf.out).mono ?_) ?_
  · rintro e w2 ⟨rfl, n, rfl⟩
    exact ⟨_, rfl, le_drewN _ n, rfl⟩
  rintro v ⟨_, _, rfl⟩
  simp only [Act.put, List.setIfInBounds_toArray, List.set_cons_succ, List.set_cons_zero]
  refine wpFree_one rfl (.pointer (some ⟨g, 0, none⟩)) (fun w1 _ => by kernel_rfl) ?_
  simp only [Act.put, List.setIfInBounds_toArray, List.set_cons_succ, List.set_cons_zero]
  refine wpFree_one rfl (.pointer (some ⟨g, 4, none⟩)) (fun w1 _ => by kernel_rfl) ?_
  simp only [Act.put, List.setIfInBounds_toArray, List.set_cons_succ, List.set_cons_zero]
  refine wpFree_one rfl (.pointer (some ⟨g, 4 + 1, none⟩)) (fun w1 _ => by kernel_rfl) ?_
  simp only [Act.put, List.setIfInBounds_toArray, List.set_cons_succ, List.set_cons_zero]
  refine wpFree_nil (fun w5 hw5 _ => ?_)
  have RR := ((F.drewN 1).le hw5).row List.mem_cons_self
  replace U := hid (((U.out.le (le_drewN _ 1)).le hw5).setCell (a := ⟨g, 5, none⟩) rfl (.float .f32 (kept r)))
  have cc := RR.cell? 5
  have ff := RR.frozen 5
  have RN := RR.set 5 (.float .f32 (kept r))
  replace RN : Row (w5.setCell ⟨g, 5, none⟩ (.float .f32 (kept r))) g 33 (#[.int .i64 5, .float .f32 a, .float .f32 b, .float .f32 c, .float .f32 (kept s), .float .f32 (kept r)] : Array Value) := by simpa using RN
  replace RR := hid RR
  clear hw5 F
  have F := Frm.one RN
  clear RN
  have RN := hid (F.row List.mem_cons_self)
  clear F
  go_wp2
  go_ret
  refine ⟨_, rfl, e.out, hf.out, ?_, U.out⟩
  have e0 : (kept s) = st0 5 a b c x y s := by rfl
  have e1 : (kept r) = st1 5 a b c x y s := by exact kept_can (e.out.trans (can_outF _ _ _ _ _ _ _).symm)
  rw [← e0, ← e1]
  exact RN.out
end Go.Proofs.Ytaenbpkcehenkab
