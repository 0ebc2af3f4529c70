/- 'StepFilter' of both. -/
import Derived.Test.YtaenbpkcehenkabSpecStep
namespace Go.Fk
open Go Go.RowKit
theorem zero_of_same {y : Nat} (h : sameB y 0 = true) : y = 0 := by
  have e : can .f32 y = can .f32 0 := by
    simp only [sameB, beq_iff_eq] at h
    exact_mod_cast h
  exact (eq_of_can e.symm (by decide)).symm
theorem okF_y {k : Int} {a b c x y : Nat} (h : okF k a b c x y = true) (hk : k = 1 ∨ k = 2) : y = 0 := by
  simp only [okF, Bool.and_eq_true] at h
  have h2 := h.2.2
  rw [show sU k = 1 by simp [sU, hk]] at h2
  simp only [usedB, List.all_eq_true, List.mem_range] at h2
  exact zero_of_same (h2 1 (by omega))
theorem part12 {v0 v1 v2 : Value} : ∀ j, j < [v1, v2].length → (#[v0, v1, v2] : Array Value)[1 + j]? = [v1, v2][j]? := by
  intro j hj
  match j, hj with
  | 0, _ => rfl
  | 1, _ => rfl
/-- What 'StepFilter' gives of a valid filter. -/
def OutSF (k : Int) (a b c x y s : Nat) (w : World) (e : Ending) (w' : World) : Prop := ∃ r, e = .returned (.tuple #[(.agg #[.int .i64 k, .float .f32 a, .float .f32 b, .float .f32 c, .float .f32 (st0 k a b c x y s), .float .f32 (st1 k a b c x y s)]), .float .f32 r, .int .i64 0]) ∧ can .f32 r = outF k a b c x y s ∧ le w w'
theorem fits_st0 {k : Int} {a b c x y s : Nat} (hs : fits .f32 s) (ho : fits .f32 (outF k a b c x y s)) : fits .f32 (st0 k a b c x y s) := by
  unfold st0; split; exact fits_kept ho; exact fits_kept hs
end Go.Fk
namespace Go.Proofs.Ytaenbpkcehenkab
open Go.RowKit Go.Fk
theorem i_step (k : Int) (a b c x y s g : Nat) (w : World) (hk : 1 ≤ k ∧ k ≤ 5) (R : Row w g 78 #[mdl k a b c, .float .f32 x, .float .f32 y]) (hx : fits .f32 x) (hs : fits .f32 s) :
    Calls Try.prog 49 #[.pointer (some ⟨g, 0, none⟩), .float .f32 s] w (OutS k a b c x y s g 78 (fun u v => #[mdl k a b c, .float .f32 u, .float .f32 v]) w) := by
  rcases (show k = 1 ∨ k = 2 ∨ k = 3 ∨ k = 4 ∨ k = 5 by omega) with rfl | rfl | rfl | rfl | rfl
  · simp only [mdl1] at R ⊢; exact i_step1 a b c x y s g w R hx hs
  · simp only [mdl2] at R ⊢; exact i_step2 a b c x y s g w R hx hs
  · simp only [mdl3] at R ⊢; exact i_step3 a b c x y s g w R hx hs
  · simp only [mdl4] at R ⊢; exact i_step4 a b c x y s g w R hx hs
  · simp only [mdl5] at R ⊢; exact i_step5 a b c x y s g w R hx hs
theorem s_Step (k : Int) (a b c x y s g : Nat) (w : World) (hv : okF k a b c x y = true) (R : Row w g 33 (#[.int .i64 k, .float .f32 a, .float .f32 b, .float .f32 c, .float .f32 x, .float .f32 y] : Array Value)) (hx : fits .f32 x) (hs : fits .f32 s) :
    Calls Try.prog 47 #[.pointer (some ⟨g, 0, none⟩), .float .f32 s] w (OutS k a b c x y s g 33 (fun u v => (#[.int .i64 k, .float .f32 a, .float .f32 b, .float .f32 c, .float .f32 u, .float .f32 v] : Array Value)) w) := by
  have hk := okF_kind hv
  rcases (show k = 1 ∨ k = 2 ∨ k = 3 ∨ k = 4 ∨ k = 5 by omega) with rfl | rfl | rfl | rfl | rfl
  · exact s_Step1 a b c x y s g w R hx hs (okF_y hv (.inl rfl))
  · exact s_Step2 a b c x y s g w R hx hs (okF_y hv (.inr rfl))
  · exact s_Step3 a b c x y s g w R hx hs
  · exact s_Step4 a b c x y s g w R hx hs
  · exact s_Step5 a b c x y s g w R hx hs
set_option maxHeartbeats 2000000 in
theorem i_StepFilter_no (k : Int) (a b c x y s : Nat) (w : World) (hv : okF k a b c x y = false) (hf : fits .f32 a ∧ fits .f32 b ∧ fits .f32 c ∧ fits .f32 x ∧ fits .f32 y) :
    Calls Try.prog 18 #[(.agg #[.int .i64 k, .float .f32 a, .float .f32 b, .float .f32 c, .float .f32 x, .float .f32 y]), .float .f32 s] w fun e w' => e = .returned (.tuple #[(.agg #[.int .i64 0, .float .f32 0, .float .f32 0, .float .f32 0, .float .f32 0, .float .f32 0]), .float .f32 0, .int .i64 1]) ∧ le w w' := by
  have Hf := hid hf; clear hf
  have hV := hid (fun w => i_ValidFilter k a b c x y w Hf.out)
  rw [hv] at hV
  clear hv
  have F := ((Frm.nil w).box 33 (#[.int .i64 k, .float .f32 a, .float .f32 b, .float .f32 c, .float .f32 x, .float .f32 y] : Array Value)).box 33 (#[.int .i64 0, .float .f32 0, .float .f32 0, .float .f32 0, .float .f32 0, .float .f32 0] : Array Value)
  simp only [World.size_alloc] at F
  go_enter Try.func18, Try.ntmps18
  go_wp2_with (first | ((with_reducible refine at_load rfl ?_); first | (with_reducible refine wpList_loadFr F rfl rfl rfl (by first | exact List.mem_cons_self | exact List.mem_cons_of_mem _ (List.mem_cons_self) | exact List.mem_cons_of_mem _ (List.mem_cons_of_mem _ (List.mem_cons_self)) | exact List.mem_cons_of_mem _ (List.mem_cons_of_mem _ (List.mem_cons_of_mem _ (List.mem_cons_self))) | exact List.mem_cons_of_mem _ (List.mem_cons_of_mem _ (List.mem_cons_of_mem _ (List.mem_cons_of_mem _ (List.mem_cons_self)))) | exact List.mem_cons_of_mem _ (List.mem_cons_of_mem _ (List.mem_cons_of_mem _ (List.mem_cons_of_mem _ (List.mem_cons_of_mem _ (List.mem_cons_self))))) | exact List.mem_cons_of_mem _ (List.mem_cons_of_mem _ (List.mem_cons_of_mem _ (List.mem_cons_of_mem _ (List.mem_cons_of_mem _ (List.mem_cons_of_mem _ (List.mem_cons_self))))))) Try.underlying33 rfl infoFil (by simp [size_ftab]) ?_) | (with_reducible refine wpList_loadFr (F.box _ _) rfl rfl rfl (by first | exact List.mem_cons_self | exact List.mem_cons_of_mem _ (List.mem_cons_self) | exact List.mem_cons_of_mem _ (List.mem_cons_of_mem _ (List.mem_cons_self)) | exact List.mem_cons_of_mem _ (List.mem_cons_of_mem _ (List.mem_cons_of_mem _ (List.mem_cons_self))) | exact List.mem_cons_of_mem _ (List.mem_cons_of_mem _ (List.mem_cons_of_mem _ (List.mem_cons_of_mem _ (List.mem_cons_self)))) | exact List.mem_cons_of_mem _ (List.mem_cons_of_mem _ (List.mem_cons_of_mem _ (List.mem_cons_of_mem _ (List.mem_cons_of_mem _ (List.mem_cons_self))))) | exact List.mem_cons_of_mem _ (List.mem_cons_of_mem _ (List.mem_cons_of_mem _ (List.mem_cons_of_mem _ (List.mem_cons_of_mem _ (List.mem_cons_of_mem _ (List.mem_cons_self))))))) Try.underlying33 rfl infoFil (by simp [size_ftab]) ?_)) | (go_at_call 16; ((with_reducible refine (hV.out _).mono ?_); rintro e w1 ⟨rfl, hb1⟩; (first | replace F := F.le hb1 | replace F := (F.box _ _).le hb1 | replace F := ((F.box _ _).box _ _).le hb1 | replace F := (F.drewN _).le hb1 | replace F := ((F.box _ _).drewN _).le hb1))) | ((with_reducible refine stop_store rfl ?_)))
  show wpList _ _ _ _ _ _
  refine wpList_storeD rfl rfl rfl (cells := (#[.int .i64 0, .float .f32 0, .float .f32 0, .float .f32 0, .float .f32 0, .float .f32 0] : Array Value)) rfl (F.row List.mem_cons_self) infoFil rfl (by simp [Value.oneCell']) (fun w4 KW => ?_)
  have G := F.wrote KW (by omega) (L' := []) (by simp)
  clear F KW
  go_wp2
  exact bodyPost_ret (results_row3 rfl _ _ _ _ _ rfl (G.row List.mem_cons_self) Try.underlying33 rfl infoFil) rfl ⟨rfl, G.below⟩
set_option maxHeartbeats 2000000 in
theorem i_StepFilter_yes (k : Int) (a b c x y s : Nat) (w : World) (hv : okF k a b c x y = true) (hf : fits .f32 a ∧ fits .f32 b ∧ fits .f32 c ∧ fits .f32 x ∧ fits .f32 y) (hs : fits .f32 s) :
    Calls Try.prog 18 #[(.agg #[.int .i64 k, .float .f32 a, .float .f32 b, .float .f32 c, .float .f32 x, .float .f32 y]), .float .f32 s] w (OutSF k a b c x y s w) := by
  have Hf := hid hf; have Hs := hid hs; clear hf hs
  have hV := hid (fun w => i_ValidFilter k a b c x y w Hf.out)
  have HK := hid (okF_kind hv)
  rw [hv] at hV
  clear hv
  have F := ((Frm.nil w).box 33 (#[.int .i64 k, .float .f32 a, .float .f32 b, .float .f32 c, .float .f32 x, .float .f32 y] : Array Value)).box 33 (#[.int .i64 0, .float .f32 0, .float .f32 0, .float .f32 0, .float .f32 0, .float .f32 0] : Array Value)
  simp only [World.size_alloc] at F
  go_enter Try.func18, Try.ntmps18
  go_wp2_with (first | ((with_reducible refine at_load rfl ?_); first | (with_reducible refine wpList_loadFr F rfl rfl rfl (by first | exact List.mem_cons_self | exact List.mem_cons_of_mem _ (List.mem_cons_self) | exact List.mem_cons_of_mem _ (List.mem_cons_of_mem _ (List.mem_cons_self)) | exact List.mem_cons_of_mem _ (List.mem_cons_of_mem _ (List.mem_cons_of_mem _ (List.mem_cons_self))) | exact List.mem_cons_of_mem _ (List.mem_cons_of_mem _ (List.mem_cons_of_mem _ (List.mem_cons_of_mem _ (List.mem_cons_self)))) | exact List.mem_cons_of_mem _ (List.mem_cons_of_mem _ (List.mem_cons_of_mem _ (List.mem_cons_of_mem _ (List.mem_cons_of_mem _ (List.mem_cons_self))))) | exact List.mem_cons_of_mem _ (List.mem_cons_of_mem _ (List.mem_cons_of_mem _ (List.mem_cons_of_mem _ (List.mem_cons_of_mem _ (List.mem_cons_of_mem _ (List.mem_cons_self))))))) Try.underlying33 rfl infoFil (by simp [size_ftab]) ?_) | (with_reducible refine wpList_loadFr (F.box _ _) rfl rfl rfl (by first | exact List.mem_cons_self | exact List.mem_cons_of_mem _ (List.mem_cons_self) | exact List.mem_cons_of_mem _ (List.mem_cons_of_mem _ (List.mem_cons_self)) | exact List.mem_cons_of_mem _ (List.mem_cons_of_mem _ (List.mem_cons_of_mem _ (List.mem_cons_self))) | exact List.mem_cons_of_mem _ (List.mem_cons_of_mem _ (List.mem_cons_of_mem _ (List.mem_cons_of_mem _ (List.mem_cons_self)))) | exact List.mem_cons_of_mem _ (List.mem_cons_of_mem _ (List.mem_cons_of_mem _ (List.mem_cons_of_mem _ (List.mem_cons_of_mem _ (List.mem_cons_self))))) | exact List.mem_cons_of_mem _ (List.mem_cons_of_mem _ (List.mem_cons_of_mem _ (List.mem_cons_of_mem _ (List.mem_cons_of_mem _ (List.mem_cons_of_mem _ (List.mem_cons_self))))))) Try.underlying33 rfl infoFil (by simp [size_ftab]) ?_)) | (go_at_call 16; ((with_reducible refine (hV.out _).mono ?_); rintro e w1 ⟨rfl, hb1⟩; (first | replace F := F.le hb1 | replace F := (F.box _ _).le hb1 | replace F := ((F.box _ _).box _ _).le hb1 | replace F := (F.drewN _).le hb1 | replace F := ((F.box _ _).drewN _).le hb1))) | (go_at_call 48; ((with_reducible refine (i_newRunner _ _ _ _ _ _ _ HK.out).mono ?_); rintro e w2 ⟨g, rfl, hg, hR, hl⟩; have hne := hid (F.fresh hg); have hge := hid (Nat.le_trans F.size hg); replace F := F.push hR hl; clear hg hR)) | (go_at_call 49; ((with_reducible refine (i_step _ _ _ _ _ _ _ _ _ HK.out (F.row List.mem_cons_self) Hf.out.2.2.2.1 Hs.out).mono ?_); rintro e w3 ⟨r, rfl, hr, fr, hR, hU⟩; replace F := F.upd hR hU hge.out (fun x hx => ⟨List.mem_cons_of_mem _ hx, hne.out x hx⟩); replace hr := hid hr; clear hR hU)) | (with_reducible refine wpList_loadPartFr F [.float .f32 (st0 k a b c x y s), .float .f32 (st1 k a b c x y s)] rfl rfl rfl List.mem_cons_self Try.underlying29 rfl part12 info2 (by simp) ?_) | ((with_reducible refine stop_store rfl ?_)))
  show wpList _ _ _ _ _ _
  have hn1 : ∀ z ∈ [(w.heap.size + 1, 33, (#[.int .i64 0, .float .f32 0, .float .f32 0, .float .f32 0, .float .f32 0, .float .f32 0] : Array Value))], z ∈ [(g, 78, (#[mdl k a b c, .float .f32 (st0 k a b c x y s), .float .f32 (st1 k a b c x y s)] : Array Value)), (w.heap.size + 1, 33, (#[.int .i64 0, .float .f32 0, .float .f32 0, .float .f32 0, .float .f32 0, .float .f32 0] : Array Value)), (w.heap.size, 33, (#[.int .i64 k, .float .f32 a, .float .f32 b, .float .f32 c, .float .f32 x, .float .f32 y] : Array Value))] ∧ z.1 ≠ w.heap.size := by
    intro z hx
    rcases List.mem_cons.1 hx with rfl | hx
    · exact ⟨List.mem_cons_of_mem _ List.mem_cons_self, by simp⟩
    · cases hx
  refine wpList_store2 rfl rfl rfl rfl (F.row (List.mem_cons_of_mem _ (List.mem_cons_of_mem _ List.mem_cons_self))) info2 (by simp [Value.oneCell']) (fun w4 KW => ?_)
  replace F := F.wrote KW (Nat.le_refl _) hn1
  clear KW hn1
  go_wp2_with (first | ((with_reducible refine at_load rfl ?_); first | (with_reducible refine wpList_loadFr F rfl rfl rfl (by first | exact List.mem_cons_self | exact List.mem_cons_of_mem _ (List.mem_cons_self) | exact List.mem_cons_of_mem _ (List.mem_cons_of_mem _ (List.mem_cons_self)) | exact List.mem_cons_of_mem _ (List.mem_cons_of_mem _ (List.mem_cons_of_mem _ (List.mem_cons_self))) | exact List.mem_cons_of_mem _ (List.mem_cons_of_mem _ (List.mem_cons_of_mem _ (List.mem_cons_of_mem _ (List.mem_cons_self)))) | exact List.mem_cons_of_mem _ (List.mem_cons_of_mem _ (List.mem_cons_of_mem _ (List.mem_cons_of_mem _ (List.mem_cons_of_mem _ (List.mem_cons_self))))) | exact List.mem_cons_of_mem _ (List.mem_cons_of_mem _ (List.mem_cons_of_mem _ (List.mem_cons_of_mem _ (List.mem_cons_of_mem _ (List.mem_cons_of_mem _ (List.mem_cons_self))))))) Try.underlying33 rfl infoFil (by simp [size_ftab]) ?_) | (with_reducible refine wpList_loadFr (F.box _ _) rfl rfl rfl (by first | exact List.mem_cons_self | exact List.mem_cons_of_mem _ (List.mem_cons_self) | exact List.mem_cons_of_mem _ (List.mem_cons_of_mem _ (List.mem_cons_self)) | exact List.mem_cons_of_mem _ (List.mem_cons_of_mem _ (List.mem_cons_of_mem _ (List.mem_cons_self))) | exact List.mem_cons_of_mem _ (List.mem_cons_of_mem _ (List.mem_cons_of_mem _ (List.mem_cons_of_mem _ (List.mem_cons_self)))) | exact List.mem_cons_of_mem _ (List.mem_cons_of_mem _ (List.mem_cons_of_mem _ (List.mem_cons_of_mem _ (List.mem_cons_of_mem _ (List.mem_cons_self))))) | exact List.mem_cons_of_mem _ (List.mem_cons_of_mem _ (List.mem_cons_of_mem _ (List.mem_cons_of_mem _ (List.mem_cons_of_mem _ (List.mem_cons_of_mem _ (List.mem_cons_self))))))) Try.underlying33 rfl infoFil (by simp [size_ftab]) ?_)) | ((with_reducible refine stop_store rfl ?_)))
  show wpList _ _ _ _ _ _
  refine wpList_storeD rfl rfl rfl (cells := (#[.int .i64 k, .float .f32 a, .float .f32 b, .float .f32 c, .float .f32 (st0 k a b c x y s), .float .f32 (st1 k a b c x y s)] : Array Value)) rfl (F.row (List.mem_cons_of_mem _ List.mem_cons_self)) infoFil rfl (by simp [Value.oneCell']) (fun w5 KW => ?_)
  have G := F.wrote KW (by omega) (L' := []) (by simp)
  clear F KW
  go_wp2
  exact bodyPost_ret (results_row3 rfl _ _ _ _ _ rfl (G.row List.mem_cons_self) Try.underlying33 rfl infoFil) rfl ⟨_, rfl, hr.out, G.below⟩
set_option maxHeartbeats 2000000 in
theorem s_StepFilter_no (k : Int) (a b c x y s : Nat) (w : World) (hv : okF k a b c x y = false) :
    Calls Try.prog 17 #[(.agg #[.int .i64 k, .float .f32 a, .float .f32 b, .float .f32 c, .float .f32 x, .float .f32 y]), .float .f32 s] w fun e w' => e = .returned (.tuple #[(.agg #[.int .i64 0, .float .f32 0, .float .f32 0, .float .f32 0, .float .f32 0, .float .f32 0]), .float .f32 0, .int .i64 1]) ∧ le w w' := by
  have hV := hid (fun g w (R : Row w g 33 (#[.int .i64 k, .float .f32 a, .float .f32 b, .float .f32 c, .float .f32 x, .float .f32 y] : Array Value)) => s_Ok k a b c x y g w R)
  rw [hv] at hV
  clear hv
  have F := ((Frm.nil w).box 33 (#[.int .i64 k, .float .f32 a, .float .f32 b, .float .f32 c, .float .f32 x, .float .f32 y] : Array Value)).box 33 (#[.int .i64 0, .float .f32 0, .float .f32 0, .float .f32 0, .float .f32 0, .float .f32 0] : Array Value)
  simp only [World.size_alloc] at F
  go_enter Try.func17, Try.ntmps17
  go_wp2_with (first | ((with_reducible refine at_load rfl ?_); first | (with_reducible refine wpList_loadFr F rfl rfl rfl (by first | exact List.mem_cons_self | exact List.mem_cons_of_mem _ (List.mem_cons_self) | exact List.mem_cons_of_mem _ (List.mem_cons_of_mem _ (List.mem_cons_self)) | exact List.mem_cons_of_mem _ (List.mem_cons_of_mem _ (List.mem_cons_of_mem _ (List.mem_cons_self))) | exact List.mem_cons_of_mem _ (List.mem_cons_of_mem _ (List.mem_cons_of_mem _ (List.mem_cons_of_mem _ (List.mem_cons_self)))) | exact List.mem_cons_of_mem _ (List.mem_cons_of_mem _ (List.mem_cons_of_mem _ (List.mem_cons_of_mem _ (List.mem_cons_of_mem _ (List.mem_cons_self))))) | exact List.mem_cons_of_mem _ (List.mem_cons_of_mem _ (List.mem_cons_of_mem _ (List.mem_cons_of_mem _ (List.mem_cons_of_mem _ (List.mem_cons_of_mem _ (List.mem_cons_self))))))) Try.underlying33 rfl infoFil (by simp [size_ftab]) ?_) | (with_reducible refine wpList_loadFr (F.box _ _) rfl rfl rfl (by first | exact List.mem_cons_self | exact List.mem_cons_of_mem _ (List.mem_cons_self) | exact List.mem_cons_of_mem _ (List.mem_cons_of_mem _ (List.mem_cons_self)) | exact List.mem_cons_of_mem _ (List.mem_cons_of_mem _ (List.mem_cons_of_mem _ (List.mem_cons_self))) | exact List.mem_cons_of_mem _ (List.mem_cons_of_mem _ (List.mem_cons_of_mem _ (List.mem_cons_of_mem _ (List.mem_cons_self)))) | exact List.mem_cons_of_mem _ (List.mem_cons_of_mem _ (List.mem_cons_of_mem _ (List.mem_cons_of_mem _ (List.mem_cons_of_mem _ (List.mem_cons_self))))) | exact List.mem_cons_of_mem _ (List.mem_cons_of_mem _ (List.mem_cons_of_mem _ (List.mem_cons_of_mem _ (List.mem_cons_of_mem _ (List.mem_cons_of_mem _ (List.mem_cons_self))))))) Try.underlying33 rfl infoFil (by simp [size_ftab]) ?_)) | (go_at_call 41; ((with_reducible refine (hV.out _ _ (F.row (List.mem_cons_of_mem _ List.mem_cons_self))).mono ?_); rintro e w1 ⟨rfl, n1, rfl⟩; replace F := F.drewN n1)) | ((with_reducible refine stop_store rfl ?_)))
  show wpList _ _ _ _ _ _
  refine wpList_storeD rfl rfl rfl (cells := (#[.int .i64 0, .float .f32 0, .float .f32 0, .float .f32 0, .float .f32 0, .float .f32 0] : Array Value)) rfl (F.row List.mem_cons_self) infoFil rfl (by simp [Value.oneCell']) (fun w4 KW => ?_)
  have G := F.wrote KW (by omega) (L' := []) (by simp)
  clear F KW
  go_wp2
  exact bodyPost_ret (results_row3 rfl _ _ _ _ _ rfl (G.row List.mem_cons_self) Try.underlying33 rfl infoFil) rfl ⟨rfl, G.below⟩
set_option maxHeartbeats 2000000 in
theorem s_StepFilter_yes (k : Int) (a b c x y s : Nat) (w : World) (hv : okF k a b c x y = true) (hx : fits .f32 x) (hs : fits .f32 s) :
    Calls Try.prog 17 #[(.agg #[.int .i64 k, .float .f32 a, .float .f32 b, .float .f32 c, .float .f32 x, .float .f32 y]), .float .f32 s] w (OutSF k a b c x y s w) := by
  have Hx := hid hx; have Hs := hid hs; clear hx hs
  have hV := hid (fun g w (R : Row w g 33 (#[.int .i64 k, .float .f32 a, .float .f32 b, .float .f32 c, .float .f32 x, .float .f32 y] : Array Value)) => s_Ok k a b c x y g w R)
  have HV := hid hv
  rw [hv] at hV
  clear hv
  have F := ((Frm.nil w).box 33 (#[.int .i64 k, .float .f32 a, .float .f32 b, .float .f32 c, .float .f32 x, .float .f32 y] : Array Value)).box 33 (#[.int .i64 0, .float .f32 0, .float .f32 0, .float .f32 0, .float .f32 0, .float .f32 0] : Array Value)
  simp only [World.size_alloc] at F
  have hn1 : ∀ z ∈ [(w.heap.size + 1, 33, (#[.int .i64 0, .float .f32 0, .float .f32 0, .float .f32 0, .float .f32 0, .float .f32 0] : Array Value))], z ∈ [(w.heap.size + 1, 33, (#[.int .i64 0, .float .f32 0, .float .f32 0, .float .f32 0, .float .f32 0, .float .f32 0] : Array Value)), (w.heap.size, 33, (#[.int .i64 k, .float .f32 a, .float .f32 b, .float .f32 c, .float .f32 x, .float .f32 y] : Array Value))] ∧ z.1 ≠ w.heap.size := by
    intro z hx
    rcases List.mem_cons.1 hx with rfl | hx
    · exact ⟨List.mem_cons_self, by simp⟩
    · cases hx
  have hn1 := hid hn1
  go_enter Try.func17, Try.ntmps17
  go_wp2_with (first | ((with_reducible refine at_load rfl ?_); first | (with_reducible refine wpList_loadFr F rfl rfl rfl (by first | exact List.mem_cons_self | exact List.mem_cons_of_mem _ (List.mem_cons_self) | exact List.mem_cons_of_mem _ (List.mem_cons_of_mem _ (List.mem_cons_self)) | exact List.mem_cons_of_mem _ (List.mem_cons_of_mem _ (List.mem_cons_of_mem _ (List.mem_cons_self))) | exact List.mem_cons_of_mem _ (List.mem_cons_of_mem _ (List.mem_cons_of_mem _ (List.mem_cons_of_mem _ (List.mem_cons_self)))) | exact List.mem_cons_of_mem _ (List.mem_cons_of_mem _ (List.mem_cons_of_mem _ (List.mem_cons_of_mem _ (List.mem_cons_of_mem _ (List.mem_cons_self))))) | exact List.mem_cons_of_mem _ (List.mem_cons_of_mem _ (List.mem_cons_of_mem _ (List.mem_cons_of_mem _ (List.mem_cons_of_mem _ (List.mem_cons_of_mem _ (List.mem_cons_self))))))) Try.underlying33 rfl infoFil (by simp [size_ftab]) ?_) | (with_reducible refine wpList_loadFr (F.box _ _) rfl rfl rfl (by first | exact List.mem_cons_self | exact List.mem_cons_of_mem _ (List.mem_cons_self) | exact List.mem_cons_of_mem _ (List.mem_cons_of_mem _ (List.mem_cons_self)) | exact List.mem_cons_of_mem _ (List.mem_cons_of_mem _ (List.mem_cons_of_mem _ (List.mem_cons_self))) | exact List.mem_cons_of_mem _ (List.mem_cons_of_mem _ (List.mem_cons_of_mem _ (List.mem_cons_of_mem _ (List.mem_cons_self)))) | exact List.mem_cons_of_mem _ (List.mem_cons_of_mem _ (List.mem_cons_of_mem _ (List.mem_cons_of_mem _ (List.mem_cons_of_mem _ (List.mem_cons_self))))) | exact List.mem_cons_of_mem _ (List.mem_cons_of_mem _ (List.mem_cons_of_mem _ (List.mem_cons_of_mem _ (List.mem_cons_of_mem _ (List.mem_cons_of_mem _ (List.mem_cons_self))))))) Try.underlying33 rfl infoFil (by simp [size_ftab]) ?_)) | (go_at_call 41; ((with_reducible refine (hV.out _ _ (F.row (List.mem_cons_of_mem _ List.mem_cons_self))).mono ?_); rintro e w1 ⟨rfl, n1, rfl⟩; replace F := F.drewN n1)) | (go_at_call 47; ((with_reducible refine (s_Step _ _ _ _ _ _ _ _ _ HV.out (F.row (List.mem_cons_of_mem _ List.mem_cons_self)) Hx.out Hs.out).mono ?_); rintro e w3 ⟨r, rfl, hr, fr, hR, hU⟩; replace F := F.upd hR hU (Nat.le_refl _) hn1.out; replace hr := hid hr; clear hR hU)) | ((with_reducible refine stop_store rfl ?_)))
  show wpList _ _ _ _ _ _
  refine wpList_storeD rfl rfl rfl (cells := (#[.int .i64 k, .float .f32 a, .float .f32 b, .float .f32 c, .float .f32 (st0 k a b c x y s), .float .f32 (st1 k a b c x y s)] : Array Value)) rfl (F.row (List.mem_cons_of_mem _ List.mem_cons_self)) infoFil rfl (by simp [Value.oneCell']) (fun w5 KW => ?_)
  have G := F.wrote KW (by omega) (L' := []) (by simp)
  clear F KW
  go_wp2
  exact bodyPost_ret (results_row3 rfl _ _ _ _ _ rfl (G.row List.mem_cons_self) Try.underlying33 rfl infoFil) rfl ⟨_, rfl, hr.out, G.below⟩
end Go.Proofs.Ytaenbpkcehenkab
