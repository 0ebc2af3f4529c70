/- 'RunFilter' of both. -/
import Derived.Test.YtaenbpkcehenkabSettleP
import Derived.Test.YtaenbpkcehenkabFreeT
namespace Go.Fk
open Go Go.RowKit
/-- The states of a filter that gets samples. -/
def runS (k : Int) (a b c x y : Nat) (z : Nat → Nat) : Nat → Nat × Nat
  | 0 => (x, y)
  | n + 1 => (st0 k a b c (runS k a b c x y z n).1 (runS k a b c x y z n).2 (z n), st1 k a b c (runS k a b c x y z n).1 (runS k a b c x y z n).2 (z n))
theorem okF_runS {k : Int} {a b c x y : Nat} (z : Nat → Nat) (h : okF k a b c x y = true) (n : Nat) : okF k a b c (runS k a b c x y z n).1 (runS k a b c x y z n).2 = true := by
  induction n with
  | zero => exact h
  | succ n ih => exact okF_step ih
theorem fits_runS {k : Int} {a b c x y : Nat} {z : Nat → Nat} {N : Nat} (hx : fits .f32 x) (hy : fits .f32 y) (hz : ∀ j, j < N → fits .f32 (z j)) (n : Nat) (hn : n ≤ N) : fits .f32 (runS k a b c x y z n).1 ∧ fits .f32 (runS k a b c x y z n).2 := by
  induction n with
  | zero => exact ⟨hx, hy⟩
  | succ n ih => exact ⟨fits_st0 (hz n (by omega)) (fits_outF _ _ _ _ _ _ _), fits_st1 (ih (by omega)).1⟩
/-- What a filter makes of the n-th sample. -/
def runO (k : Int) (a b c x y : Nat) (z : Nat → Nat) (n : Nat) : Nat := outF k a b c (runS k a b c x y z n).1 (runS k a b c x y z n).2 (z n)
def OutRF (k : Int) (a b c x y : Nat) (z : Nat → Nat) (w : World) (e : Ending) (w' : World) : Prop := ∃ h : Nat → Nat, e = .returned (.tuple #[(.agg #[.int .i64 k, .float .f32 a, .float .f32 b, .float .f32 c, .float .f32 (runS k a b c x y z 16).1, .float .f32 (runS k a b c x y z 16).2]), .agg (ftab .f32 h 16), .int .i64 0]) ∧ (∀ j, j < 16 → can .f32 (h j) = runO k a b c x y z j) ∧ le w w'
/-- So many outputs, then the inputs. -/
def upto (j : Nat) (h z : Nat → Nat) : Nat → Nat := fun i => if i < j then h i else z i
theorem upto_zero (h z : Nat → Nat) : upto 0 h z = z := by funext i; simp [upto]
theorem upto_set (j : Nat) (h z : Nat → Nat) (r : Nat) : (fun i => if i = j then r else upto j h z i) = upto (j + 1) (fun i => if i = j then r else h i) z := by
  funext i
  unfold upto
  by_cases e : i = j
  · subst e; simp
  · by_cases l : i < j
    · simp [e, l, show i < j + 1 by omega]
    · simp [e, l, show ¬ i < j + 1 by omega]
theorem upto_full (h z : Nat → Nat) : ftab .f32 (upto 16 h z) 16 = ftab .f32 h 16 := ftab_congr (fun j hj => if_pos hj)
end Go.Fk
namespace Go.Proofs.Ytaenbpkcehenkab
open Go.RowKit Go.Fk
set_option maxHeartbeats 4000000 in
theorem i_RunFilter_yes (k : Int) (a b c x y : Nat) (z : Nat → Nat) (w : World) (hv : okF k a b c x y = true) (hf : fits .f32 a ∧ fits .f32 b ∧ fits .f32 c ∧ fits .f32 x ∧ fits .f32 y) (hz : ∀ j, j < 16 → fits .f32 (z j)) :
    Calls Try.prog 22 #[(.agg #[.int .i64 k, .float .f32 a, .float .f32 b, .float .f32 c, .float .f32 x, .float .f32 y]), .agg (ftab .f32 z 16)] w (OutRF k a b c x y z w) := by
  have Hf := hid hf; have Hz := hid hz; clear hf hz
  have hV := hid (fun w => i_ValidFilter k a b c x y w Hf.out)
  have HK := hid (okF_kind hv)
  rw [hv] at hV
  clear hv
  have F := ((((Frm.nil w).box 33 (#[.int .i64 k, .float .f32 a, .float .f32 b, .float .f32 c, .float .f32 x, .float .f32 y] : Array Value)).box 25 (ftab .f32 z 16)).box 33 (#[.int .i64 0, .float .f32 0, .float .f32 0, .float .f32 0, .float .f32 0, .float .f32 0] : Array Value)).box 25 #[.float .f32 0, .float .f32 0, .float .f32 0, .float .f32 0, .float .f32 0, .float .f32 0, .float .f32 0, .float .f32 0, .float .f32 0, .float .f32 0, .float .f32 0, .float .f32 0, .float .f32 0, .float .f32 0, .float .f32 0, .float .f32 0]
  simp only [World.size_alloc] at F
  go_enter Try.func22, Try.ntmps22
  go_wp2_with (first | ((with_reducible refine at_load rfl ?_); first | (with_reducible refine wpList_loadFr F rfl rfl rfl (by first | exact List.mem_cons_self | exact List.mem_cons_of_mem _ (List.mem_cons_self) | exact List.mem_cons_of_mem _ (List.mem_cons_of_mem _ (List.mem_cons_self)) | exact List.mem_cons_of_mem _ (List.mem_cons_of_mem _ (List.mem_cons_of_mem _ (List.mem_cons_self))) | exact List.mem_cons_of_mem _ (List.mem_cons_of_mem _ (List.mem_cons_of_mem _ (List.mem_cons_of_mem _ (List.mem_cons_self)))) | exact List.mem_cons_of_mem _ (List.mem_cons_of_mem _ (List.mem_cons_of_mem _ (List.mem_cons_of_mem _ (List.mem_cons_of_mem _ (List.mem_cons_self))))) | exact List.mem_cons_of_mem _ (List.mem_cons_of_mem _ (List.mem_cons_of_mem _ (List.mem_cons_of_mem _ (List.mem_cons_of_mem _ (List.mem_cons_of_mem _ (List.mem_cons_self))))))) Try.underlying33 rfl infoFil (by simp [size_ftab]) ?_) | (with_reducible refine wpList_loadFr (F.box _ _) rfl rfl rfl (by first | exact List.mem_cons_self | exact List.mem_cons_of_mem _ (List.mem_cons_self) | exact List.mem_cons_of_mem _ (List.mem_cons_of_mem _ (List.mem_cons_self)) | exact List.mem_cons_of_mem _ (List.mem_cons_of_mem _ (List.mem_cons_of_mem _ (List.mem_cons_self))) | exact List.mem_cons_of_mem _ (List.mem_cons_of_mem _ (List.mem_cons_of_mem _ (List.mem_cons_of_mem _ (List.mem_cons_self)))) | exact List.mem_cons_of_mem _ (List.mem_cons_of_mem _ (List.mem_cons_of_mem _ (List.mem_cons_of_mem _ (List.mem_cons_of_mem _ (List.mem_cons_self))))) | exact List.mem_cons_of_mem _ (List.mem_cons_of_mem _ (List.mem_cons_of_mem _ (List.mem_cons_of_mem _ (List.mem_cons_of_mem _ (List.mem_cons_of_mem _ (List.mem_cons_self))))))) Try.underlying33 rfl infoFil (by simp [size_ftab]) ?_) | (with_reducible refine wpList_loadFr F rfl rfl rfl (by first | exact List.mem_cons_self | exact List.mem_cons_of_mem _ (List.mem_cons_self) | exact List.mem_cons_of_mem _ (List.mem_cons_of_mem _ (List.mem_cons_self)) | exact List.mem_cons_of_mem _ (List.mem_cons_of_mem _ (List.mem_cons_of_mem _ (List.mem_cons_self))) | exact List.mem_cons_of_mem _ (List.mem_cons_of_mem _ (List.mem_cons_of_mem _ (List.mem_cons_of_mem _ (List.mem_cons_self)))) | exact List.mem_cons_of_mem _ (List.mem_cons_of_mem _ (List.mem_cons_of_mem _ (List.mem_cons_of_mem _ (List.mem_cons_of_mem _ (List.mem_cons_self))))) | exact List.mem_cons_of_mem _ (List.mem_cons_of_mem _ (List.mem_cons_of_mem _ (List.mem_cons_of_mem _ (List.mem_cons_of_mem _ (List.mem_cons_of_mem _ (List.mem_cons_self))))))) Try.underlying25 rfl infoBlk (by simp [size_ftab]) ?_) | (with_reducible refine wpList_loadFr (F.box _ _) rfl rfl rfl (by first | exact List.mem_cons_self | exact List.mem_cons_of_mem _ (List.mem_cons_self) | exact List.mem_cons_of_mem _ (List.mem_cons_of_mem _ (List.mem_cons_self)) | exact List.mem_cons_of_mem _ (List.mem_cons_of_mem _ (List.mem_cons_of_mem _ (List.mem_cons_self))) | exact List.mem_cons_of_mem _ (List.mem_cons_of_mem _ (List.mem_cons_of_mem _ (List.mem_cons_of_mem _ (List.mem_cons_self)))) | exact List.mem_cons_of_mem _ (List.mem_cons_of_mem _ (List.mem_cons_of_mem _ (List.mem_cons_of_mem _ (List.mem_cons_of_mem _ (List.mem_cons_self))))) | exact List.mem_cons_of_mem _ (List.mem_cons_of_mem _ (List.mem_cons_of_mem _ (List.mem_cons_of_mem _ (List.mem_cons_of_mem _ (List.mem_cons_of_mem _ (List.mem_cons_self))))))) Try.underlying25 rfl infoBlk (by simp [size_ftab]) ?_)) | (go_at_call 16; ((with_reducible refine (hV.out _).mono ?_); rintro e w1 ⟨rfl, hb1⟩; (first | replace F := F.le hb1 | replace F := (F.box _ _).le hb1 | replace F := ((F.box _ _).box _ _).le hb1 | replace F := (F.drewN _).le hb1 | replace F := ((F.box _ _).drewN _).le hb1))) | (go_at_call 48; ((with_reducible refine (i_newRunner _ _ _ _ _ _ _ HK.out).mono ?_); rintro e w2 ⟨g, rfl, hg, hR, hl⟩; have hgg := hid (Nat.lt_of_lt_of_le (F.lt List.mem_cons_self) hg); replace F := F.push hR hl; clear hg hR)))
  have ix : Hid (∀ (j : Nat), j < 16 → ∀ w, (Instr.index 25 (.agg (ftab .f32 z 16)) (.int .i64 (j : Int))).run Try.prog w = .ok (.float .f32 (z j)) w) := fun j hj w => run_index_arr w Try.underlying25 Try.underlying22 (by kernel_rfl) hj (get_ftab .f32 z 16 j hj) .i64
  clear hl hb1
  replace F := hid F
  go_loopw [18] (fun i wr => ∃ j : Nat, j ≤ 16 ∧ i = .int .i64 j ∧ ∃ h : Nat → Nat, Hid (∀ i, i < j → can .f32 (h i) = runO k a b c x y z i) ∧ Hid (Frm w wr [(g, 78, #[mdl k a b c, .float .f32 (runS k a b c x y z j).1, .float .f32 (runS k a b c x y z j).2]), (w.heap.size + 1 + 1 + 1, 25, #[.float .f32 0, .float .f32 0, .float .f32 0, .float .f32 0, .float .f32 0, .float .f32 0, .float .f32 0, .float .f32 0, .float .f32 0, .float .f32 0, .float .f32 0, .float .f32 0, .float .f32 0, .float .f32 0, .float .f32 0, .float .f32 0]), (w.heap.size + 1 + 1, 33, (#[.int .i64 0, .float .f32 0, .float .f32 0, .float .f32 0, .float .f32 0, .float .f32 0] : Array Value)), (w.heap.size + 1, 25, ftab .f32 (upto j h z) 16), (w.heap.size, 33, (#[.int .i64 k, .float .f32 a, .float .f32 b, .float .f32 c, .float .f32 x, .float .f32 y] : Array Value))])) (fun i _ => 16 - (intOf i).toNat)
  case atStart => exact ⟨0, by omega, rfl, fun _ => 0, fun m hm => absurd hm (by omega), by rw [upto_zero]; exact F⟩
  case round =>
    obtain ⟨j, hj, rfl, h, HJ, FJ⟩ := hrel
    clear F
    have hG := hgg.out
    by_cases hlt : j < 16
    · have ixj := ix.out j hlt
      have HX := hid (fits_runS (k := k) (a := a) (b := b) (c := c) Hf.out.2.2.2.1 Hf.out.2.2.2.2 Hz.out j (by omega)).1
      have hzj := hid (Hz.out j hlt)
      replace hG := hid hG
      go_wp2_with (first | (go_at_call 49; ((with_reducible refine (i_step _ _ _ _ _ _ _ _ _ HK.out (FJ.out.row List.mem_cons_self) HX.out hzj.out).mono ?_); rintro e w3 ⟨r, rfl, hr, _, hR, hU⟩; replace hr := hid hr; have F3 := FJ.out.upd hR hU (by have := hG.out; omega) (L' := [(w.heap.size + 1 + 1 + 1, 25, #[.float .f32 0, .float .f32 0, .float .f32 0, .float .f32 0, .float .f32 0, .float .f32 0, .float .f32 0, .float .f32 0, .float .f32 0, .float .f32 0, .float .f32 0, .float .f32 0, .float .f32 0, .float .f32 0, .float .f32 0, .float .f32 0]), (w.heap.size + 1 + 1, 33, (#[.int .i64 0, .float .f32 0, .float .f32 0, .float .f32 0, .float .f32 0, .float .f32 0] : Array Value)), (w.heap.size + 1, 25, ftab .f32 (upto j h z) 16), (w.heap.size, 33, (#[.int .i64 k, .float .f32 a, .float .f32 b, .float .f32 c, .float .f32 x, .float .f32 y] : Array Value))]) (fun z' hz' => ⟨List.mem_cons_of_mem _ hz', by have hG := hG.out; simp only [List.mem_cons, List.not_mem_nil, or_false] at hz'; rcases hz' with rfl | rfl | rfl | rfl <;> simp only [] <;> omega⟩); have cc := (F3.row (g := w.heap.size + 1) (t := 25) (cs := ftab .f32 (upto j h z) 16) (by simp)).ftab hlt; have ff := (F3.row (g := w.heap.size + 1) (t := 25) (cs := ftab .f32 (upto j h z) 16) (by simp)).frozen j; replace F3 := hid F3; clear hR hU)))
      go_roundw
      case rel =>
        refine ⟨j + 1, by omega, by go_num, fun i => if i = j then r else h i, fill_step (p := fun i v => can .f32 v = runO k a b c x y z i) HJ.out hr.out, ?_⟩
        have hG := hG.out
        have F4 := F3.out.setc (g := w.heap.size + 1) (t := 25) (cs := ftab .f32 (upto j h z) 16) (by simp) j (.float .f32 r) (by omega) (L' := [(g, 78, (#[mdl k a b c, .float .f32 (runS k a b c x y z (j + 1)).1, .float .f32 (runS k a b c x y z (j + 1)).2] : Array Value)), (w.heap.size + 1 + 1 + 1, 25, #[.float .f32 0, .float .f32 0, .float .f32 0, .float .f32 0, .float .f32 0, .float .f32 0, .float .f32 0, .float .f32 0, .float .f32 0, .float .f32 0, .float .f32 0, .float .f32 0, .float .f32 0, .float .f32 0, .float .f32 0, .float .f32 0]), (w.heap.size + 1 + 1, 33, (#[.int .i64 0, .float .f32 0, .float .f32 0, .float .f32 0, .float .f32 0, .float .f32 0] : Array Value)), (w.heap.size, 33, (#[.int .i64 k, .float .f32 a, .float .f32 b, .float .f32 c, .float .f32 x, .float .f32 y] : Array Value))]) (fun z' hz' => by
          simp only [List.mem_cons, List.not_mem_nil, or_false] at hz'
          rcases hz' with rfl | rfl | rfl | rfl
          · exact ⟨by first | exact List.mem_cons_self | simp [runS], by simp only []; omega⟩
          · exact ⟨by simp, by first | (simp; done) | (simp only [ne_eq]; omega)⟩
          · exact ⟨by simp, by first | (simp; done) | (simp only [ne_eq]; omega)⟩
          · exact ⟨by simp, by first | (simp; done) | (simp only [ne_eq]; omega)⟩)
        rw [set_ftab, upto_set] at F4
        exact F4.sub (fun z' hz' => by simp only [List.mem_cons, List.not_mem_nil, or_false] at hz' ⊢; rcases hz' with h | h | h | h | h <;> simp [h])
      case measure => simp [intOf]; omega
    · obtain rfl : j = 16 := by omega
      rw [upto_full] at FJ
      replace FJ := FJ.out
      clear ix
      go_wp2_with (first | (with_reducible refine wpList_loadPartFr FJ [.float .f32 (runS k a b c x y z 16).1, .float .f32 (runS k a b c x y z 16).2] rfl rfl rfl List.mem_cons_self Try.underlying29 rfl part12 info2 (by simp) ?_) | ((with_reducible refine stop_store rfl ?_)))
      show wpList _ _ _ _ _ _
      refine wpList_store2 rfl rfl rfl rfl (FJ.row (g := w.heap.size) (t := 33) (cs := (#[.int .i64 k, .float .f32 a, .float .f32 b, .float .f32 c, .float .f32 x, .float .f32 y] : Array Value)) (by simp)) info2 (by simp [Value.oneCell']) (fun w4 KW => ?_)
      have F := FJ.wrote KW (Nat.le_refl _) (L' := [(w.heap.size + 1, 25, ftab .f32 h 16), (w.heap.size + 1 + 1 + 1, 25, #[.float .f32 0, .float .f32 0, .float .f32 0, .float .f32 0, .float .f32 0, .float .f32 0, .float .f32 0, .float .f32 0, .float .f32 0, .float .f32 0, .float .f32 0, .float .f32 0, .float .f32 0, .float .f32 0, .float .f32 0, .float .f32 0]), (w.heap.size + 1 + 1, 33, (#[.int .i64 0, .float .f32 0, .float .f32 0, .float .f32 0, .float .f32 0, .float .f32 0] : Array Value))]) (fun z' hz' => by
          simp only [List.mem_cons, List.not_mem_nil, or_false] at hz'
          rcases hz' with rfl | rfl | rfl
          · exact ⟨by simp, by first | (simp; done) | (simp only [ne_eq]; omega)⟩
          · exact ⟨by simp, by first | (simp; done) | (simp only [ne_eq]; omega)⟩
          · exact ⟨by simp, by first | (simp; done) | (simp only [ne_eq]; omega)⟩)
      clear KW FJ
      replace hG := hid hG
      go_wp2
      obtain ⟨T, hT⟩ : ∃ T : List (Nat × TypeId × Array Value), T = [(w.heap.size + 1 + 1, 33, (#[.int .i64 k, .float .f32 a, .float .f32 b, .float .f32 c, .float .f32 (runS k a b c x y z 16).1, .float .f32 (runS k a b c x y z 16).2] : Array Value)), (w.heap.size + 1 + 1 + 1, 25, ftab .f32 h 16)] := ⟨_, rfl⟩
      have hd : ∀ x ∈ T, ∀ y ∈ T, x.1 = y.1 → x = y := by
        rw [hT]; intro x hx y hy e
        simp only [List.mem_cons, List.not_mem_nil, or_false] at hx hy
        rcases hx with rfl | rfl <;> rcases hy with rfl | rfl <;> first | rfl | (simp only [] at e; omega)
      have m1 : (w.heap.size + 1 + 1, 33, (#[.int .i64 k, .float .f32 a, .float .f32 b, .float .f32 c, .float .f32 (runS k a b c x y z 16).1, .float .f32 (runS k a b c x y z 16).2] : Array Value)) ∈ T := by rw [hT]; exact List.mem_cons_self
      have m2 : (w.heap.size + 1 + 1 + 1, 25, ftab .f32 h 16) ∈ T := by rw [hT]; exact List.mem_cons_of_mem _ List.mem_cons_self
      have n0 : ∀ x ∈ T, x.1 ≠ w.heap.size := by rw [hT]; intro x hx; simp only [List.mem_cons, List.not_mem_nil, or_false] at hx; rcases hx with rfl | rfl <;> simp only [ne_eq] <;> omega
      have n1 : ∀ x ∈ T, x.1 ≠ w.heap.size + 1 := by rw [hT]; intro x hx; simp only [List.mem_cons, List.not_mem_nil, or_false] at hx; rcases hx with rfl | rfl <;> simp only [ne_eq] <;> omega
      have b0 : ∀ x ∈ T, w.heap.size ≤ x.1 := by rw [hT]; intro x hx; simp only [List.mem_cons, List.not_mem_nil, or_false] at hx; rcases hx with rfl | rfl <;> simp only [] <;> omega
      clear hT
      refine region_freeT (E := finX T) (fun _ _ _ _ => True) (by kernel_rfl) (by kernel_rfl) ?_
      refine wpFreeT_load rfl rfl rfl ((F.drewN 1).row List.mem_cons_self) n0 Try.underlying33 rfl infoFil rfl ?_
      simp only [Act.put, List.setIfInBounds_toArray, List.set_cons_succ, List.set_cons_zero]
      refine wpFreeT_load rfl rfl rfl ((F.drewN 1).row (List.mem_cons_of_mem _ List.mem_cons_self)) n1 Try.underlying25 rfl infoBlk (size_ftab _ _ _) ?_
      simp only [Act.put, List.setIfInBounds_toArray, List.set_cons_succ, List.set_cons_zero]
      refine wpFreeT_store rfl rfl rfl rfl m1 hd ((F.drewN 1).row (g := w.heap.size + 1 + 1) (t := 33) (cs := (#[.int .i64 0, .float .f32 0, .float .f32 0, .float .f32 0, .float .f32 0, .float .f32 0] : Array Value)) (by simp)) rfl infoFil rfl (by simp [Value.oneCell']) ?_
      simp only [Act.put, List.setIfInBounds_toArray, List.set_cons_succ, List.set_cons_zero]
      refine wpFreeT_store rfl rfl rfl rfl m2 hd ((F.drewN 1).row (g := w.heap.size + 1 + 1 + 1) (t := 25) (cs := #[.float .f32 0, .float .f32 0, .float .f32 0, .float .f32 0, .float .f32 0, .float .f32 0, .float .f32 0, .float .f32 0, .float .f32 0, .float .f32 0, .float .f32 0, .float .f32 0, .float .f32 0, .float .f32 0, .float .f32 0, .float .f32 0]) (by simp)) (by rw [size_ftab]; rfl) infoBlk (size_ftab _ _ _) (one_ftab _ _ _) ?_
      simp only [Act.put, List.setIfInBounds_toArray, List.set_cons_succ, List.set_cons_zero]
      refine wpFree_oneT rfl (.int .i64 0) (fun w1 _ => by kernel_rfl) ?_
      simp only [Act.put, List.setIfInBounds_toArray, List.set_cons_succ, List.set_cons_zero]
      refine wpFree_nilT (fun w5 hw5 hF => ?_)
      obtain ⟨⟨_, r1⟩, r2⟩ := hF
      have F7 : Frm w w5 [(w.heap.size + 1 + 1 + 1, 25, ftab .f32 h 16), (w.heap.size + 1 + 1, 33, (#[.int .i64 k, .float .f32 a, .float .f32 b, .float .f32 c, .float .f32 (runS k a b c x y z 16).1, .float .f32 (runS k a b c x y z 16).2] : Array Value))] := by
        refine ⟨(F.drewN 1).below.trans (finX_below hw5 b0 (F.drewN 1).size), fun x hx => ?_⟩
        simp only [List.mem_cons, List.not_mem_nil, or_false] at hx
        rcases hx with rfl | rfl
        · exact r2
        · exact r1
      clear hw5 F hd m1 m2 n0 n1 b0 r1 r2
      replace F7 := hid F7
      go_wp2
      exact bodyPost_ret (results_cct rfl _ _ _ _ _ _ _ _ rfl (F7.out.row (List.mem_cons_of_mem _ List.mem_cons_self)) Try.underlying33 rfl infoFil rfl (F7.out.row List.mem_cons_self) Try.underlying25 rfl (by rw [size_ftab]; exact infoBlk)) rfl ⟨h, rfl, HJ.out, F7.out.below⟩
def OutLR (k : Int) (a b c x y : Nat) (z : Nat → Nat) (g : Nat) (w : World) (e : Ending) (w' : World) : Prop := ∃ h : Nat → Nat, e = .returned (.agg (ftab .f32 h 16)) ∧ (∀ j, j < 16 → can .f32 (h j) = runO k a b c x y z j) ∧ (∀ j, j < 16 → fits .f32 (h j)) ∧ Row w' g 33 (#[.int .i64 k, .float .f32 a, .float .f32 b, .float .f32 c, .float .f32 (runS k a b c x y z 16).1, .float .f32 (runS k a b c x y z 16).2] : Array Value) ∧ Upd g w w'
set_option maxHeartbeats 4000000 in
theorem s_l02Run (k : Int) (a b c x y : Nat) (z : Nat → Nat) (g : Nat) (w : World) (hv : okF k a b c x y = true) (R : Row w g 33 (#[.int .i64 k, .float .f32 a, .float .f32 b, .float .f32 c, .float .f32 x, .float .f32 y] : Array Value)) (hx : fits .f32 x) (hy : fits .f32 y) (hz : ∀ j, j < 16 → fits .f32 (z j)) :
    Calls Try.prog 52 #[.pointer (some ⟨g, 0, none⟩), .agg (ftab .f32 z 16)] w (OutLR k a b c x y z g w) := by
  have Hz := hid hz
  have HV := hid (fun n => okF_runS z hv n)
  have HN := hid (fun n (hn : n ≤ 16) => fits_runS (k := k) (a := a) (b := b) (c := c) hx hy hz n hn)
  clear hz hv hx hy
  have hgl := hid R.lt
  have F := ((Frm.one R).box 25 (ftab .f32 z 16)).box 25 #[.float .f32 0, .float .f32 0, .float .f32 0, .float .f32 0, .float .f32 0, .float .f32 0, .float .f32 0, .float .f32 0, .float .f32 0, .float .f32 0, .float .f32 0, .float .f32 0, .float .f32 0, .float .f32 0, .float .f32 0, .float .f32 0]
  simp only [World.size_alloc] at F
  have RG := hid (F.row (g := g) (t := 33) (cs := (#[.int .i64 k, .float .f32 a, .float .f32 b, .float .f32 c, .float .f32 x, .float .f32 y] : Array Value)) (by simp))
  have RB := hid (F.row (g := w.heap.size) (t := 25) (cs := ftab .f32 z 16) (by simp))
  have RO := hid (F.row (g := w.heap.size + 1) (t := 25) (cs := #[.float .f32 0, .float .f32 0, .float .f32 0, .float .f32 0, .float .f32 0, .float .f32 0, .float .f32 0, .float .f32 0, .float .f32 0, .float .f32 0, .float .f32 0, .float .f32 0, .float .f32 0, .float .f32 0, .float .f32 0, .float .f32 0]) (by simp))
  have U := hid (Upd.of_le (g := g) F.below)
  clear F R
  go_enter Try.func52, Try.ntmps52
  go_wp2
  go_loopw [5] (fun i wr => ∃ j : Nat, j ≤ 16 ∧ i = .int .i64 j ∧ ∃ h : Nat → Nat, Hid (∀ i, i < j → can .f32 (h i) = runO k a b c x y z i ∧ fits .f32 (h i)) ∧ Hid (Row wr g 33 (#[.int .i64 k, .float .f32 a, .float .f32 b, .float .f32 c, .float .f32 (runS k a b c x y z j).1, .float .f32 (runS k a b c x y z j).2] : Array Value)) ∧ Hid (Row wr w.heap.size 25 (ftab .f32 (upto j h z) 16)) ∧ Hid (Row wr (w.heap.size + 1) 25 #[.float .f32 0, .float .f32 0, .float .f32 0, .float .f32 0, .float .f32 0, .float .f32 0, .float .f32 0, .float .f32 0, .float .f32 0, .float .f32 0, .float .f32 0, .float .f32 0, .float .f32 0, .float .f32 0, .float .f32 0, .float .f32 0]) ∧ Hid (Upd g w wr)) (fun i _ => 16 - (intOf i).toNat)
  case atStart => exact ⟨0, by omega, rfl, fun _ => 0, fun m hm => absurd hm (by omega), RG, by rw [upto_zero]; exact RB, RO, U⟩
  case round =>
    clear RG RB RO U
    obtain ⟨j, hj, rfl, h, HJ, RG, RB, RO, U⟩ := hrel
    by_cases hlt : j < 16
    · have c0 := RB.out.ftab hlt
      rw [show upto j h z j = z j by simp [upto]] at c0
      have HX := hid (HN.out j (by omega)).1
      have hzj := hid (Hz.out j hlt)
      go_wp2_with (first | (go_at_call 47; ((with_reducible refine (s_Step _ _ _ _ _ _ _ _ _ (HV.out _) RG.out HX.out hzj.out).mono ?_); rintro e w3 ⟨r, rfl, hr, fr, hR, hU⟩; replace hr := hid (And.intro hr fr); clear fr; have hg1 := hgl.out; replace RB := hU.row RB.out (by omega); replace RO := hid (hU.row RO.out (by omega)); replace U := hid (U.out.trans hU); clear hg1; replace RG := hid hR; have cc := RB.ftab hlt; have ff := RB.frozen j; replace RB := hid RB; clear hR hU c0)))
      go_roundw
      case rel =>
        have hg1 := hgl.out
        refine ⟨j + 1, by omega, by go_num, fun i => if i = j then r else h i, fill_step (p := fun i v => can .f32 v = runO k a b c x y z i ∧ fits .f32 v) HJ.out hr.out, RG.out.other _ _ (by simp only []; omega), ?_, RO.out.other _ _ (by simp), U.out.setCellNew (by simp) _⟩
        have := RB.out.set j (.float .f32 r)
        rw [set_ftab, upto_set] at this
        exact this
      case measure => simp [intOf]; omega
    · obtain rfl : j = 16 := by omega
      rw [upto_full] at RB
      have RB' := RB.out
      go_wp2_with (first | (with_reducible refine wpList_loadDn rfl rfl rfl RB' Try.underlying25 rfl infoBlk (size_ftab _ _ _) ?_) | ((with_reducible refine stop_store rfl ?_)))
      show wpList _ _ _ _ _ _
      refine wpList_storeD rfl rfl rfl (cells := ftab .f32 h 16) rfl RO.out (by rw [size_ftab]; exact infoBlk) (by rw [size_ftab]; rfl) (one_ftab _ _ _) (fun w7 KW => ?_)
      have hg1 := hgl.out
      have r1 := hid KW.row
      have r2 := hid (KW.other _ _ _ (by omega) RG.out)
      have u2 := hid (U.out.wrote KW (by omega))
      clear KW hg1
      go_wp2
      exact bodyPost_ret (results_row1 rfl _ _ _ _ _ rfl r1.out Try.underlying25 rfl (by rw [size_ftab]; exact infoBlk)) rfl ⟨h, rfl, fun j hj => (HJ.out j hj).1, fun j hj => (HJ.out j hj).2, r2.out, u2.out⟩
set_option maxHeartbeats 4000000 in
theorem s_RunFilter_yes (k : Int) (a b c x y : Nat) (z : Nat → Nat) (w : World) (hv : okF k a b c x y = true) (hx : fits .f32 x) (hy : fits .f32 y) (hz : ∀ j, j < 16 → fits .f32 (z j)) :
    Calls Try.prog 21 #[(.agg #[.int .i64 k, .float .f32 a, .float .f32 b, .float .f32 c, .float .f32 x, .float .f32 y]), .agg (ftab .f32 z 16)] w (OutRF k a b c x y z w) := by
  have hV := hid (fun g w (R : Row w g 33 (#[.int .i64 k, .float .f32 a, .float .f32 b, .float .f32 c, .float .f32 x, .float .f32 y] : Array Value)) => s_Ok k a b c x y g w R)
  have hL := hid (fun g w (R : Row w g 33 (#[.int .i64 k, .float .f32 a, .float .f32 b, .float .f32 c, .float .f32 x, .float .f32 y] : Array Value)) => s_l02Run k a b c x y z g w hv R hx hy hz)
  rw [hv] at hV
  clear hv hx hy hz
  have F := ((((Frm.nil w).box 33 (#[.int .i64 k, .float .f32 a, .float .f32 b, .float .f32 c, .float .f32 x, .float .f32 y] : Array Value)).box 25 (ftab .f32 z 16)).box 33 (#[.int .i64 0, .float .f32 0, .float .f32 0, .float .f32 0, .float .f32 0, .float .f32 0] : Array Value)).box 25 #[.float .f32 0, .float .f32 0, .float .f32 0, .float .f32 0, .float .f32 0, .float .f32 0, .float .f32 0, .float .f32 0, .float .f32 0, .float .f32 0, .float .f32 0, .float .f32 0, .float .f32 0, .float .f32 0, .float .f32 0, .float .f32 0]
  simp only [World.size_alloc] at F
  have hn2 : ∀ z' ∈ [(w.heap.size + 1 + 1 + 1, 25, (#[.float .f32 0, .float .f32 0, .float .f32 0, .float .f32 0, .float .f32 0, .float .f32 0, .float .f32 0, .float .f32 0, .float .f32 0, .float .f32 0, .float .f32 0, .float .f32 0, .float .f32 0, .float .f32 0, .float .f32 0, .float .f32 0] : Array Value)), (w.heap.size + 1 + 1, 33, (#[.int .i64 0, .float .f32 0, .float .f32 0, .float .f32 0, .float .f32 0, .float .f32 0] : Array Value))], z' ∈ [(w.heap.size + 1 + 1 + 1, 25, (#[.float .f32 0, .float .f32 0, .float .f32 0, .float .f32 0, .float .f32 0, .float .f32 0, .float .f32 0, .float .f32 0, .float .f32 0, .float .f32 0, .float .f32 0, .float .f32 0, .float .f32 0, .float .f32 0, .float .f32 0, .float .f32 0] : Array Value)), (w.heap.size + 1 + 1, 33, (#[.int .i64 0, .float .f32 0, .float .f32 0, .float .f32 0, .float .f32 0, .float .f32 0] : Array Value)), (w.heap.size + 1, 25, ftab .f32 z 16), (w.heap.size, 33, (#[.int .i64 k, .float .f32 a, .float .f32 b, .float .f32 c, .float .f32 x, .float .f32 y] : Array Value))] ∧ z'.1 ≠ w.heap.size := by
    intro z' hz'
    simp only [List.mem_cons, List.not_mem_nil, or_false] at hz'
    rcases hz' with rfl | rfl
    · exact ⟨by simp, by simp only [ne_eq]; omega⟩
    · exact ⟨by simp, by simp only [ne_eq]; omega⟩
  replace hn2 := hid hn2
  go_enter Try.func21, Try.ntmps21
  go_wp2_with (first | ((with_reducible refine at_load rfl ?_); first | (with_reducible refine wpList_loadFr F rfl rfl rfl (by first | exact List.mem_cons_self | exact List.mem_cons_of_mem _ (List.mem_cons_self) | exact List.mem_cons_of_mem _ (List.mem_cons_of_mem _ (List.mem_cons_self)) | exact List.mem_cons_of_mem _ (List.mem_cons_of_mem _ (List.mem_cons_of_mem _ (List.mem_cons_self))) | exact List.mem_cons_of_mem _ (List.mem_cons_of_mem _ (List.mem_cons_of_mem _ (List.mem_cons_of_mem _ (List.mem_cons_self)))) | exact List.mem_cons_of_mem _ (List.mem_cons_of_mem _ (List.mem_cons_of_mem _ (List.mem_cons_of_mem _ (List.mem_cons_of_mem _ (List.mem_cons_self))))) | exact List.mem_cons_of_mem _ (List.mem_cons_of_mem _ (List.mem_cons_of_mem _ (List.mem_cons_of_mem _ (List.mem_cons_of_mem _ (List.mem_cons_of_mem _ (List.mem_cons_self))))))) Try.underlying33 rfl infoFil (by simp [size_ftab]) ?_) | (with_reducible refine wpList_loadFr (F.box _ _) rfl rfl rfl (by first | exact List.mem_cons_self | exact List.mem_cons_of_mem _ (List.mem_cons_self) | exact List.mem_cons_of_mem _ (List.mem_cons_of_mem _ (List.mem_cons_self)) | exact List.mem_cons_of_mem _ (List.mem_cons_of_mem _ (List.mem_cons_of_mem _ (List.mem_cons_self))) | exact List.mem_cons_of_mem _ (List.mem_cons_of_mem _ (List.mem_cons_of_mem _ (List.mem_cons_of_mem _ (List.mem_cons_self)))) | exact List.mem_cons_of_mem _ (List.mem_cons_of_mem _ (List.mem_cons_of_mem _ (List.mem_cons_of_mem _ (List.mem_cons_of_mem _ (List.mem_cons_self))))) | exact List.mem_cons_of_mem _ (List.mem_cons_of_mem _ (List.mem_cons_of_mem _ (List.mem_cons_of_mem _ (List.mem_cons_of_mem _ (List.mem_cons_of_mem _ (List.mem_cons_self))))))) Try.underlying33 rfl infoFil (by simp [size_ftab]) ?_) | (with_reducible refine wpList_loadFr F rfl rfl rfl (by first | exact List.mem_cons_self | exact List.mem_cons_of_mem _ (List.mem_cons_self) | exact List.mem_cons_of_mem _ (List.mem_cons_of_mem _ (List.mem_cons_self)) | exact List.mem_cons_of_mem _ (List.mem_cons_of_mem _ (List.mem_cons_of_mem _ (List.mem_cons_self))) | exact List.mem_cons_of_mem _ (List.mem_cons_of_mem _ (List.mem_cons_of_mem _ (List.mem_cons_of_mem _ (List.mem_cons_self)))) | exact List.mem_cons_of_mem _ (List.mem_cons_of_mem _ (List.mem_cons_of_mem _ (List.mem_cons_of_mem _ (List.mem_cons_of_mem _ (List.mem_cons_self))))) | exact List.mem_cons_of_mem _ (List.mem_cons_of_mem _ (List.mem_cons_of_mem _ (List.mem_cons_of_mem _ (List.mem_cons_of_mem _ (List.mem_cons_of_mem _ (List.mem_cons_self))))))) Try.underlying25 rfl infoBlk (by simp [size_ftab]) ?_) | (with_reducible refine wpList_loadFr (F.box _ _) rfl rfl rfl (by first | exact List.mem_cons_self | exact List.mem_cons_of_mem _ (List.mem_cons_self) | exact List.mem_cons_of_mem _ (List.mem_cons_of_mem _ (List.mem_cons_self)) | exact List.mem_cons_of_mem _ (List.mem_cons_of_mem _ (List.mem_cons_of_mem _ (List.mem_cons_self))) | exact List.mem_cons_of_mem _ (List.mem_cons_of_mem _ (List.mem_cons_of_mem _ (List.mem_cons_of_mem _ (List.mem_cons_self)))) | exact List.mem_cons_of_mem _ (List.mem_cons_of_mem _ (List.mem_cons_of_mem _ (List.mem_cons_of_mem _ (List.mem_cons_of_mem _ (List.mem_cons_self))))) | exact List.mem_cons_of_mem _ (List.mem_cons_of_mem _ (List.mem_cons_of_mem _ (List.mem_cons_of_mem _ (List.mem_cons_of_mem _ (List.mem_cons_of_mem _ (List.mem_cons_self))))))) Try.underlying25 rfl infoBlk (by simp [size_ftab]) ?_)) | (go_at_call 41; ((with_reducible refine (hV.out _ _ (F.row (by simp))).mono ?_); rintro e w1 ⟨rfl, n1, rfl⟩; replace F := F.drewN n1)) | (go_at_call 52; ((with_reducible refine (hL.out _ _ (F.row (by simp))).mono ?_); rintro e w5 ⟨h, rfl, hh, _, hR, hU⟩; replace hh := hid hh; replace F := F.upd hR hU (Nat.le_refl _) hn2.out; clear hR hU)) | ((with_reducible refine stop_store rfl ?_)))
  have hlt5 : w.heap.size + 1 + 1 + 1 < w5.heap.size := F.lt (t := 25) (cs := #[.float .f32 0, .float .f32 0, .float .f32 0, .float .f32 0, .float .f32 0, .float .f32 0, .float .f32 0, .float .f32 0, .float .f32 0, .float .f32 0, .float .f32 0, .float .f32 0, .float .f32 0, .float .f32 0, .float .f32 0, .float .f32 0]) (by simp)
  show wpList _ _ _ _ _ _
  refine wpList_storeFr F rfl rfl rfl rfl rfl (by rw [size_ftab]; exact infoBlk) (by rw [size_ftab]; rfl) (one_ftab _ _ _) (fun w7 F7 => ?_)
  replace F := F7
  clear F7
  replace hlt5 := hid hlt5
  replace F := hid F
  go_wp2
  replace hlt5 := hlt5.out
  replace F := F.out
  obtain ⟨T, hT⟩ : ∃ T : List (Nat × TypeId × Array Value), T = [(w.heap.size + 1 + 1, 33, (#[.int .i64 k, .float .f32 a, .float .f32 b, .float .f32 c, .float .f32 (runS k a b c x y z 16).1, .float .f32 (runS k a b c x y z 16).2] : Array Value)), (w.heap.size + 1 + 1 + 1, 25, ftab .f32 h 16)] := ⟨_, rfl⟩
  have hd : ∀ x ∈ T, ∀ y ∈ T, x.1 = y.1 → x = y := by
    rw [hT]; intro x hx y hy e
    simp only [List.mem_cons, List.not_mem_nil, or_false] at hx hy
    rcases hx with rfl | rfl <;> rcases hy with rfl | rfl <;> first | rfl | (simp only [] at e; omega)
  have m1 : (w.heap.size + 1 + 1, 33, (#[.int .i64 k, .float .f32 a, .float .f32 b, .float .f32 c, .float .f32 (runS k a b c x y z 16).1, .float .f32 (runS k a b c x y z 16).2] : Array Value)) ∈ T := by rw [hT]; exact List.mem_cons_self
  have m2 : (w.heap.size + 1 + 1 + 1, 25, ftab .f32 h 16) ∈ T := by rw [hT]; exact List.mem_cons_of_mem _ List.mem_cons_self
  have n0 : ∀ x ∈ T, x.1 ≠ w.heap.size := by rw [hT]; intro x hx; simp only [List.mem_cons, List.not_mem_nil, or_false] at hx; rcases hx with rfl | rfl <;> simp only [ne_eq] <;> omega
  have n1 : ∀ x ∈ T, x.1 ≠ w5.heap.size := by rw [hT]; intro x hx; simp only [List.mem_cons, List.not_mem_nil, or_false] at hx; rcases hx with rfl | rfl <;> simp only [ne_eq] <;> omega
  have b0 : ∀ x ∈ T, w.heap.size ≤ x.1 := by rw [hT]; intro x hx; simp only [List.mem_cons, List.not_mem_nil, or_false] at hx; rcases hx with rfl | rfl <;> simp only [] <;> omega
  clear hT
  refine region_freeT (E := finX T) (fun _ _ _ _ => True) (by kernel_rfl) (by kernel_rfl) ?_
  refine wpFreeT_load rfl rfl rfl ((F.drewN 1).row (g := w.heap.size) (t := 33) (cs := (#[.int .i64 k, .float .f32 a, .float .f32 b, .float .f32 c, .float .f32 (runS k a b c x y z 16).1, .float .f32 (runS k a b c x y z 16).2] : Array Value)) (by simp)) n0 Try.underlying33 rfl infoFil rfl ?_
  simp only [Act.put, List.setIfInBounds_toArray, List.set_cons_succ, List.set_cons_zero]
  refine wpFreeT_load rfl rfl rfl ((F.drewN 1).row List.mem_cons_self) n1 Try.underlying25 rfl infoBlk (size_ftab _ _ _) ?_
  simp only [Act.put, List.setIfInBounds_toArray, List.set_cons_succ, List.set_cons_zero]
  refine wpFreeT_store rfl rfl rfl rfl m1 hd ((F.drewN 1).row (g := w.heap.size + 1 + 1) (t := 33) (cs := (#[.int .i64 0, .float .f32 0, .float .f32 0, .float .f32 0, .float .f32 0, .float .f32 0] : Array Value)) (by simp)) rfl infoFil rfl (by simp [Value.oneCell']) ?_
  simp only [Act.put, List.setIfInBounds_toArray, List.set_cons_succ, List.set_cons_zero]
  refine wpFreeT_store rfl rfl rfl rfl m2 hd ((F.drewN 1).row (g := w.heap.size + 1 + 1 + 1) (t := 25) (cs := #[.float .f32 0, .float .f32 0, .float .f32 0, .float .f32 0, .float .f32 0, .float .f32 0, .float .f32 0, .float .f32 0, .float .f32 0, .float .f32 0, .float .f32 0, .float .f32 0, .float .f32 0, .float .f32 0, .float .f32 0, .float .f32 0]) (by simp)) (by rw [size_ftab]; rfl) infoBlk (size_ftab _ _ _) (one_ftab _ _ _) ?_
  simp only [Act.put, List.setIfInBounds_toArray, List.set_cons_succ, List.set_cons_zero]
  refine wpFree_oneT rfl (.int .i64 0) (fun w1 _ => by kernel_rfl) ?_
  simp only [Act.put, List.setIfInBounds_toArray, List.set_cons_succ, List.set_cons_zero]
  refine wpFree_nilT (fun w6 hw5 hF => ?_)
  obtain ⟨⟨_, r1⟩, r2⟩ := hF
  have F7 : Frm w w6 [(w.heap.size + 1 + 1 + 1, 25, ftab .f32 h 16), (w.heap.size + 1 + 1, 33, (#[.int .i64 k, .float .f32 a, .float .f32 b, .float .f32 c, .float .f32 (runS k a b c x y z 16).1, .float .f32 (runS k a b c x y z 16).2] : Array Value))] := by
    refine ⟨(F.drewN 1).below.trans (finX_below hw5 b0 (F.drewN 1).size), fun x hx => ?_⟩
    simp only [List.mem_cons, List.not_mem_nil, or_false] at hx
    rcases hx with rfl | rfl
    · exact r2
    · exact r1
  clear hw5 F hd m1 m2 n0 n1 b0 r1 r2
  replace F7 := hid F7
  go_wp2
  exact bodyPost_ret (results_cct rfl _ _ _ _ _ _ _ _ rfl (F7.out.row (List.mem_cons_of_mem _ List.mem_cons_self)) Try.underlying33 rfl infoFil rfl (F7.out.row List.mem_cons_self) Try.underlying25 rfl (by rw [size_ftab]; exact infoBlk)) rfl ⟨h, rfl, hh.out, F7.out.below⟩
set_option maxHeartbeats 2000000 in
theorem i_RunFilter_no (k : Int) (a b c x y : Nat) (z : Nat → Nat) (w : World) (hv : okF k a b c x y = false) (hf : fits .f32 a ∧ fits .f32 b ∧ fits .f32 c ∧ fits .f32 x ∧ fits .f32 y) :
    Calls Try.prog 22 #[(.agg #[.int .i64 k, .float .f32 a, .float .f32 b, .float .f32 c, .float .f32 x, .float .f32 y]), .agg (ftab .f32 z 16)] w fun e w' => e = .returned (.tuple #[(.agg #[.int .i64 0, .float .f32 0, .float .f32 0, .float .f32 0, .float .f32 0, .float .f32 0]), .agg (ftab .f32 (fun _ => 0) 16), .int .i64 1]) ∧ le w w' := by
  have Hf := hid hf; clear hf
  have hV := hid (fun w => i_ValidFilter k a b c x y w Hf.out)
  rw [hv] at hV
  clear hv
  have F := ((((Frm.nil w).box 33 (#[.int .i64 k, .float .f32 a, .float .f32 b, .float .f32 c, .float .f32 x, .float .f32 y] : Array Value)).box 25 (ftab .f32 z 16)).box 33 (#[.int .i64 0, .float .f32 0, .float .f32 0, .float .f32 0, .float .f32 0, .float .f32 0] : Array Value)).box 25 #[.float .f32 0, .float .f32 0, .float .f32 0, .float .f32 0, .float .f32 0, .float .f32 0, .float .f32 0, .float .f32 0, .float .f32 0, .float .f32 0, .float .f32 0, .float .f32 0, .float .f32 0, .float .f32 0, .float .f32 0, .float .f32 0]
  simp only [World.size_alloc] at F
  go_enter Try.func22, Try.ntmps22
  go_wp2_with (first | ((with_reducible refine at_load rfl ?_); first | (with_reducible refine wpList_loadFr F rfl rfl rfl (by first | exact List.mem_cons_self | exact List.mem_cons_of_mem _ (List.mem_cons_self) | exact List.mem_cons_of_mem _ (List.mem_cons_of_mem _ (List.mem_cons_self)) | exact List.mem_cons_of_mem _ (List.mem_cons_of_mem _ (List.mem_cons_of_mem _ (List.mem_cons_self))) | exact List.mem_cons_of_mem _ (List.mem_cons_of_mem _ (List.mem_cons_of_mem _ (List.mem_cons_of_mem _ (List.mem_cons_self)))) | exact List.mem_cons_of_mem _ (List.mem_cons_of_mem _ (List.mem_cons_of_mem _ (List.mem_cons_of_mem _ (List.mem_cons_of_mem _ (List.mem_cons_self))))) | exact List.mem_cons_of_mem _ (List.mem_cons_of_mem _ (List.mem_cons_of_mem _ (List.mem_cons_of_mem _ (List.mem_cons_of_mem _ (List.mem_cons_of_mem _ (List.mem_cons_self))))))) Try.underlying33 rfl infoFil (by simp [size_ftab]) ?_) | (with_reducible refine wpList_loadFr (F.box _ _) rfl rfl rfl (by first | exact List.mem_cons_self | exact List.mem_cons_of_mem _ (List.mem_cons_self) | exact List.mem_cons_of_mem _ (List.mem_cons_of_mem _ (List.mem_cons_self)) | exact List.mem_cons_of_mem _ (List.mem_cons_of_mem _ (List.mem_cons_of_mem _ (List.mem_cons_self))) | exact List.mem_cons_of_mem _ (List.mem_cons_of_mem _ (List.mem_cons_of_mem _ (List.mem_cons_of_mem _ (List.mem_cons_self)))) | exact List.mem_cons_of_mem _ (List.mem_cons_of_mem _ (List.mem_cons_of_mem _ (List.mem_cons_of_mem _ (List.mem_cons_of_mem _ (List.mem_cons_self))))) | exact List.mem_cons_of_mem _ (List.mem_cons_of_mem _ (List.mem_cons_of_mem _ (List.mem_cons_of_mem _ (List.mem_cons_of_mem _ (List.mem_cons_of_mem _ (List.mem_cons_self))))))) Try.underlying33 rfl infoFil (by simp [size_ftab]) ?_) | (with_reducible refine wpList_loadFr F rfl rfl rfl (by first | exact List.mem_cons_self | exact List.mem_cons_of_mem _ (List.mem_cons_self) | exact List.mem_cons_of_mem _ (List.mem_cons_of_mem _ (List.mem_cons_self)) | exact List.mem_cons_of_mem _ (List.mem_cons_of_mem _ (List.mem_cons_of_mem _ (List.mem_cons_self))) | exact List.mem_cons_of_mem _ (List.mem_cons_of_mem _ (List.mem_cons_of_mem _ (List.mem_cons_of_mem _ (List.mem_cons_self)))) | exact List.mem_cons_of_mem _ (List.mem_cons_of_mem _ (List.mem_cons_of_mem _ (List.mem_cons_of_mem _ (List.mem_cons_of_mem _ (List.mem_cons_self))))) | exact List.mem_cons_of_mem _ (List.mem_cons_of_mem _ (List.mem_cons_of_mem _ (List.mem_cons_of_mem _ (List.mem_cons_of_mem _ (List.mem_cons_of_mem _ (List.mem_cons_self))))))) Try.underlying25 rfl infoBlk (by simp [size_ftab]) ?_) | (with_reducible refine wpList_loadFr (F.box _ _) rfl rfl rfl (by first | exact List.mem_cons_self | exact List.mem_cons_of_mem _ (List.mem_cons_self) | exact List.mem_cons_of_mem _ (List.mem_cons_of_mem _ (List.mem_cons_self)) | exact List.mem_cons_of_mem _ (List.mem_cons_of_mem _ (List.mem_cons_of_mem _ (List.mem_cons_self))) | exact List.mem_cons_of_mem _ (List.mem_cons_of_mem _ (List.mem_cons_of_mem _ (List.mem_cons_of_mem _ (List.mem_cons_self)))) | exact List.mem_cons_of_mem _ (List.mem_cons_of_mem _ (List.mem_cons_of_mem _ (List.mem_cons_of_mem _ (List.mem_cons_of_mem _ (List.mem_cons_self))))) | exact List.mem_cons_of_mem _ (List.mem_cons_of_mem _ (List.mem_cons_of_mem _ (List.mem_cons_of_mem _ (List.mem_cons_of_mem _ (List.mem_cons_of_mem _ (List.mem_cons_self))))))) Try.underlying25 rfl infoBlk (by simp [size_ftab]) ?_)) | (go_at_call 16; ((with_reducible refine (hV.out _).mono ?_); rintro e w1 ⟨rfl, hb1⟩; (first | replace F := F.le hb1 | replace F := (F.box _ _).le hb1 | replace F := ((F.box _ _).box _ _).le hb1 | replace F := (F.drewN _).le hb1 | replace F := ((F.box _ _).drewN _).le hb1))) | ((with_reducible refine stop_store rfl ?_)))
  show wpList _ _ _ _ _ _
  refine wpList_storeD rfl rfl rfl (cells := (#[.int .i64 0, .float .f32 0, .float .f32 0, .float .f32 0, .float .f32 0, .float .f32 0] : Array Value)) rfl (F.row (g := w.heap.size + 1 + 1) (t := 33) (cs := (#[.int .i64 0, .float .f32 0, .float .f32 0, .float .f32 0, .float .f32 0, .float .f32 0] : Array Value)) (by simp)) infoFil rfl (by simp [Value.oneCell']) (fun w6 KW => ?_)
  have F6 := F.wrote KW (by omega) (L' := [(w.heap.size + 1 + 1 + 1, 25, #[.float .f32 0, .float .f32 0, .float .f32 0, .float .f32 0, .float .f32 0, .float .f32 0, .float .f32 0, .float .f32 0, .float .f32 0, .float .f32 0, .float .f32 0, .float .f32 0, .float .f32 0, .float .f32 0, .float .f32 0, .float .f32 0])]) (fun z' hz' => by rw [List.mem_singleton.1 hz']; exact ⟨by simp, by simp only [ne_eq]; omega⟩)
  clear KW F
  refine wpList_storeD rfl rfl rfl (cells := #[.float .f32 0, .float .f32 0, .float .f32 0, .float .f32 0, .float .f32 0, .float .f32 0, .float .f32 0, .float .f32 0, .float .f32 0, .float .f32 0, .float .f32 0, .float .f32 0, .float .f32 0, .float .f32 0, .float .f32 0, .float .f32 0]) rfl (F6.row (g := w.heap.size + 1 + 1 + 1) (t := 25) (cs := #[.float .f32 0, .float .f32 0, .float .f32 0, .float .f32 0, .float .f32 0, .float .f32 0, .float .f32 0, .float .f32 0, .float .f32 0, .float .f32 0, .float .f32 0, .float .f32 0, .float .f32 0, .float .f32 0, .float .f32 0, .float .f32 0]) (by simp)) infoBlk rfl (by simp [Value.oneCell']) (fun w7 KW => ?_)
  have F7 := hid (F6.wrote KW (by omega) (L' := [(w.heap.size + 1 + 1, 33, (#[.int .i64 0, .float .f32 0, .float .f32 0, .float .f32 0, .float .f32 0, .float .f32 0] : Array Value))]) (fun z' hz' => by rw [List.mem_singleton.1 hz']; exact ⟨by simp, by simp only [ne_eq]; omega⟩))
  clear KW F6
  go_wp2
  exact bodyPost_ret (results_cct rfl _ _ _ _ _ _ _ _ rfl (F7.out.row (List.mem_cons_of_mem _ List.mem_cons_self)) Try.underlying33 rfl infoFil rfl (F7.out.row List.mem_cons_self) Try.underlying25 rfl infoBlk) rfl ⟨rfl, F7.out.below⟩
set_option maxHeartbeats 2000000 in
theorem s_RunFilter_no (k : Int) (a b c x y : Nat) (z : Nat → Nat) (w : World) (hv : okF k a b c x y = false) :
    Calls Try.prog 21 #[(.agg #[.int .i64 k, .float .f32 a, .float .f32 b, .float .f32 c, .float .f32 x, .float .f32 y]), .agg (ftab .f32 z 16)] w fun e w' => e = .returned (.tuple #[(.agg #[.int .i64 0, .float .f32 0, .float .f32 0, .float .f32 0, .float .f32 0, .float .f32 0]), .agg (ftab .f32 (fun _ => 0) 16), .int .i64 1]) ∧ le w w' := by
  have hV := hid (fun g w (R : Row w g 33 (#[.int .i64 k, .float .f32 a, .float .f32 b, .float .f32 c, .float .f32 x, .float .f32 y] : Array Value)) => s_Ok k a b c x y g w R)
  rw [hv] at hV
  clear hv
  have F := ((((Frm.nil w).box 33 (#[.int .i64 k, .float .f32 a, .float .f32 b, .float .f32 c, .float .f32 x, .float .f32 y] : Array Value)).box 25 (ftab .f32 z 16)).box 33 (#[.int .i64 0, .float .f32 0, .float .f32 0, .float .f32 0, .float .f32 0, .float .f32 0] : Array Value)).box 25 #[.float .f32 0, .float .f32 0, .float .f32 0, .float .f32 0, .float .f32 0, .float .f32 0, .float .f32 0, .float .f32 0, .float .f32 0, .float .f32 0, .float .f32 0, .float .f32 0, .float .f32 0, .float .f32 0, .float .f32 0, .float .f32 0]
  simp only [World.size_alloc] at F
  go_enter Try.func21, Try.ntmps21
  go_wp2_with (first | ((with_reducible refine at_load rfl ?_); first | (with_reducible refine wpList_loadFr F rfl rfl rfl (by first | exact List.mem_cons_self | exact List.mem_cons_of_mem _ (List.mem_cons_self) | exact List.mem_cons_of_mem _ (List.mem_cons_of_mem _ (List.mem_cons_self)) | exact List.mem_cons_of_mem _ (List.mem_cons_of_mem _ (List.mem_cons_of_mem _ (List.mem_cons_self))) | exact List.mem_cons_of_mem _ (List.mem_cons_of_mem _ (List.mem_cons_of_mem _ (List.mem_cons_of_mem _ (List.mem_cons_self)))) | exact List.mem_cons_of_mem _ (List.mem_cons_of_mem _ (List.mem_cons_of_mem _ (List.mem_cons_of_mem _ (List.mem_cons_of_mem _ (List.mem_cons_self))))) | exact List.mem_cons_of_mem _ (List.mem_cons_of_mem _ (List.mem_cons_of_mem _ (List.mem_cons_of_mem _ (List.mem_cons_of_mem _ (List.mem_cons_of_mem _ (List.mem_cons_self))))))) Try.underlying33 rfl infoFil (by simp [size_ftab]) ?_) | (with_reducible refine wpList_loadFr (F.box _ _) rfl rfl rfl (by first | exact List.mem_cons_self | exact List.mem_cons_of_mem _ (List.mem_cons_self) | exact List.mem_cons_of_mem _ (List.mem_cons_of_mem _ (List.mem_cons_self)) | exact List.mem_cons_of_mem _ (List.mem_cons_of_mem _ (List.mem_cons_of_mem _ (List.mem_cons_self))) | exact List.mem_cons_of_mem _ (List.mem_cons_of_mem _ (List.mem_cons_of_mem _ (List.mem_cons_of_mem _ (List.mem_cons_self)))) | exact List.mem_cons_of_mem _ (List.mem_cons_of_mem _ (List.mem_cons_of_mem _ (List.mem_cons_of_mem _ (List.mem_cons_of_mem _ (List.mem_cons_self))))) | exact List.mem_cons_of_mem _ (List.mem_cons_of_mem _ (List.mem_cons_of_mem _ (List.mem_cons_of_mem _ (List.mem_cons_of_mem _ (List.mem_cons_of_mem _ (List.mem_cons_self))))))) Try.underlying33 rfl infoFil (by simp [size_ftab]) ?_) | (with_reducible refine wpList_loadFr F rfl rfl rfl (by first | exact List.mem_cons_self | exact List.mem_cons_of_mem _ (List.mem_cons_self) | exact List.mem_cons_of_mem _ (List.mem_cons_of_mem _ (List.mem_cons_self)) | exact List.mem_cons_of_mem _ (List.mem_cons_of_mem _ (List.mem_cons_of_mem _ (List.mem_cons_self))) | exact List.mem_cons_of_mem _ (List.mem_cons_of_mem _ (List.mem_cons_of_mem _ (List.mem_cons_of_mem _ (List.mem_cons_self)))) | exact List.mem_cons_of_mem _ (List.mem_cons_of_mem _ (List.mem_cons_of_mem _ (List.mem_cons_of_mem _ (List.mem_cons_of_mem _ (List.mem_cons_self))))) | exact List.mem_cons_of_mem _ (List.mem_cons_of_mem _ (List.mem_cons_of_mem _ (List.mem_cons_of_mem _ (List.mem_cons_of_mem _ (List.mem_cons_of_mem _ (List.mem_cons_self))))))) Try.underlying25 rfl infoBlk (by simp [size_ftab]) ?_) | (with_reducible refine wpList_loadFr (F.box _ _) rfl rfl rfl (by first | exact List.mem_cons_self | exact List.mem_cons_of_mem _ (List.mem_cons_self) | exact List.mem_cons_of_mem _ (List.mem_cons_of_mem _ (List.mem_cons_self)) | exact List.mem_cons_of_mem _ (List.mem_cons_of_mem _ (List.mem_cons_of_mem _ (List.mem_cons_self))) | exact List.mem_cons_of_mem _ (List.mem_cons_of_mem _ (List.mem_cons_of_mem _ (List.mem_cons_of_mem _ (List.mem_cons_self)))) | exact List.mem_cons_of_mem _ (List.mem_cons_of_mem _ (List.mem_cons_of_mem _ (List.mem_cons_of_mem _ (List.mem_cons_of_mem _ (List.mem_cons_self))))) | exact List.mem_cons_of_mem _ (List.mem_cons_of_mem _ (List.mem_cons_of_mem _ (List.mem_cons_of_mem _ (List.mem_cons_of_mem _ (List.mem_cons_of_mem _ (List.mem_cons_self))))))) Try.underlying25 rfl infoBlk (by simp [size_ftab]) ?_)) | (go_at_call 41; ((with_reducible refine (hV.out _ _ (F.row (by simp))).mono ?_); rintro e w1 ⟨rfl, n1, rfl⟩; replace F := F.drewN n1)) | ((with_reducible refine stop_store rfl ?_)))
  show wpList _ _ _ _ _ _
  refine wpList_storeD rfl rfl rfl (cells := (#[.int .i64 0, .float .f32 0, .float .f32 0, .float .f32 0, .float .f32 0, .float .f32 0] : Array Value)) rfl (F.row (g := w.heap.size + 1 + 1) (t := 33) (cs := (#[.int .i64 0, .float .f32 0, .float .f32 0, .float .f32 0, .float .f32 0, .float .f32 0] : Array Value)) (by simp)) infoFil rfl (by simp [Value.oneCell']) (fun w6 KW => ?_)
  have F6 := F.wrote KW (by omega) (L' := [(w.heap.size + 1 + 1 + 1, 25, #[.float .f32 0, .float .f32 0, .float .f32 0, .float .f32 0, .float .f32 0, .float .f32 0, .float .f32 0, .float .f32 0, .float .f32 0, .float .f32 0, .float .f32 0, .float .f32 0, .float .f32 0, .float .f32 0, .float .f32 0, .float .f32 0])]) (fun z' hz' => by rw [List.mem_singleton.1 hz']; exact ⟨by simp, by simp only [ne_eq]; omega⟩)
  clear KW F
  refine wpList_storeD rfl rfl rfl (cells := #[.float .f32 0, .float .f32 0, .float .f32 0, .float .f32 0, .float .f32 0, .float .f32 0, .float .f32 0, .float .f32 0, .float .f32 0, .float .f32 0, .float .f32 0, .float .f32 0, .float .f32 0, .float .f32 0, .float .f32 0, .float .f32 0]) rfl (F6.row (g := w.heap.size + 1 + 1 + 1) (t := 25) (cs := #[.float .f32 0, .float .f32 0, .float .f32 0, .float .f32 0, .float .f32 0, .float .f32 0, .float .f32 0, .float .f32 0, .float .f32 0, .float .f32 0, .float .f32 0, .float .f32 0, .float .f32 0, .float .f32 0, .float .f32 0, .float .f32 0]) (by simp)) infoBlk rfl (by simp [Value.oneCell']) (fun w7 KW => ?_)
  have F7 := hid (F6.wrote KW (by omega) (L' := [(w.heap.size + 1 + 1, 33, (#[.int .i64 0, .float .f32 0, .float .f32 0, .float .f32 0, .float .f32 0, .float .f32 0] : Array Value))]) (fun z' hz' => by rw [List.mem_singleton.1 hz']; exact ⟨by simp, by simp only [ne_eq]; omega⟩))
  clear KW F6
  go_wp2
  exact bodyPost_ret (results_cct rfl _ _ _ _ _ _ _ _ rfl (F7.out.row (List.mem_cons_of_mem _ List.mem_cons_self)) Try.underlying33 rfl infoFil rfl (F7.out.row List.mem_cons_self) Try.underlying25 rfl infoBlk) rfl ⟨rfl, F7.out.below⟩
end Go.Proofs.Ytaenbpkcehenkab
