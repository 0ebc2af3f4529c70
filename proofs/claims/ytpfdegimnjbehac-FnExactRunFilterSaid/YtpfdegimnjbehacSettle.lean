/- 'StepsToStill' of both. -/
import Derived.Test.YtpfdegimnjbehacStill
namespace Go.Fk
open Go Go.RowKit
theorem fits_fop (op : BinOp) (k : FloatKind) (x y : Nat) : fits k (fop op k x y) := by
  unfold fop
  split
  · rename_i r h
    unfold can; split
    · cases k <;> simp [fits, Lit.wf, qnan]
    · exact floatBits_wf h
  · cases k <;> simp [fits, Lit.wf, qnan]
theorem fits_outF (k : Int) (a b c x y s : Nat) : fits .f32 (outF k a b c x y s) := by
  unfold outF; split; exact fits_fop _ _ _ _; split; exact fits_fop _ _ _ _; split <;> exact fits_fop _ _ _ _
theorem fits_st1 {k : Int} {a b c x y s : Nat} (hx : fits .f32 x) : fits .f32 (st1 k a b c x y s) := by
  unfold st1; split; exact fits_zero; split; exact fits_kept hx; exact fits_kept (fits_outF _ _ _ _ _ _ _)
theorem fin_kept (v : Nat) : fin (kept v) = true := by
  unfold kept; split
  · rename_i h
    unfold flush; split
    · decide
    · exact h
  · decide
theorem usedB_three {a b c u : Nat} : usedB (tri a b c) 3 u = ((if 0 < u then fin a else sameB a 0) && (if 1 < u then fin b else sameB b 0) && (if 2 < u then fin c else sameB c 0)) := by
  simp [usedB, tri, List.range_succ, Bool.and_assoc]
theorem usedB_two {x y u : Nat} : usedB (duo x y) 2 u = ((if 0 < u then fin x else sameB x 0) && (if 1 < u then fin y else sameB y 0)) := by
  simp [usedB, duo, List.range_succ]
theorem same00 : sameB 0 0 = true := by decide
theorem okF_step {k : Int} {a b c x y s : Nat} (h : okF k a b c x y = true) : okF k a b c (st0 k a b c x y s) (st1 k a b c x y s) = true := by
  simp only [okF, Bool.and_eq_true] at h ⊢
  refine ⟨h.1, h.2.1, ?_⟩
  rw [usedB_two]
  have h0 : fin (st0 k a b c x y s) = true := by unfold st0; split <;> exact fin_kept _
  by_cases hk : k = 1 ∨ k = 2
  · have : sU k = 1 := by simp [sU, hk]
    have h1 : st1 k a b c x y s = 0 := by simp [st1, hk]
    rw [this, h1, h0]; simp [same00]
  · have : sU k = 2 := by simp [sU, hk]
    have h1 : fin (st1 k a b c x y s) = true := by unfold st1; rw [if_neg hk]; split <;> exact fin_kept _
    rw [this, h0, h1]; simp
/-- The states of a filter that gets zeros. -/
def stN (k : Int) (a b c x y : Nat) : Nat → Nat × Nat
  | 0 => (x, y)
  | n + 1 => (st0 k a b c (stN k a b c x y n).1 (stN k a b c x y n).2 0, st1 k a b c (stN k a b c x y n).1 (stN k a b c x y n).2 0)
theorem okF_stN {k : Int} {a b c x y : Nat} (h : okF k a b c x y = true) (n : Nat) : okF k a b c (stN k a b c x y n).1 (stN k a b c x y n).2 = true := by
  induction n with
  | zero => exact h
  | succ n ih => exact okF_step ih
theorem fits_stN {k : Int} {a b c x y : Nat} (hx : fits .f32 x) (hy : fits .f32 y) (n : Nat) : fits .f32 (stN k a b c x y n).1 ∧ fits .f32 (stN k a b c x y n).2 := by
  induction n with
  | zero => exact ⟨hx, hy⟩
  | succ n ih => exact ⟨fits_st0 fits_zero (fits_outF _ _ _ _ _ _ _), fits_st1 ih.1⟩
def stillN (k : Int) (a b c x y n : Nat) : Bool := stillB (stN k a b c x y n).1 (stN k a b c x y n).2
/-- What 'StepsToStill' gives. -/
def ResST (k : Int) (a b c x y K : Nat) (n code : Int) : Prop :=
  (code = 0 ∧ ∃ m : Nat, n = m ∧ m ≤ K ∧ stillN k a b c x y m = true ∧ ∀ i, i < m → stillN k a b c x y i = false) ∨ (code = 7 ∧ n = 0 ∧ ∀ i, i ≤ K → stillN k a b c x y i = false)
theorem ResST.one {k : Int} {a b c x y K : Nat} {n d n' d' : Int} (h : ResST k a b c x y K n d) (h' : ResST k a b c x y K n' d') : n = n' ∧ d = d' := by
  rcases h with ⟨rfl, m, rfl, h1, h2, h3⟩ | ⟨rfl, rfl, h1⟩ <;> rcases h' with ⟨rfl, m', rfl, h1', h2', h3'⟩ | ⟨rfl, rfl, h1'⟩
  · rcases Nat.lt_trichotomy m m' with h | h | h
    · rw [h3' m h] at h2; cases h2
    · subst h; exact ⟨rfl, rfl⟩
    · rw [h3 m' h] at h2'; cases h2'
  · rw [h1' m h1] at h2; cases h2
  · rw [h1 m' h1'] at h2'; cases h2'
  · exact ⟨rfl, rfl⟩
def OutST (k : Int) (a b c x y K : Nat) (w : World) (e : Ending) (w' : World) : Prop := ∃ n d, e = .returned (.tuple #[.int .i64 n, .int .i64 d]) ∧ ResST k a b c x y K n d ∧ le w w'
end Go.Fk
namespace Go.Proofs.Ytpfdegimnjbehac
open Go.RowKit Go.Fk
set_option maxHeartbeats 2000000 in
theorem i_Steps_yes (k : Int) (a b c x y K : Nat) (w : World) (hv : okF k a b c x y = true) (hK : K ≤ 100000) (hf : fits .f32 a ∧ fits .f32 b ∧ fits .f32 c ∧ fits .f32 x ∧ fits .f32 y) :
    Calls Try.prog 36 #[(.agg #[.int .i64 k, .float .f32 a, .float .f32 b, .float .f32 c, .float .f32 x, .float .f32 y]), .int .i64 K] w (OutST k a b c x y K w) := by
  have Hf := hid hf; clear hf
  have hV := hid (fun w => i_ValidFilter k a b c x y w Hf.out)
  have HK := hid (okF_kind hv)
  have HN := hid (fun n => fits_stN (k := k) (a := a) (b := b) (c := c) Hf.out.2.2.2.1 Hf.out.2.2.2.2 n)
  rw [hv] at hV
  clear hv
  have hK1 : (K : Int) ≤ 100000 := by omega
  have hK0 : 0 ≤ (K : Int) := by omega
  have F := (Frm.nil w).box 26 (#[.int .i64 k, .float .f32 a, .float .f32 b, .float .f32 c, .float .f32 x, .float .f32 y] : Array Value)
  go_enter Try.func36, Try.ntmps36
  go_wp2_with (first | ((with_reducible refine at_load rfl ?_); first | (with_reducible refine wpList_loadFr F rfl rfl rfl (by first | exact List.mem_cons_self | exact List.mem_cons_of_mem _ (List.mem_cons_self) | exact List.mem_cons_of_mem _ (List.mem_cons_of_mem _ (List.mem_cons_self)) | exact List.mem_cons_of_mem _ (List.mem_cons_of_mem _ (List.mem_cons_of_mem _ (List.mem_cons_self))) | exact List.mem_cons_of_mem _ (List.mem_cons_of_mem _ (List.mem_cons_of_mem _ (List.mem_cons_of_mem _ (List.mem_cons_self)))) | exact List.mem_cons_of_mem _ (List.mem_cons_of_mem _ (List.mem_cons_of_mem _ (List.mem_cons_of_mem _ (List.mem_cons_of_mem _ (List.mem_cons_self))))) | exact List.mem_cons_of_mem _ (List.mem_cons_of_mem _ (List.mem_cons_of_mem _ (List.mem_cons_of_mem _ (List.mem_cons_of_mem _ (List.mem_cons_of_mem _ (List.mem_cons_self))))))) Try.underlying26 rfl infoFil (by simp [size_ftab]) ?_) | (with_reducible refine wpList_loadFr (F.box _ _) rfl rfl rfl (by first | exact List.mem_cons_self | exact List.mem_cons_of_mem _ (List.mem_cons_self) | exact List.mem_cons_of_mem _ (List.mem_cons_of_mem _ (List.mem_cons_self)) | exact List.mem_cons_of_mem _ (List.mem_cons_of_mem _ (List.mem_cons_of_mem _ (List.mem_cons_self))) | exact List.mem_cons_of_mem _ (List.mem_cons_of_mem _ (List.mem_cons_of_mem _ (List.mem_cons_of_mem _ (List.mem_cons_self)))) | exact List.mem_cons_of_mem _ (List.mem_cons_of_mem _ (List.mem_cons_of_mem _ (List.mem_cons_of_mem _ (List.mem_cons_of_mem _ (List.mem_cons_self))))) | exact List.mem_cons_of_mem _ (List.mem_cons_of_mem _ (List.mem_cons_of_mem _ (List.mem_cons_of_mem _ (List.mem_cons_of_mem _ (List.mem_cons_of_mem _ (List.mem_cons_self))))))) Try.underlying26 rfl infoFil (by simp [size_ftab]) ?_)) | (go_at_call 16; ((with_reducible refine (hV.out _).mono ?_); rintro e w1 ⟨rfl, hb1⟩; replace F := F.le hb1)) | (go_at_call 49; ((with_reducible refine (i_newRunner _ _ _ _ _ _ _ HK.out).mono ?_); rintro e w2 ⟨g, rfl, hg, hR, hl⟩; have hge := hid (Nat.le_trans F.size hg); replace F := (F.push hR hl).sub (L' := [(g, 82, #[mdl k a b c, .float .f32 x, .float .f32 y])]) (fun z hz => by rw [List.mem_singleton.1 hz]; exact List.mem_cons_self); clear hg hR hl)))
  replace F := hid F
  go_loopw [21] (fun i wr => ∃ j : Nat, j ≤ K + 1 ∧ i = .int .i64 j ∧ Hid (∀ m, m < j → stillN k a b c x y m = false) ∧ Hid (Frm w wr [(g, 82, #[mdl k a b c, .float .f32 (stN k a b c x y j).1, .float .f32 (stN k a b c x y j).2])])) (fun i _ => (K + 1) - (intOf i).toNat)
  case atStart => exact ⟨0, by omega, rfl, fun m hm => absurd hm (by omega), F⟩
  case round =>
    obtain ⟨j, hj, rfl, HJ, FJ⟩ := hrel
    clear F
    by_cases hlt : j < K + 1
    · cases hs : stillB (stN k a b c x y j).1 (stN k a b c x y j).2
      · have hS := hid (fun w R => i_isStill (mdl k a b c) (stN k a b c x y j).1 (stN k a b c x y j).2 g w R)
        rw [hs] at hS
        replace hs := hid hs
        go_wp2_with (first | (go_at_call 53; ((with_reducible refine (hS.out _ (FJ.out.row List.mem_cons_self)).mono ?_); rintro e w3 ⟨rfl, rfl⟩)) | (go_at_call 50; ((with_reducible refine (i_step _ _ _ _ _ _ _ _ _ HK.out (FJ.out.row List.mem_cons_self) (HN.out _).1 fits_zero).mono ?_); rintro e w3 ⟨r, rfl, _, _, hR, hU⟩; replace FJ := hid (FJ.out.upd hR hU hge.out (L' := []) (by simp)); clear hR hU)))
        go_roundw
        case rel => exact ⟨j + 1, by omega, by go_num, fun m hm => by rcases Nat.lt_or_ge m j with h | h; exact HJ.out m h; rw [show m = j by omega]; exact hs.out, FJ⟩
        case measure => simp [intOf]; omega
      · have hS := hid (fun w R => i_isStill (mdl k a b c) (stN k a b c x y j).1 (stN k a b c x y j).2 g w R)
        rw [hs] at hS
        replace hs := hid hs
        go_wp2_with (first | (go_at_call 53; ((with_reducible refine (hS.out _ (FJ.out.row List.mem_cons_self)).mono ?_); rintro e w3 ⟨rfl, rfl⟩)))
        go_ret2
        exact ⟨_, _, rfl, .inl ⟨rfl, j, rfl, by omega, hs.out, HJ.out⟩, FJ.out.below⟩
    · obtain rfl : j = K + 1 := by omega
      go_wp2
      go_ret2
      exact ⟨_, _, rfl, .inr ⟨rfl, rfl, fun i hi => HJ.out i (by omega)⟩, FJ.out.below⟩
set_option maxHeartbeats 2000000 in
theorem s_Steps_yes (k : Int) (a b c x y K : Nat) (w : World) (hv : okF k a b c x y = true) (hK : K ≤ 100000) (hx : fits .f32 x) (hy : fits .f32 y) :
    Calls Try.prog 35 #[(.agg #[.int .i64 k, .float .f32 a, .float .f32 b, .float .f32 c, .float .f32 x, .float .f32 y]), .int .i64 K] w (OutST k a b c x y K w) := by
  have hV := hid (fun g w (R : Row w g 26 (#[.int .i64 k, .float .f32 a, .float .f32 b, .float .f32 c, .float .f32 x, .float .f32 y] : Array Value)) => s_Ok k a b c x y g w R)
  have HV := hid (fun n => okF_stN hv n)
  have HN := hid (fun n => fits_stN (k := k) (a := a) (b := b) (c := c) hx hy n)
  rw [hv] at hV
  clear hv hx hy
  have hK1 : (K : Int) ≤ 100000 := by omega
  have hK0 : 0 ≤ (K : Int) := by omega
  have hIn : Hid (∀ w, Calls Try.prog 54 #[.int .i64 K, .int .i64 0, .int .i64 100000] w fun e w' => e = .returned (.bool true) ∧ w = w') := fun w => by
    have h := s_In K 0 100000 w
    rwa [show (decide ((0 : Int) ≤ K) && decide ((K : Int) ≤ 100000)) = true by simp only [Bool.and_eq_true, decide_eq_true_eq]; omega] at h
  have F := (Frm.nil w).box 26 (#[.int .i64 k, .float .f32 a, .float .f32 b, .float .f32 c, .float .f32 x, .float .f32 y] : Array Value)
  go_enter Try.func35, Try.ntmps35
  go_wp2_with (first | (go_at_call 39; ((with_reducible refine (hV.out _ _ (F.row List.mem_cons_self)).mono ?_); rintro e w1 ⟨rfl, n1, rfl⟩; replace F := F.drewN n1)) | (go_at_call 54; ((with_reducible refine (hIn.out _).mono ?_); rintro e w1 ⟨rfl, rfl⟩)))
  replace F := hid F
  go_loopw [6] (fun i wr => ∃ j : Nat, j ≤ K + 1 ∧ i = .int .i64 j ∧ Hid (∀ m, m < j → stillN k a b c x y m = false) ∧ Hid (Frm w wr [(w.heap.size, 26, (#[.int .i64 k, .float .f32 a, .float .f32 b, .float .f32 c, .float .f32 (stN k a b c x y j).1, .float .f32 (stN k a b c x y j).2] : Array Value))])) (fun i _ => (K + 1) - (intOf i).toNat)
  case atStart => exact ⟨0, by omega, rfl, fun m hm => absurd hm (by omega), F⟩
  case round =>
    obtain ⟨j, hj, rfl, HJ, FJ⟩ := hrel
    clear F
    by_cases hlt : j ≤ K
    · have hjK : (j : Int) ≤ K := by omega
      cases hs : stillB (stN k a b c x y j).1 (stN k a b c x y j).2
      · have hS := hid (fun w R => s_l02Still k a b c (stN k a b c x y j).1 (stN k a b c x y j).2 w.heap.size w R)
        have hS := hid (fun w g R => s_l02Still k a b c (stN k a b c x y j).1 (stN k a b c x y j).2 g w R)
        rw [hs] at hS
        replace hs := hid hs
        go_wp2_with (first | (go_at_call 52; ((with_reducible refine (hS.out _ _ (FJ.out.row List.mem_cons_self)).mono ?_); rintro e w3 ⟨rfl, rfl⟩)) | (go_at_call 48; ((with_reducible refine (s_Step _ _ _ _ _ _ _ _ _ (HV.out _) (FJ.out.row List.mem_cons_self) (HN.out _).1 fits_zero).mono ?_); rintro e w3 ⟨r, rfl, _, _, hR, hU⟩; replace FJ := hid (FJ.out.upd hR hU (Nat.le_refl _) (L' := []) (by simp)); clear hR hU)))
        go_roundw
        case rel => exact ⟨j + 1, by omega, by go_num, fun m hm => by rcases Nat.lt_or_ge m j with h | h; exact HJ.out m h; rw [show m = j by omega]; exact hs.out, FJ⟩
        case measure => simp [intOf]; omega
      · have hS := hid (fun w g R => s_l02Still k a b c (stN k a b c x y j).1 (stN k a b c x y j).2 g w R)
        rw [hs] at hS
        replace hs := hid hs
        go_wp2_with (first | (go_at_call 52; ((with_reducible refine (hS.out _ _ (FJ.out.row List.mem_cons_self)).mono ?_); rintro e w3 ⟨rfl, rfl⟩)))
        go_ret2
        exact ⟨_, _, rfl, .inl ⟨rfl, j, rfl, by omega, hs.out, HJ.out⟩, FJ.out.below⟩
    · have hjK : ¬ (j : Int) ≤ K := by omega
      obtain rfl : j = K + 1 := by omega
      go_wp2
      go_ret2
      exact ⟨_, _, rfl, .inr ⟨rfl, rfl, fun i hi => HJ.out i (by omega)⟩, FJ.out.below⟩
set_option maxHeartbeats 1000000 in
theorem i_Steps_no (k : Int) (a b c x y : Nat) (m : Int) (w : World) (hv : okF k a b c x y = false) (hf : fits .f32 a ∧ fits .f32 b ∧ fits .f32 c ∧ fits .f32 x ∧ fits .f32 y) :
    Calls Try.prog 36 #[(.agg #[.int .i64 k, .float .f32 a, .float .f32 b, .float .f32 c, .float .f32 x, .float .f32 y]), .int .i64 m] w fun e w' => e = .returned (.tuple #[.int .i64 0, .int .i64 1]) ∧ le w w' := by
  have Hf := hid hf; clear hf
  have hV := hid (fun w => i_ValidFilter k a b c x y w Hf.out)
  rw [hv] at hV
  clear hv
  have F := (Frm.nil w).box 26 (#[.int .i64 k, .float .f32 a, .float .f32 b, .float .f32 c, .float .f32 x, .float .f32 y] : Array Value)
  go_enter Try.func36, Try.ntmps36
  go_wp2_with (first | ((with_reducible refine at_load rfl ?_); first | (with_reducible refine wpList_loadFr F rfl rfl rfl (by first | exact List.mem_cons_self | exact List.mem_cons_of_mem _ (List.mem_cons_self) | exact List.mem_cons_of_mem _ (List.mem_cons_of_mem _ (List.mem_cons_self)) | exact List.mem_cons_of_mem _ (List.mem_cons_of_mem _ (List.mem_cons_of_mem _ (List.mem_cons_self))) | exact List.mem_cons_of_mem _ (List.mem_cons_of_mem _ (List.mem_cons_of_mem _ (List.mem_cons_of_mem _ (List.mem_cons_self)))) | exact List.mem_cons_of_mem _ (List.mem_cons_of_mem _ (List.mem_cons_of_mem _ (List.mem_cons_of_mem _ (List.mem_cons_of_mem _ (List.mem_cons_self))))) | exact List.mem_cons_of_mem _ (List.mem_cons_of_mem _ (List.mem_cons_of_mem _ (List.mem_cons_of_mem _ (List.mem_cons_of_mem _ (List.mem_cons_of_mem _ (List.mem_cons_self))))))) Try.underlying26 rfl infoFil (by simp [size_ftab]) ?_) | (with_reducible refine wpList_loadFr (F.box _ _) rfl rfl rfl (by first | exact List.mem_cons_self | exact List.mem_cons_of_mem _ (List.mem_cons_self) | exact List.mem_cons_of_mem _ (List.mem_cons_of_mem _ (List.mem_cons_self)) | exact List.mem_cons_of_mem _ (List.mem_cons_of_mem _ (List.mem_cons_of_mem _ (List.mem_cons_self))) | exact List.mem_cons_of_mem _ (List.mem_cons_of_mem _ (List.mem_cons_of_mem _ (List.mem_cons_of_mem _ (List.mem_cons_self)))) | exact List.mem_cons_of_mem _ (List.mem_cons_of_mem _ (List.mem_cons_of_mem _ (List.mem_cons_of_mem _ (List.mem_cons_of_mem _ (List.mem_cons_self))))) | exact List.mem_cons_of_mem _ (List.mem_cons_of_mem _ (List.mem_cons_of_mem _ (List.mem_cons_of_mem _ (List.mem_cons_of_mem _ (List.mem_cons_of_mem _ (List.mem_cons_self))))))) Try.underlying26 rfl infoFil (by simp [size_ftab]) ?_)) | (go_at_call 16; ((with_reducible refine (hV.out _).mono ?_); rintro e w1 ⟨rfl, hb1⟩; replace F := F.le hb1)))
  go_ret2
  exact ⟨rfl, F.below⟩
set_option maxHeartbeats 1000000 in
theorem i_Steps_out (k : Int) (a b c x y : Nat) (m : Int) (w : World) (hv : okF k a b c x y = true) (hm : m < 0 ∨ 100000 < m) (hf : fits .f32 a ∧ fits .f32 b ∧ fits .f32 c ∧ fits .f32 x ∧ fits .f32 y) :
    Calls Try.prog 36 #[(.agg #[.int .i64 k, .float .f32 a, .float .f32 b, .float .f32 c, .float .f32 x, .float .f32 y]), .int .i64 m] w fun e w' => e = .returned (.tuple #[.int .i64 0, .int .i64 2]) ∧ le w w' := by
  have Hf := hid hf; clear hf
  have hV := hid (fun w => i_ValidFilter k a b c x y w Hf.out)
  rw [hv] at hV
  clear hv
  have F := (Frm.nil w).box 26 (#[.int .i64 k, .float .f32 a, .float .f32 b, .float .f32 c, .float .f32 x, .float .f32 y] : Array Value)
  rcases (show m < 0 ∨ (¬ m < 0 ∧ 100000 < m) by omega) with h | ⟨h, h'⟩
  all_goals
    clear hm
    go_enter Try.func36, Try.ntmps36
    go_wp2_with (first | ((with_reducible refine at_load rfl ?_); first | (with_reducible refine wpList_loadFr F rfl rfl rfl (by first | exact List.mem_cons_self | exact List.mem_cons_of_mem _ (List.mem_cons_self) | exact List.mem_cons_of_mem _ (List.mem_cons_of_mem _ (List.mem_cons_self)) | exact List.mem_cons_of_mem _ (List.mem_cons_of_mem _ (List.mem_cons_of_mem _ (List.mem_cons_self))) | exact List.mem_cons_of_mem _ (List.mem_cons_of_mem _ (List.mem_cons_of_mem _ (List.mem_cons_of_mem _ (List.mem_cons_self)))) | exact List.mem_cons_of_mem _ (List.mem_cons_of_mem _ (List.mem_cons_of_mem _ (List.mem_cons_of_mem _ (List.mem_cons_of_mem _ (List.mem_cons_self))))) | exact List.mem_cons_of_mem _ (List.mem_cons_of_mem _ (List.mem_cons_of_mem _ (List.mem_cons_of_mem _ (List.mem_cons_of_mem _ (List.mem_cons_of_mem _ (List.mem_cons_self))))))) Try.underlying26 rfl infoFil (by simp [size_ftab]) ?_) | (with_reducible refine wpList_loadFr (F.box _ _) rfl rfl rfl (by first | exact List.mem_cons_self | exact List.mem_cons_of_mem _ (List.mem_cons_self) | exact List.mem_cons_of_mem _ (List.mem_cons_of_mem _ (List.mem_cons_self)) | exact List.mem_cons_of_mem _ (List.mem_cons_of_mem _ (List.mem_cons_of_mem _ (List.mem_cons_self))) | exact List.mem_cons_of_mem _ (List.mem_cons_of_mem _ (List.mem_cons_of_mem _ (List.mem_cons_of_mem _ (List.mem_cons_self)))) | exact List.mem_cons_of_mem _ (List.mem_cons_of_mem _ (List.mem_cons_of_mem _ (List.mem_cons_of_mem _ (List.mem_cons_of_mem _ (List.mem_cons_self))))) | exact List.mem_cons_of_mem _ (List.mem_cons_of_mem _ (List.mem_cons_of_mem _ (List.mem_cons_of_mem _ (List.mem_cons_of_mem _ (List.mem_cons_of_mem _ (List.mem_cons_self))))))) Try.underlying26 rfl infoFil (by simp [size_ftab]) ?_)) | (go_at_call 16; ((with_reducible refine (hV.out _).mono ?_); rintro e w1 ⟨rfl, hb1⟩; replace F := F.le hb1)))
    go_ret2
    exact ⟨rfl, F.below⟩
set_option maxHeartbeats 1000000 in
theorem s_Steps_no (k : Int) (a b c x y : Nat) (m : Int) (w : World) (hv : okF k a b c x y = false) :
    Calls Try.prog 35 #[(.agg #[.int .i64 k, .float .f32 a, .float .f32 b, .float .f32 c, .float .f32 x, .float .f32 y]), .int .i64 m] w fun e w' => e = .returned (.tuple #[.int .i64 0, .int .i64 1]) ∧ le w w' := by
  have hV := hid (fun g w (R : Row w g 26 (#[.int .i64 k, .float .f32 a, .float .f32 b, .float .f32 c, .float .f32 x, .float .f32 y] : Array Value)) => s_Ok k a b c x y g w R)
  rw [hv] at hV
  clear hv
  have F := (Frm.nil w).box 26 (#[.int .i64 k, .float .f32 a, .float .f32 b, .float .f32 c, .float .f32 x, .float .f32 y] : Array Value)
  go_enter Try.func35, Try.ntmps35
  go_wp2_with (first | (go_at_call 39; ((with_reducible refine (hV.out _ _ (F.row List.mem_cons_self)).mono ?_); rintro e w1 ⟨rfl, n1, rfl⟩; replace F := F.drewN n1)))
  go_ret2
  exact ⟨rfl, F.below⟩
set_option maxHeartbeats 1000000 in
theorem s_Steps_out (k : Int) (a b c x y : Nat) (m : Int) (w : World) (hv : okF k a b c x y = true) (hm : m < 0 ∨ 100000 < m) :
    Calls Try.prog 35 #[(.agg #[.int .i64 k, .float .f32 a, .float .f32 b, .float .f32 c, .float .f32 x, .float .f32 y]), .int .i64 m] w fun e w' => e = .returned (.tuple #[.int .i64 0, .int .i64 2]) ∧ le w w' := by
  have hV := hid (fun g w (R : Row w g 26 (#[.int .i64 k, .float .f32 a, .float .f32 b, .float .f32 c, .float .f32 x, .float .f32 y] : Array Value)) => s_Ok k a b c x y g w R)
  rw [hv] at hV
  clear hv
  have hIn : Hid (∀ w, Calls Try.prog 54 #[.int .i64 m, .int .i64 0, .int .i64 100000] w fun e w' => e = .returned (.bool false) ∧ w = w') := fun w => by
    have h := s_In m 0 100000 w
    rwa [show (decide ((0 : Int) ≤ m) && decide (m ≤ 100000)) = false by simp only [Bool.and_eq_false_iff, decide_eq_false_iff_not]; omega] at h
  have F := (Frm.nil w).box 26 (#[.int .i64 k, .float .f32 a, .float .f32 b, .float .f32 c, .float .f32 x, .float .f32 y] : Array Value)
  clear hm
  go_enter Try.func35, Try.ntmps35
  go_wp2_with (first | (go_at_call 39; ((with_reducible refine (hV.out _ _ (F.row List.mem_cons_self)).mono ?_); rintro e w1 ⟨rfl, n1, rfl⟩; replace F := F.drewN n1)) | (go_at_call 54; ((with_reducible refine (hIn.out _).mono ?_); rintro e w1 ⟨rfl, rfl⟩)))
  go_ret2
  exact ⟨rfl, F.below⟩
end Go.Proofs.Ytpfdegimnjbehac
