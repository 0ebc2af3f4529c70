/- 'StepsToStill' of both. -/
import Derived.Test.YtaenbpkcehenkabSettleP
namespace Go.Proofs.Ytaenbpkcehenkab
open Go.RowKit Go.Fk
set_option maxHeartbeats 2000000 in
theorem i_leastSteps (k : Int) (a b c x y K g : Nat) (w : World) (hk : 1 ≤ k ∧ k ≤ 5) (hK : K ≤ 100000) (hx : fits .f32 x) (hy : fits .f32 y) (R : Row w g 78 #[mdl k a b c, .float .f32 x, .float .f32 y]) :
    Calls Try.prog 56 #[.iface 75 (.pointer (some ⟨g, 0, none⟩)), .int .i64 K, .int .i64 100000] w fun e w' => ∃ n d, e = .returned (.tuple #[.int .i64 n, .int .i64 d]) ∧ ResST k a b c x y K n d ∧ Upd g w w' := by
  have HK := hid hk
  have HN := hid (fun n => fits_stN (k := k) (a := a) (b := b) (c := c) hx hy n)
  have hK1 : (K : Int) ≤ 100000 := by omega
  have hK0 : 0 ≤ (K : Int) := by omega
  have HR := hid R; clear R hx hy hk
  go_enter Try.func56, Try.ntmps56
  go_wp2_with fail
  go_loopw [18] (fun i wr => ∃ j : Nat, j ≤ K + 1 ∧ i = .int .i64 j ∧ Hid (∀ m, m < j → stillN k a b c x y m = false) ∧ Hid (Row wr g 78 #[mdl k a b c, .float .f32 (stN k a b c x y j).1, .float .f32 (stN k a b c x y j).2]) ∧ Hid (Upd g w wr)) (fun i _ => (K + 1) - (intOf i).toNat)
  case atStart => exact ⟨0, by omega, rfl, fun m hm => absurd hm (by omega), HR.out, Upd.refl g w⟩
  case round =>
    obtain ⟨j, hj, rfl, HJ, RJ, UJ⟩ := hrel
    by_cases hlt : j < K + 1
    · have hlt' : (j : Int) < (K : Int) + 1 := by omega
      cases hs : stillB (stN k a b c x y j).1 (stN k a b c x y j).2
      · have hS := hid (fun w R => i_isStill (mdl k a b c) (stN k a b c x y j).1 (stN k a b c x y j).2 g w R)
        rw [hs] at hS
        replace hs := hid hs
        go_wp2_with (first | (go_at_call 54; ((with_reducible refine (hS.out _ RJ.out).mono ?_); rintro e w3 ⟨rfl, rfl⟩)) | (go_at_call 49; ((with_reducible refine (i_step _ _ _ _ _ _ _ _ _ HK.out RJ.out (HN.out _).1 fits_zero).mono ?_); rintro e w4 ⟨r, rfl, hr, fr, hR, hU⟩; replace RJ := hid hR; replace UJ := hid (UJ.out.trans hU); clear hR hU hr fr)))
        go_roundw
        case rel => exact ⟨j + 1, by omega, by go_num, fun m hm => by rcases Nat.lt_or_ge m j with h | h; exact HJ.out m h; rw [show m = j by omega]; exact hs.out, RJ.out, UJ.out⟩
        case measure => simp [intOf]; omega
      · have hS := hid (fun w R => i_isStill (mdl k a b c) (stN k a b c x y j).1 (stN k a b c x y j).2 g w R)
        rw [hs] at hS
        replace hs := hid hs
        go_wp2_with (first | (go_at_call 54; ((with_reducible refine (hS.out _ RJ.out).mono ?_); rintro e w3 ⟨rfl, rfl⟩)))
        go_ret2
        exact ⟨_, _, rfl, .inl ⟨rfl, j, rfl, by omega, hs.out, HJ.out⟩, UJ.out⟩
    · have hlt' : ¬ (j : Int) < (K : Int) + 1 := by omega
      obtain rfl : j = K + 1 := by omega
      go_wp2
      go_ret2
      exact ⟨_, _, rfl, .inr ⟨rfl, rfl, fun i hi => HJ.out i (by omega)⟩, UJ.out⟩
theorem i_leastSteps_out (v : Value) (m : Int) (w : World) (hm : m < 0 ∨ 100000 < m) :
    Calls Try.prog 56 #[v, .int .i64 m, .int .i64 100000] w fun e w' => e = .returned (.tuple #[.int .i64 0, .int .i64 2]) ∧ w = w' := by
  rcases (show m < 0 ∨ (¬ m < 0 ∧ 100000 < m) by omega) with h | ⟨h, h'⟩
  all_goals
    clear hm
    go_enter Try.func56, Try.ntmps56
    go_wp2
    go_ret2
    exact ⟨rfl, rfl⟩
set_option maxHeartbeats 2000000 in
theorem i_Steps_yes (k : Int) (a b c x y K : Nat) (w : World) (hv : okF k a b c x y = true) (hK : K ≤ 100000) (hf : fits .f32 a ∧ fits .f32 b ∧ fits .f32 c ∧ fits .f32 x ∧ fits .f32 y) :
    Calls Try.prog 27 #[(.agg #[.int .i64 k, .float .f32 a, .float .f32 b, .float .f32 c, .float .f32 x, .float .f32 y]), .int .i64 K] w (OutST k a b c x y K w) := by
  have Hf := hid hf; clear hf
  have hV := hid (fun w => i_ValidFilter k a b c x y w Hf.out)
  have HK := hid (okF_kind hv)
  rw [hv] at hV
  clear hv
  have HL := hid (fun (w : World) (g : Nat) (R : Row w g 78 #[mdl k a b c, .float .f32 x, .float .f32 y]) => i_leastSteps k a b c x y K g w HK.out hK Hf.out.2.2.2.1 Hf.out.2.2.2.2 R)
  have F := (Frm.nil w).box 33 (#[.int .i64 k, .float .f32 a, .float .f32 b, .float .f32 c, .float .f32 x, .float .f32 y] : Array Value)
  go_enter Try.func27, Try.ntmps27
  go_wp2_with (first | ((with_reducible refine at_load rfl ?_); first | (with_reducible refine wpList_loadFr F rfl rfl rfl (by first | exact List.mem_cons_self | exact List.mem_cons_of_mem _ (List.mem_cons_self) | exact List.mem_cons_of_mem _ (List.mem_cons_of_mem _ (List.mem_cons_self)) | exact List.mem_cons_of_mem _ (List.mem_cons_of_mem _ (List.mem_cons_of_mem _ (List.mem_cons_self))) | exact List.mem_cons_of_mem _ (List.mem_cons_of_mem _ (List.mem_cons_of_mem _ (List.mem_cons_of_mem _ (List.mem_cons_self)))) | exact List.mem_cons_of_mem _ (List.mem_cons_of_mem _ (List.mem_cons_of_mem _ (List.mem_cons_of_mem _ (List.mem_cons_of_mem _ (List.mem_cons_self))))) | exact List.mem_cons_of_mem _ (List.mem_cons_of_mem _ (List.mem_cons_of_mem _ (List.mem_cons_of_mem _ (List.mem_cons_of_mem _ (List.mem_cons_of_mem _ (List.mem_cons_self))))))) Try.underlying33 rfl infoFil (by simp [size_ftab]) ?_) | (with_reducible refine wpList_loadFr (F.box _ _) rfl rfl rfl (by first | exact List.mem_cons_self | exact List.mem_cons_of_mem _ (List.mem_cons_self) | exact List.mem_cons_of_mem _ (List.mem_cons_of_mem _ (List.mem_cons_self)) | exact List.mem_cons_of_mem _ (List.mem_cons_of_mem _ (List.mem_cons_of_mem _ (List.mem_cons_self))) | exact List.mem_cons_of_mem _ (List.mem_cons_of_mem _ (List.mem_cons_of_mem _ (List.mem_cons_of_mem _ (List.mem_cons_self)))) | exact List.mem_cons_of_mem _ (List.mem_cons_of_mem _ (List.mem_cons_of_mem _ (List.mem_cons_of_mem _ (List.mem_cons_of_mem _ (List.mem_cons_self))))) | exact List.mem_cons_of_mem _ (List.mem_cons_of_mem _ (List.mem_cons_of_mem _ (List.mem_cons_of_mem _ (List.mem_cons_of_mem _ (List.mem_cons_of_mem _ (List.mem_cons_self))))))) Try.underlying33 rfl infoFil (by simp [size_ftab]) ?_)) | (go_at_call 16; ((with_reducible refine (hV.out _).mono ?_); rintro e w1 ⟨rfl, hb1⟩; replace F := F.le hb1)) | (go_at_call 48; ((with_reducible refine (i_newRunner _ _ _ _ _ _ _ HK.out).mono ?_); rintro e w2 ⟨g, rfl, hg, hR, hl⟩; have hge := hid (Nat.le_trans F.below.size hg); have hle2 := hid (le_trans F.below hl); replace F := hid hR; clear hR hl hg)) | (go_at_call 56; ((with_reducible refine (HL.out _ _ F.out).mono ?_); rintro e w3 ⟨n, d, rfl, hres, hU⟩; replace hres := hid hres; replace hU := hid hU)))
  go_ret2
  exact ⟨_, _, rfl, hres.out, Below.trans hle2.out (hU.out.below hge.out hle2.out.size)⟩
set_option maxHeartbeats 2000000 in
theorem s_Steps_yes (k : Int) (a b c x y K : Nat) (w : World) (hv : okF k a b c x y = true) (hK : K ≤ 100000) (hx : fits .f32 x) (hy : fits .f32 y) :
    Calls Try.prog 26 #[(.agg #[.int .i64 k, .float .f32 a, .float .f32 b, .float .f32 c, .float .f32 x, .float .f32 y]), .int .i64 K] w (OutST k a b c x y K w) := by
  have hV := hid (fun g w (R : Row w g 33 (#[.int .i64 k, .float .f32 a, .float .f32 b, .float .f32 c, .float .f32 x, .float .f32 y] : Array Value)) => s_Ok k a b c x y g w R)
  have HV := hid (fun n => okF_stN hv n)
  have HN := hid (fun n => fits_stN (k := k) (a := a) (b := b) (c := c) hx hy n)
  rw [hv] at hV
  clear hv hx hy
  have hK1 : (K : Int) ≤ 100000 := by omega
  have hK0 : 0 ≤ (K : Int) := by omega
  have hIn : Hid (∀ w, Calls Try.prog 55 #[.int .i64 K, .int .i64 0, .int .i64 100000] w fun e w' => e = .returned (.bool true) ∧ w = w') := fun w => by
    have h := s_In K 0 100000 w
    rwa [show (decide ((0 : Int) ≤ K) && decide ((K : Int) ≤ 100000)) = true by simp only [Bool.and_eq_true, decide_eq_true_eq]; omega] at h
  have F := (Frm.nil w).box 33 (#[.int .i64 k, .float .f32 a, .float .f32 b, .float .f32 c, .float .f32 x, .float .f32 y] : Array Value)
  go_enter Try.func26, Try.ntmps26
  go_wp2_with (first | (go_at_call 41; ((with_reducible refine (hV.out _ _ (F.row List.mem_cons_self)).mono ?_); rintro e w1 ⟨rfl, n1, rfl⟩; replace F := F.drewN n1)) | (go_at_call 55; ((with_reducible refine (hIn.out _).mono ?_); rintro e w1 ⟨rfl, rfl⟩)))
  replace F := hid F
  go_loopw [6] (fun i wr => ∃ j : Nat, j ≤ K + 1 ∧ i = .int .i64 j ∧ Hid (∀ m, m < j → stillN k a b c x y m = false) ∧ Hid (Frm w wr [(w.heap.size, 33, (#[.int .i64 k, .float .f32 a, .float .f32 b, .float .f32 c, .float .f32 (stN k a b c x y j).1, .float .f32 (stN k a b c x y j).2] : Array Value))])) (fun i _ => (K + 1) - (intOf i).toNat)
  case atStart => exact ⟨0, by omega, rfl, fun m hm => absurd hm (by omega), F⟩
  case round =>
    obtain ⟨j, hj, rfl, HJ, FJ⟩ := hrel
    clear F
    by_cases hlt : j ≤ K
    · have hjK : (j : Int) ≤ K := by omega
      cases hs : stillB (stN k a b c x y j).1 (stN k a b c x y j).2
      · have hS := hid (fun w R => s_l02Still k a b c (stN k a b c x y j).1 (stN k a b c x y j).2 w.heap.size w R)
        have hS := hid (fun w g R => s_l02Still k a b c (stN k a b c x y j).1 (stN k a b c x y j).2 g w R)
        rw [hs] at hS
        replace hs := hid hs
        go_wp2_with (first | (go_at_call 53; ((with_reducible refine (hS.out _ _ (FJ.out.row List.mem_cons_self)).mono ?_); rintro e w3 ⟨rfl, rfl⟩)) | (go_at_call 47; ((with_reducible refine (s_Step _ _ _ _ _ _ _ _ _ (HV.out _) (FJ.out.row List.mem_cons_self) (HN.out _).1 fits_zero).mono ?_); rintro e w3 ⟨r, rfl, _, _, hR, hU⟩; replace FJ := hid (FJ.out.upd hR hU (Nat.le_refl _) (L' := []) (by simp)); clear hR hU)))
        go_roundw
        case rel => exact ⟨j + 1, by omega, by go_num, fun m hm => by rcases Nat.lt_or_ge m j with h | h; exact HJ.out m h; rw [show m = j by omega]; exact hs.out, FJ⟩
        case measure => simp [intOf]; omega
      · have hS := hid (fun w g R => s_l02Still k a b c (stN k a b c x y j).1 (stN k a b c x y j).2 g w R)
        rw [hs] at hS
        replace hs := hid hs
        go_wp2_with (first | (go_at_call 53; ((with_reducible refine (hS.out _ _ (FJ.out.row List.mem_cons_self)).mono ?_); rintro e w3 ⟨rfl, rfl⟩)))
        go_ret2
        exact ⟨_, _, rfl, .inl ⟨rfl, j, rfl, by omega, hs.out, HJ.out⟩, FJ.out.below⟩
    · have hjK : ¬ (j : Int) ≤ K := by omega
      obtain rfl : j = K + 1 := by omega
      go_wp2
      go_ret2
      exact ⟨_, _, rfl, .inr ⟨rfl, rfl, fun i hi => HJ.out i (by omega)⟩, FJ.out.below⟩
set_option maxHeartbeats 1000000 in
theorem i_Steps_no (k : Int) (a b c x y : Nat) (m : Int) (w : World) (hv : okF k a b c x y = false) (hf : fits .f32 a ∧ fits .f32 b ∧ fits .f32 c ∧ fits .f32 x ∧ fits .f32 y) :
    Calls Try.prog 27 #[(.agg #[.int .i64 k, .float .f32 a, .float .f32 b, .float .f32 c, .float .f32 x, .float .f32 y]), .int .i64 m] w fun e w' => e = .returned (.tuple #[.int .i64 0, .int .i64 1]) ∧ le w w' := by
  have Hf := hid hf; clear hf
  have hV := hid (fun w => i_ValidFilter k a b c x y w Hf.out)
  rw [hv] at hV
  clear hv
  have F := (Frm.nil w).box 33 (#[.int .i64 k, .float .f32 a, .float .f32 b, .float .f32 c, .float .f32 x, .float .f32 y] : Array Value)
  go_enter Try.func27, Try.ntmps27
  go_wp2_with (first | ((with_reducible refine at_load rfl ?_); first | (with_reducible refine wpList_loadFr F rfl rfl rfl (by first | exact List.mem_cons_self | exact List.mem_cons_of_mem _ (List.mem_cons_self) | exact List.mem_cons_of_mem _ (List.mem_cons_of_mem _ (List.mem_cons_self)) | exact List.mem_cons_of_mem _ (List.mem_cons_of_mem _ (List.mem_cons_of_mem _ (List.mem_cons_self))) | exact List.mem_cons_of_mem _ (List.mem_cons_of_mem _ (List.mem_cons_of_mem _ (List.mem_cons_of_mem _ (List.mem_cons_self)))) | exact List.mem_cons_of_mem _ (List.mem_cons_of_mem _ (List.mem_cons_of_mem _ (List.mem_cons_of_mem _ (List.mem_cons_of_mem _ (List.mem_cons_self))))) | exact List.mem_cons_of_mem _ (List.mem_cons_of_mem _ (List.mem_cons_of_mem _ (List.mem_cons_of_mem _ (List.mem_cons_of_mem _ (List.mem_cons_of_mem _ (List.mem_cons_self))))))) Try.underlying33 rfl infoFil (by simp [size_ftab]) ?_) | (with_reducible refine wpList_loadFr (F.box _ _) rfl rfl rfl (by first | exact List.mem_cons_self | exact List.mem_cons_of_mem _ (List.mem_cons_self) | exact List.mem_cons_of_mem _ (List.mem_cons_of_mem _ (List.mem_cons_self)) | exact List.mem_cons_of_mem _ (List.mem_cons_of_mem _ (List.mem_cons_of_mem _ (List.mem_cons_self))) | exact List.mem_cons_of_mem _ (List.mem_cons_of_mem _ (List.mem_cons_of_mem _ (List.mem_cons_of_mem _ (List.mem_cons_self)))) | exact List.mem_cons_of_mem _ (List.mem_cons_of_mem _ (List.mem_cons_of_mem _ (List.mem_cons_of_mem _ (List.mem_cons_of_mem _ (List.mem_cons_self))))) | exact List.mem_cons_of_mem _ (List.mem_cons_of_mem _ (List.mem_cons_of_mem _ (List.mem_cons_of_mem _ (List.mem_cons_of_mem _ (List.mem_cons_of_mem _ (List.mem_cons_self))))))) Try.underlying33 rfl infoFil (by simp [size_ftab]) ?_)) | (go_at_call 16; ((with_reducible refine (hV.out _).mono ?_); rintro e w1 ⟨rfl, hb1⟩; replace F := F.le hb1)))
  go_ret2
  exact ⟨rfl, F.below⟩
set_option maxHeartbeats 1000000 in
theorem i_Steps_out (k : Int) (a b c x y : Nat) (m : Int) (w : World) (hv : okF k a b c x y = true) (hm : m < 0 ∨ 100000 < m) (hf : fits .f32 a ∧ fits .f32 b ∧ fits .f32 c ∧ fits .f32 x ∧ fits .f32 y) :
    Calls Try.prog 27 #[(.agg #[.int .i64 k, .float .f32 a, .float .f32 b, .float .f32 c, .float .f32 x, .float .f32 y]), .int .i64 m] w fun e w' => e = .returned (.tuple #[.int .i64 0, .int .i64 2]) ∧ le w w' := by
  have Hf := hid hf; clear hf
  have hV := hid (fun w => i_ValidFilter k a b c x y w Hf.out)
  have hk := okF_kind hv
  rw [hv] at hV
  clear hv
  have F := (Frm.nil w).box 33 (#[.int .i64 k, .float .f32 a, .float .f32 b, .float .f32 c, .float .f32 x, .float .f32 y] : Array Value)
  have HK := hid hk
  have HL := hid (fun (v : Value) (w : World) => i_leastSteps_out v m w hm)
  clear hm hk
  go_enter Try.func27, Try.ntmps27
  go_wp2_with (first | ((with_reducible refine at_load rfl ?_); first | (with_reducible refine wpList_loadFr F rfl rfl rfl (by first | exact List.mem_cons_self | exact List.mem_cons_of_mem _ (List.mem_cons_self) | exact List.mem_cons_of_mem _ (List.mem_cons_of_mem _ (List.mem_cons_self)) | exact List.mem_cons_of_mem _ (List.mem_cons_of_mem _ (List.mem_cons_of_mem _ (List.mem_cons_self))) | exact List.mem_cons_of_mem _ (List.mem_cons_of_mem _ (List.mem_cons_of_mem _ (List.mem_cons_of_mem _ (List.mem_cons_self)))) | exact List.mem_cons_of_mem _ (List.mem_cons_of_mem _ (List.mem_cons_of_mem _ (List.mem_cons_of_mem _ (List.mem_cons_of_mem _ (List.mem_cons_self))))) | exact List.mem_cons_of_mem _ (List.mem_cons_of_mem _ (List.mem_cons_of_mem _ (List.mem_cons_of_mem _ (List.mem_cons_of_mem _ (List.mem_cons_of_mem _ (List.mem_cons_self))))))) Try.underlying33 rfl infoFil (by simp [size_ftab]) ?_) | (with_reducible refine wpList_loadFr (F.box _ _) rfl rfl rfl (by first | exact List.mem_cons_self | exact List.mem_cons_of_mem _ (List.mem_cons_self) | exact List.mem_cons_of_mem _ (List.mem_cons_of_mem _ (List.mem_cons_self)) | exact List.mem_cons_of_mem _ (List.mem_cons_of_mem _ (List.mem_cons_of_mem _ (List.mem_cons_self))) | exact List.mem_cons_of_mem _ (List.mem_cons_of_mem _ (List.mem_cons_of_mem _ (List.mem_cons_of_mem _ (List.mem_cons_self)))) | exact List.mem_cons_of_mem _ (List.mem_cons_of_mem _ (List.mem_cons_of_mem _ (List.mem_cons_of_mem _ (List.mem_cons_of_mem _ (List.mem_cons_self))))) | exact List.mem_cons_of_mem _ (List.mem_cons_of_mem _ (List.mem_cons_of_mem _ (List.mem_cons_of_mem _ (List.mem_cons_of_mem _ (List.mem_cons_of_mem _ (List.mem_cons_self))))))) Try.underlying33 rfl infoFil (by simp [size_ftab]) ?_)) | (go_at_call 16; ((with_reducible refine (hV.out _).mono ?_); rintro e w1 ⟨rfl, hb1⟩; replace F := F.le hb1)) | (go_at_call 48; ((with_reducible refine (i_newRunner _ _ _ _ _ _ _ HK.out).mono ?_); rintro e w2 ⟨g, rfl, hg, hR, hl⟩; replace F := F.le hl; clear hR hl hg)) | (go_at_call 56; ((with_reducible refine (HL.out _ _).mono ?_); rintro e w3 ⟨rfl, rfl⟩)))
  go_ret2
  exact ⟨rfl, F.below⟩
set_option maxHeartbeats 1000000 in
theorem s_Steps_no (k : Int) (a b c x y : Nat) (m : Int) (w : World) (hv : okF k a b c x y = false) :
    Calls Try.prog 26 #[(.agg #[.int .i64 k, .float .f32 a, .float .f32 b, .float .f32 c, .float .f32 x, .float .f32 y]), .int .i64 m] w fun e w' => e = .returned (.tuple #[.int .i64 0, .int .i64 1]) ∧ le w w' := by
  have hV := hid (fun g w (R : Row w g 33 (#[.int .i64 k, .float .f32 a, .float .f32 b, .float .f32 c, .float .f32 x, .float .f32 y] : Array Value)) => s_Ok k a b c x y g w R)
  rw [hv] at hV
  clear hv
  have F := (Frm.nil w).box 33 (#[.int .i64 k, .float .f32 a, .float .f32 b, .float .f32 c, .float .f32 x, .float .f32 y] : Array Value)
  go_enter Try.func26, Try.ntmps26
  go_wp2_with (first | (go_at_call 41; ((with_reducible refine (hV.out _ _ (F.row List.mem_cons_self)).mono ?_); rintro e w1 ⟨rfl, n1, rfl⟩; replace F := F.drewN n1)))
  go_ret2
  exact ⟨rfl, F.below⟩
set_option maxHeartbeats 1000000 in
theorem s_Steps_out (k : Int) (a b c x y : Nat) (m : Int) (w : World) (hv : okF k a b c x y = true) (hm : m < 0 ∨ 100000 < m) :
    Calls Try.prog 26 #[(.agg #[.int .i64 k, .float .f32 a, .float .f32 b, .float .f32 c, .float .f32 x, .float .f32 y]), .int .i64 m] w fun e w' => e = .returned (.tuple #[.int .i64 0, .int .i64 2]) ∧ le w w' := by
  have hV := hid (fun g w (R : Row w g 33 (#[.int .i64 k, .float .f32 a, .float .f32 b, .float .f32 c, .float .f32 x, .float .f32 y] : Array Value)) => s_Ok k a b c x y g w R)
  rw [hv] at hV
  clear hv
  have hIn : Hid (∀ w, Calls Try.prog 55 #[.int .i64 m, .int .i64 0, .int .i64 100000] w fun e w' => e = .returned (.bool false) ∧ w = w') := fun w => by
    have h := s_In m 0 100000 w
    rwa [show (decide ((0 : Int) ≤ m) && decide (m ≤ 100000)) = false by simp only [Bool.and_eq_false_iff, decide_eq_false_iff_not]; omega] at h
  have F := (Frm.nil w).box 33 (#[.int .i64 k, .float .f32 a, .float .f32 b, .float .f32 c, .float .f32 x, .float .f32 y] : Array Value)
  clear hm
  go_enter Try.func26, Try.ntmps26
  go_wp2_with (first | (go_at_call 41; ((with_reducible refine (hV.out _ _ (F.row List.mem_cons_self)).mono ?_); rintro e w1 ⟨rfl, n1, rfl⟩; replace F := F.drewN n1)) | (go_at_call 55; ((with_reducible refine (hIn.out _).mono ?_); rintro e w1 ⟨rfl, rfl⟩)))
  go_ret2
  exact ⟨rfl, F.below⟩
end Go.Proofs.Ytaenbpkcehenkab
