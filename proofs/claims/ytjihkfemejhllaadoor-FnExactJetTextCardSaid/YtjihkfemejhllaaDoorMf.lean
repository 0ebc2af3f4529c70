/- Texts of the walk, laid in one file. -/
import Derived.Test.YtjihkfemejhllaaDoorMe
set_option linter.unusedVariables false
set_option linter.unusedSimpArgs false
/- Texts put together piece by piece. -/
namespace Go.Fk
open Go Go.RowKit Go.Proofs.YtjihkfemejhllaaDoor
/-- The first n pieces. -/
def accs (l : List ByteArray) (n : Nat) : ByteArray := (l.take n).foldl (· ++ ·) ⟨#[]⟩
theorem accs_succ {l : List ByteArray} {n : Nat} {c : ByteArray} (h : l[n]? = some c) : accs l (n + 1) = accs l n ++ c := by
  unfold accs
  rw [List.take_add_one, h]
  simp [List.foldl_append]
theorem accs_size {l : List ByteArray} {m : Nat} (h : ∀ c ∈ l, c.size ≤ m) : ∀ n, (accs l n).size ≤ n * m := by
  intro n
  induction n with
  | zero => exact Nat.zero_le _
  | succ n ih =>
    cases e : l[n]? with
    | none =>
      have : accs l (n + 1) = accs l n := by unfold accs; rw [List.take_add_one, e]; simp
      rw [this, Nat.succ_mul]; omega
    | some c =>
      rw [accs_succ e, ByteArray.size_append, Nat.succ_mul]
      have := h c (List.mem_of_getElem? e)
      omega
theorem filT_sz (k : Int) (a b c x y : Nat) : (filT k a b c x y).size ≤ 4100 := by
  unfold filT
  split
  · rename_i h
    obtain ⟨n, rfl, hn⟩ := okF_k h
    have h1 := txtS_size (tri a b c) 3; have h2 := txtS_size (duo x y) 2; have h3 := decT_sz100 hn
    have := jnB_size spB 1024 [filW, decT n, txtS (tri a b c) 3, txtS (duo x y) 2] (fun z hz => by
      simp only [List.mem_cons, List.not_mem_nil, or_false] at hz
      rcases hz with rfl | rfl | rfl | rfl
      · decide
      · omega
      · omega
      · omega)
    simp only [List.length_cons, List.length_nil] at this
    rw [show spB.size = 1 from rfl] at this
    exact Nat.le_trans this (by decide)
  · exact Nat.zero_le _
def filB (args : Array Value) : ByteArray := match args.toList with | [.agg l] => (match l.toList with | [.int _ k, .float _ a, .float _ b, .float _ c, .float _ x, .float _ y] => filT k a b c x y | _ => ⟨#[]⟩) | _ => ⟨#[]⟩
def offA (args : Array Value) : Nat := match args.toList with | [.pointer (some p)] => p.off | _ => 0
end Go.Fk

/- The laws' helpers for Bow, over trees of data. -/
namespace Go.Proofs.YtjihkfemejhllaaDoor
open Go.RowKit Go.Fk
set_option maxRecDepth 100000 in
set_option maxHeartbeats 4000000 in
theorem szU_Bow (B : Nat) (cs : List CD) (vs : List Value) (m r : Int) (w : World) (h : RdL w B cs vs) (hsh : ShOkL shBow cs) (h0 : 0 ≤ m) (h1 : m ≤ 1048576) (hr : lessBy m (szL cs) = r) :
    Calls Tryd.prog 6 #[.agg vs.toArray, .int .i64 m] w (OutI r w) := by
  obtain ⟨c0, cs, rfl, q0, hsh⟩ := hsh.inv
  obtain ⟨c1, cs, rfl, q1, hsh⟩ := hsh.inv
  obtain ⟨c2, cs, rfl, q2, hsh⟩ := hsh.inv
  obtain ⟨c3, cs, rfl, q3, hsh⟩ := hsh.inv
  obtain ⟨c4, cs, rfl, q4, hsh⟩ := hsh.inv
  obtain ⟨c5, cs, rfl, q5, hsh⟩ := hsh.inv
  obtain ⟨c6, cs, rfl, q6, hsh⟩ := hsh.inv
  obtain ⟨c7, cs, rfl, q7, hsh⟩ := hsh.inv
  obtain ⟨c8, cs, rfl, q8, hsh⟩ := hsh.inv
  obtain ⟨c9, cs, rfl, q9, hsh⟩ := hsh.inv
  obtain ⟨c10, cs, rfl, q10, hsh⟩ := hsh.inv
  obtain ⟨c11, cs, rfl, q11, hsh⟩ := hsh.inv
  obtain rfl := hsh.inv0
  obtain ⟨v0, vs, rfl, r0, h⟩ := h.inv
  obtain ⟨v1, vs, rfl, r1, h⟩ := h.inv
  obtain ⟨v2, vs, rfl, r2, h⟩ := h.inv
  obtain ⟨v3, vs, rfl, r3, h⟩ := h.inv
  obtain ⟨v4, vs, rfl, r4, h⟩ := h.inv
  obtain ⟨v5, vs, rfl, r5, h⟩ := h.inv
  obtain ⟨v6, vs, rfl, r6, h⟩ := h.inv
  obtain ⟨v7, vs, rfl, r7, h⟩ := h.inv
  obtain ⟨v8, vs, rfl, r8, h⟩ := h.inv
  obtain ⟨v9, vs, rfl, r9, h⟩ := h.inv
  obtain ⟨v10, vs, rfl, r10, h⟩ := h.inv
  obtain ⟨v11, vs, rfl, r11, h⟩ := h.inv
  obtain rfl := h.inv0
  obtain ⟨z1, rfl⟩ := q1
  obtain ⟨rfl, wf1⟩ := r1
  obtain ⟨z3, rfl⟩ := q3
  obtain ⟨rfl, wf3⟩ := r3
  obtain ⟨z4, rfl⟩ := q4
  obtain ⟨rfl, wf4⟩ := r4
  have q5 : c5.flk = some .f32 := q5
  obtain ⟨y5, rfl, f5, e5⟩ := r5.fl q5
  have q6 : c6.flk = some .f32 := q6
  obtain ⟨y6, rfl, f6, e6⟩ := r6.fl q6
  have q7 : c7.flk = some .f32 := q7
  obtain ⟨y7, rfl, f7, e7⟩ := r7.fl q7
  have q8 : c8.flk = some .f32 := q8
  obtain ⟨y8, rfl, f8, e8⟩ := r8.fl q8
  have q9 : c9.flk = some .f32 := q9
  obtain ⟨y9, rfl, f9, e9⟩ := r9.fl q9
  have q10 : c10.flk = some .f32 := q10
  obtain ⟨y10, rfl, f10, e10⟩ := r10.fl q10
  have q11 : c11.flk = some .f32 := q11
  obtain ⟨y11, rfl, f11, e11⟩ := r11.fl q11
  obtain ⟨a0, ha0⟩ : ∃ a : Nat, a = szL [c0, .int .i64 z1] := ⟨_, rfl⟩
  have H0 := hid (fun (m r : Int) (w' : World) (hl : le w w') (h0 : 0 ≤ m) (h1 : m ≤ 1048576) (hr : lessBy m a0 = r) => szU_Ring B _ [v0, .int .i64 z1] m r w' (RdL.cons (c := c0) (r0.le hl) (RdL.cons (c := .int .i64 z1) ⟨rfl, wf1⟩ (RdL.nil _ _))) (ShOkL.cons q0 (ShOkL.cons ⟨_, rfl⟩ (ShOkL.nil))) h0 h1 (ha0 ▸ hr))
  obtain ⟨a1, ha1⟩ : ∃ a : Nat, a = szL [c2, .int .i64 z3] := ⟨_, rfl⟩
  have H1 := hid (fun (m r : Int) (w' : World) (hl : le w w') (h0 : 0 ≤ m) (h1 : m ≤ 1048576) (hr : lessBy m a1 = r) => szU_Ring B _ [v2, .int .i64 z3] m r w' (RdL.cons (c := c2) (r2.le hl) (RdL.cons (c := .int .i64 z3) ⟨rfl, wf3⟩ (RdL.nil _ _))) (ShOkL.cons q2 (ShOkL.cons ⟨_, rfl⟩ (ShOkL.nil))) h0 h1 (ha1 ▸ hr))
  replace hr : Hid (lessBy m (a0 + a1) = r) := by rw [← hr]; congr 1; try (first | (simp only [szL, List.map_cons, List.map_nil, List.sum_cons, List.sum_nil, CD.sz, ha0, ha1, CD.sz_fl q5, CD.sz_fl q6, CD.sz_fl q7, CD.sz_fl q8, CD.sz_fl q9, CD.sz_fl q10, CD.sz_fl q11]; done) | (simp only [szL, List.map_cons, List.map_nil, List.sum_cons, List.sum_nil, CD.sz, ha0, ha1, CD.sz_fl q5, CD.sz_fl q6, CD.sz_fl q7, CD.sz_fl q8, CD.sz_fl q9, CD.sz_fl q10, CD.sz_fl q11]; omega))
  clear ha0 ha1
  have F := (Frg.nil w).box 31 #[v0, .int .i64 z1, v2, .int .i64 z3, .int .i64 z4, .float .f32 y5, .float .f32 y6, .float .f32 y7, .float .f32 y8, .float .f32 y9, .float .f32 y10, .float .f32 y11]
  by_cases g0 : m - (a0 : Int) < 0
  · have er : r = -1 := by have := hr.out; rw [lessBy_neg (by omega)] at this; omega
    subst er
    clear hr
    go_enter Tryd.func6, Tryd.ntmps6
    go_wp2_with (first | ((with_reducible refine at_load rfl ?_); first | (with_reducible refine wpList_loadGP F rfl rfl rfl (by first | exact m0) Tryd.underlying24 rfl [v0, .int .i64 z1] (partBow_Neck (v0) (.int .i64 z1) (v2) (.int .i64 z3) (.int .i64 z4) (.float .f32 y5) (.float .f32 y6) (.float .f32 y7) (.float .f32 y8) (.float .f32 y9) (.float .f32 y10) (.float .f32 y11)) uinfoRingL rfl ?_) | (with_reducible refine wpList_loadGP F rfl rfl rfl (by first | exact m0) Tryd.underlying24 rfl [v2, .int .i64 z3] (partBow_Bridge (v0) (.int .i64 z1) (v2) (.int .i64 z3) (.int .i64 z4) (.float .f32 y5) (.float .f32 y6) (.float .f32 y7) (.float .f32 y8) (.float .f32 y9) (.float .f32 y10) (.float .f32 y11)) uinfoRingL rfl ?_) | (with_reducible refine wpList_loadGP F rfl rfl rfl (by first | exact m0) Tryd.underlying29 rfl [.int .i64 z4, .float .f32 y5, .float .f32 y6, .float .f32 y7, .float .f32 y8, .float .f32 y9] (partBow_Damp (v0) (.int .i64 z1) (v2) (.int .i64 z3) (.int .i64 z4) (.float .f32 y5) (.float .f32 y6) (.float .f32 y7) (.float .f32 y8) (.float .f32 y9) (.float .f32 y10) (.float .f32 y11)) uinfoFilterL rfl ?_) | (with_reducible refine wpList_load1 F rfl rfl rfl (by first | exact m0) (f := 10) (v := .float .f32 y10) rfl ukindFloat32 ?_) | (with_reducible refine wpList_load1 F rfl rfl rfl (by first | exact m0) (f := 11) (v := .float .f32 y11) rfl ukindFloat32 ?_)) | (go_at_call 21; ((with_reducible refine (H0.out m (-1 : Int) _ F.below (by omega) (by omega) (by exact lessBy_neg (by omega))).mono ?_); rintro e w1 ⟨rfl, hl⟩; replace F := F.le hl; clear hl)))
    go_ret
    exact ⟨rfl, F.below⟩
  · skip
    by_cases g1 : (m - (a0 : Int)) - (a1 : Int) < 0
    · have er : r = -1 := by have := hr.out; rw [lessBy_neg (by omega)] at this; omega
      subst er
      clear hr
      go_enter Tryd.func6, Tryd.ntmps6
      go_wp2_with (first | ((with_reducible refine at_load rfl ?_); first | (with_reducible refine wpList_loadGP F rfl rfl rfl (by first | exact m0) Tryd.underlying24 rfl [v0, .int .i64 z1] (partBow_Neck (v0) (.int .i64 z1) (v2) (.int .i64 z3) (.int .i64 z4) (.float .f32 y5) (.float .f32 y6) (.float .f32 y7) (.float .f32 y8) (.float .f32 y9) (.float .f32 y10) (.float .f32 y11)) uinfoRingL rfl ?_) | (with_reducible refine wpList_loadGP F rfl rfl rfl (by first | exact m0) Tryd.underlying24 rfl [v2, .int .i64 z3] (partBow_Bridge (v0) (.int .i64 z1) (v2) (.int .i64 z3) (.int .i64 z4) (.float .f32 y5) (.float .f32 y6) (.float .f32 y7) (.float .f32 y8) (.float .f32 y9) (.float .f32 y10) (.float .f32 y11)) uinfoRingL rfl ?_) | (with_reducible refine wpList_loadGP F rfl rfl rfl (by first | exact m0) Tryd.underlying29 rfl [.int .i64 z4, .float .f32 y5, .float .f32 y6, .float .f32 y7, .float .f32 y8, .float .f32 y9] (partBow_Damp (v0) (.int .i64 z1) (v2) (.int .i64 z3) (.int .i64 z4) (.float .f32 y5) (.float .f32 y6) (.float .f32 y7) (.float .f32 y8) (.float .f32 y9) (.float .f32 y10) (.float .f32 y11)) uinfoFilterL rfl ?_) | (with_reducible refine wpList_load1 F rfl rfl rfl (by first | exact m0) (f := 10) (v := .float .f32 y10) rfl ukindFloat32 ?_) | (with_reducible refine wpList_load1 F rfl rfl rfl (by first | exact m0) (f := 11) (v := .float .f32 y11) rfl ukindFloat32 ?_)) | (go_at_call 21; ((with_reducible refine (H0.out m (m - (a0 : Int)) _ F.below (by omega) (by omega) (by exact lessBy_pos (by omega))).mono ?_); rintro e w1 ⟨rfl, hl⟩; replace F := F.le hl; clear hl)) | (go_at_call 21; ((with_reducible refine (H1.out (m - (a0 : Int)) (-1 : Int) _ F.below (by omega) (by omega) (by exact lessBy_neg (by omega))).mono ?_); rintro e w1 ⟨rfl, hl⟩; replace F := F.le hl; clear hl)))
      go_ret
      exact ⟨rfl, F.below⟩
    · skip
      have er : r = ((m - (a0 : Int)) - (a1 : Int)) := by have := hr.out; rw [lessBy_pos (by omega)] at this; omega
      subst er
      clear hr
      go_enter Tryd.func6, Tryd.ntmps6
      go_wp2_with (first | ((with_reducible refine at_load rfl ?_); first | (with_reducible refine wpList_loadGP F rfl rfl rfl (by first | exact m0) Tryd.underlying24 rfl [v0, .int .i64 z1] (partBow_Neck (v0) (.int .i64 z1) (v2) (.int .i64 z3) (.int .i64 z4) (.float .f32 y5) (.float .f32 y6) (.float .f32 y7) (.float .f32 y8) (.float .f32 y9) (.float .f32 y10) (.float .f32 y11)) uinfoRingL rfl ?_) | (with_reducible refine wpList_loadGP F rfl rfl rfl (by first | exact m0) Tryd.underlying24 rfl [v2, .int .i64 z3] (partBow_Bridge (v0) (.int .i64 z1) (v2) (.int .i64 z3) (.int .i64 z4) (.float .f32 y5) (.float .f32 y6) (.float .f32 y7) (.float .f32 y8) (.float .f32 y9) (.float .f32 y10) (.float .f32 y11)) uinfoRingL rfl ?_) | (with_reducible refine wpList_loadGP F rfl rfl rfl (by first | exact m0) Tryd.underlying29 rfl [.int .i64 z4, .float .f32 y5, .float .f32 y6, .float .f32 y7, .float .f32 y8, .float .f32 y9] (partBow_Damp (v0) (.int .i64 z1) (v2) (.int .i64 z3) (.int .i64 z4) (.float .f32 y5) (.float .f32 y6) (.float .f32 y7) (.float .f32 y8) (.float .f32 y9) (.float .f32 y10) (.float .f32 y11)) uinfoFilterL rfl ?_) | (with_reducible refine wpList_load1 F rfl rfl rfl (by first | exact m0) (f := 10) (v := .float .f32 y10) rfl ukindFloat32 ?_) | (with_reducible refine wpList_load1 F rfl rfl rfl (by first | exact m0) (f := 11) (v := .float .f32 y11) rfl ukindFloat32 ?_)) | (go_at_call 21; ((with_reducible refine (H0.out m (m - (a0 : Int)) _ F.below (by omega) (by omega) (by exact lessBy_pos (by omega))).mono ?_); rintro e w1 ⟨rfl, hl⟩; replace F := F.le hl; clear hl)) | (go_at_call 21; ((with_reducible refine (H1.out (m - (a0 : Int)) ((m - (a0 : Int)) - (a1 : Int)) _ F.below (by omega) (by omega) (by exact lessBy_pos (by omega))).mono ?_); rintro e w1 ⟨rfl, hl⟩; replace F := F.le hl; clear hl)))
      go_ret
      exact ⟨rfl, F.below⟩
set_option maxRecDepth 100000 in
set_option maxHeartbeats 4000000 in
theorem eqU_Bow (B B' : Nat) (cs : List CD) (vs vs' : List Value) (w : World) (h : RdL w B cs vs) (h' : RdL w B' cs vs') (hsh : ShOkL shBow cs) (hz : szL cs ≤ 1048576) :
    Calls Tryd.prog 10 #[.agg vs.toArray, .agg vs'.toArray] w (OutT w) := by
  obtain ⟨c0, cs, rfl, q0, hsh⟩ := hsh.inv
  obtain ⟨c1, cs, rfl, q1, hsh⟩ := hsh.inv
  obtain ⟨c2, cs, rfl, q2, hsh⟩ := hsh.inv
  obtain ⟨c3, cs, rfl, q3, hsh⟩ := hsh.inv
  obtain ⟨c4, cs, rfl, q4, hsh⟩ := hsh.inv
  obtain ⟨c5, cs, rfl, q5, hsh⟩ := hsh.inv
  obtain ⟨c6, cs, rfl, q6, hsh⟩ := hsh.inv
  obtain ⟨c7, cs, rfl, q7, hsh⟩ := hsh.inv
  obtain ⟨c8, cs, rfl, q8, hsh⟩ := hsh.inv
  obtain ⟨c9, cs, rfl, q9, hsh⟩ := hsh.inv
  obtain ⟨c10, cs, rfl, q10, hsh⟩ := hsh.inv
  obtain ⟨c11, cs, rfl, q11, hsh⟩ := hsh.inv
  obtain rfl := hsh.inv0
  obtain ⟨v0, vs, rfl, r0, h⟩ := h.inv
  obtain ⟨v1, vs, rfl, r1, h⟩ := h.inv
  obtain ⟨v2, vs, rfl, r2, h⟩ := h.inv
  obtain ⟨v3, vs, rfl, r3, h⟩ := h.inv
  obtain ⟨v4, vs, rfl, r4, h⟩ := h.inv
  obtain ⟨v5, vs, rfl, r5, h⟩ := h.inv
  obtain ⟨v6, vs, rfl, r6, h⟩ := h.inv
  obtain ⟨v7, vs, rfl, r7, h⟩ := h.inv
  obtain ⟨v8, vs, rfl, r8, h⟩ := h.inv
  obtain ⟨v9, vs, rfl, r9, h⟩ := h.inv
  obtain ⟨v10, vs, rfl, r10, h⟩ := h.inv
  obtain ⟨v11, vs, rfl, r11, h⟩ := h.inv
  obtain rfl := h.inv0
  obtain ⟨v0', vs', rfl, r0', h'⟩ := h'.inv
  obtain ⟨v1', vs', rfl, r1', h'⟩ := h'.inv
  obtain ⟨v2', vs', rfl, r2', h'⟩ := h'.inv
  obtain ⟨v3', vs', rfl, r3', h'⟩ := h'.inv
  obtain ⟨v4', vs', rfl, r4', h'⟩ := h'.inv
  obtain ⟨v5', vs', rfl, r5', h'⟩ := h'.inv
  obtain ⟨v6', vs', rfl, r6', h'⟩ := h'.inv
  obtain ⟨v7', vs', rfl, r7', h'⟩ := h'.inv
  obtain ⟨v8', vs', rfl, r8', h'⟩ := h'.inv
  obtain ⟨v9', vs', rfl, r9', h'⟩ := h'.inv
  obtain ⟨v10', vs', rfl, r10', h'⟩ := h'.inv
  obtain ⟨v11', vs', rfl, r11', h'⟩ := h'.inv
  obtain rfl := h'.inv0
  obtain ⟨z1, rfl⟩ := q1
  obtain ⟨rfl, wf1⟩ := r1
  obtain ⟨rfl, wf1'⟩ := r1'
  obtain ⟨z3, rfl⟩ := q3
  obtain ⟨rfl, wf3⟩ := r3
  obtain ⟨rfl, wf3'⟩ := r3'
  obtain ⟨z4, rfl⟩ := q4
  obtain ⟨rfl, wf4⟩ := r4
  obtain ⟨rfl, wf4'⟩ := r4'
  have q5 : c5.flk = some .f32 := q5
  obtain ⟨y5, rfl, f5, e5⟩ := r5.fl q5
  obtain ⟨y5', rfl, f5', e5'⟩ := r5'.fl q5
  have q6 : c6.flk = some .f32 := q6
  obtain ⟨y6, rfl, f6, e6⟩ := r6.fl q6
  obtain ⟨y6', rfl, f6', e6'⟩ := r6'.fl q6
  have q7 : c7.flk = some .f32 := q7
  obtain ⟨y7, rfl, f7, e7⟩ := r7.fl q7
  obtain ⟨y7', rfl, f7', e7'⟩ := r7'.fl q7
  have q8 : c8.flk = some .f32 := q8
  obtain ⟨y8, rfl, f8, e8⟩ := r8.fl q8
  obtain ⟨y8', rfl, f8', e8'⟩ := r8'.fl q8
  have q9 : c9.flk = some .f32 := q9
  obtain ⟨y9, rfl, f9, e9⟩ := r9.fl q9
  obtain ⟨y9', rfl, f9', e9'⟩ := r9'.fl q9
  have q10 : c10.flk = some .f32 := q10
  obtain ⟨y10, rfl, f10, e10⟩ := r10.fl q10
  obtain ⟨y10', rfl, f10', e10'⟩ := r10'.fl q10
  have q11 : c11.flk = some .f32 := q11
  obtain ⟨y11, rfl, f11, e11⟩ := r11.fl q11
  obtain ⟨y11', rfl, f11', e11'⟩ := r11'.fl q11
  have HZ := hid hz
  have H0 := hid (fun (w' : World) (hl : le w w') => eqU_Ring B B' [c0, .int .i64 z1] [v0, .int .i64 z1] [v0', .int .i64 z1] w' (RdL.cons (c := c0) (r0.le hl) (RdL.cons (c := .int .i64 z1) ⟨rfl, wf1⟩ (RdL.nil _ _))) (RdL.cons (c := c0) (r0'.le hl) (RdL.cons (c := .int .i64 z1) ⟨rfl, wf1'⟩ (RdL.nil _ _))) (ShOkL.cons q0 (ShOkL.cons ⟨_, rfl⟩ (ShOkL.nil))) (szL_le HZ.out 0 2 rfl))
  have H1 := hid (fun (w' : World) (hl : le w w') => eqU_Ring B B' [c2, .int .i64 z3] [v2, .int .i64 z3] [v2', .int .i64 z3] w' (RdL.cons (c := c2) (r2.le hl) (RdL.cons (c := .int .i64 z3) ⟨rfl, wf3⟩ (RdL.nil _ _))) (RdL.cons (c := c2) (r2'.le hl) (RdL.cons (c := .int .i64 z3) ⟨rfl, wf3'⟩ (RdL.nil _ _))) (ShOkL.cons q2 (ShOkL.cons ⟨_, rfl⟩ (ShOkL.nil))) (szL_le HZ.out 2 2 rfl))
  have H2 := hid (fun (w' : World) => eqFil_yes z4 y5 y6 y7 y8 y9 y5' y6' y7' y8' y9' w' (e5.trans e5'.symm) (e6.trans e6'.symm) (e7.trans e7'.symm) (e8.trans e8'.symm) (e9.trans e9'.symm))
  have E10 := hid (e10.trans e10'.symm)
  have E11 := hid (e11.trans e11'.symm)
  have F := ((Frg.nil w).box 37 #[v0, .int .i64 z1, v2, .int .i64 z3, .int .i64 z4, .float .f32 y5, .float .f32 y6, .float .f32 y7, .float .f32 y8, .float .f32 y9, .float .f32 y10, .float .f32 y11]).box 37 #[v0', .int .i64 z1, v2', .int .i64 z3, .int .i64 z4, .float .f32 y5', .float .f32 y6', .float .f32 y7', .float .f32 y8', .float .f32 y9', .float .f32 y10', .float .f32 y11']
  simp only [World.size_alloc] at F
  clear hz HZ
  go_enter Tryd.func10, Tryd.ntmps10
  go_wp2_with (first | ((with_reducible refine listN F ?_); clear F; intro wN F) | ((with_reducible refine at_load rfl ?_); first | (with_reducible refine wpList_loadGP F rfl rfl rfl (by first | exact m0 | exact m1) Tryd.underlying34 rfl [v0, .int .i64 z1] (partBow_Neck (v0) (.int .i64 z1) (v2) (.int .i64 z3) (.int .i64 z4) (.float .f32 y5) (.float .f32 y6) (.float .f32 y7) (.float .f32 y8) (.float .f32 y9) (.float .f32 y10) (.float .f32 y11)) uinfoRingI rfl ?_) | (with_reducible refine wpList_loadGP F rfl rfl rfl (by first | exact m0 | exact m1) Tryd.underlying34 rfl [v2, .int .i64 z3] (partBow_Bridge (v0) (.int .i64 z1) (v2) (.int .i64 z3) (.int .i64 z4) (.float .f32 y5) (.float .f32 y6) (.float .f32 y7) (.float .f32 y8) (.float .f32 y9) (.float .f32 y10) (.float .f32 y11)) uinfoRingI rfl ?_) | (with_reducible refine wpList_loadGP F rfl rfl rfl (by first | exact m0 | exact m1) Tryd.underlying35 rfl [.int .i64 z4, .float .f32 y5, .float .f32 y6, .float .f32 y7, .float .f32 y8, .float .f32 y9] (partBow_Damp (v0) (.int .i64 z1) (v2) (.int .i64 z3) (.int .i64 z4) (.float .f32 y5) (.float .f32 y6) (.float .f32 y7) (.float .f32 y8) (.float .f32 y9) (.float .f32 y10) (.float .f32 y11)) uinfoFilterI rfl ?_) | (with_reducible refine wpList_load1 F rfl rfl rfl (by first | exact m0 | exact m1) (f := 10) (v := .float .f32 y10) rfl ukindFloat32 ?_) | (with_reducible refine wpList_load1 F rfl rfl rfl (by first | exact m0 | exact m1) (f := 11) (v := .float .f32 y11) rfl ukindFloat32 ?_) | (with_reducible refine wpList_loadGP F rfl rfl rfl (by first | exact m0 | exact m1) Tryd.underlying34 rfl [v0', .int .i64 z1] (partBow_Neck (v0') (.int .i64 z1) (v2') (.int .i64 z3) (.int .i64 z4) (.float .f32 y5') (.float .f32 y6') (.float .f32 y7') (.float .f32 y8') (.float .f32 y9') (.float .f32 y10') (.float .f32 y11')) uinfoRingI rfl ?_) | (with_reducible refine wpList_loadGP F rfl rfl rfl (by first | exact m0 | exact m1) Tryd.underlying34 rfl [v2', .int .i64 z3] (partBow_Bridge (v0') (.int .i64 z1) (v2') (.int .i64 z3) (.int .i64 z4) (.float .f32 y5') (.float .f32 y6') (.float .f32 y7') (.float .f32 y8') (.float .f32 y9') (.float .f32 y10') (.float .f32 y11')) uinfoRingI rfl ?_) | (with_reducible refine wpList_loadGP F rfl rfl rfl (by first | exact m0 | exact m1) Tryd.underlying35 rfl [.int .i64 z4, .float .f32 y5', .float .f32 y6', .float .f32 y7', .float .f32 y8', .float .f32 y9'] (partBow_Damp (v0') (.int .i64 z1) (v2') (.int .i64 z3) (.int .i64 z4) (.float .f32 y5') (.float .f32 y6') (.float .f32 y7') (.float .f32 y8') (.float .f32 y9') (.float .f32 y10') (.float .f32 y11')) uinfoFilterI rfl ?_) | (with_reducible refine wpList_load1 F rfl rfl rfl (by first | exact m0 | exact m1) (f := 10) (v := .float .f32 y10') rfl ukindFloat32 ?_) | (with_reducible refine wpList_load1 F rfl rfl rfl (by first | exact m0 | exact m1) (f := 11) (v := .float .f32 y11') rfl ukindFloat32 ?_)) | (go_at_call 28; ((with_reducible refine (H0.out _ F.below).mono ?_); rintro e w1 ⟨rfl, hl⟩; replace F := F.le hl; clear hl)) | (go_at_call 28; ((with_reducible refine (H1.out _ F.below).mono ?_); rintro e w1 ⟨rfl, hl⟩; replace F := F.le hl; clear hl)) | (go_at_call 29; ((with_reducible refine (H2.out _).mono ?_); rintro e w1 ⟨rfl, hl⟩; replace F := F.le hl; clear hl)) | ((with_reducible refine at_convert rfl ?_); (with_reducible refine wpList_widen rfl rfl rfl Tryd.underlying25 Tryd.underlying72 ?_; intro s1 n1 h1 f1)) | (go_at_call 30; ((with_reducible refine (sameFloat_yes _ _ _ (by first | exact (Hid.out ‹Hid (can .f64 _ = can .f64 (widen y10))›).trans ((congrArg (can .f64) (widen_congr E10.out)).trans (Hid.out ‹Hid (can .f64 _ = can .f64 (widen y10'))›).symm) | exact (Hid.out ‹Hid (can .f64 _ = can .f64 (widen y11))›).trans ((congrArg (can .f64) (widen_congr E11.out)).trans (Hid.out ‹Hid (can .f64 _ = can .f64 (widen y11'))›).symm))).mono ?_); rintro e w7 ⟨rfl, dq7, rfl⟩; skip)))
  go_ret
  first | exact ⟨rfl, F.below⟩ | exact ⟨rfl, below_drewN F.below _⟩
theorem invf_Bow {w : World} {S : Nat → Prop} {us : List Value} (n0 : Nat) (x0 : Nat → CD) (z1 : Int) (n2 : Nat) (x2 : Nat → CD) (z3 : Int) (z4 : Int) (c5 : CD) (c6 : CD) (c7 : CD) (c8 : CD) (c9 : CD) (c10 : CD) (c11 : CD) (q5 : c5.flk = some .f32) (q6 : c6.flk = some .f32) (q7 : c7.flk = some .f32) (q8 : c8.flk = some .f32) (q9 : c9.flk = some .f32) (q10 : c10.flk = some .f32) (q11 : c11.flk = some .f32) (h : LayL w S (([(.sl 1 n0 x0), (.int .i64 z1), (.sl 1 n2 x2), (.int .i64 z3), (.int .i64 z4), (c5), (c6), (c7), (c8), (c9), (c10), (c11)] : List CD).map CD.cp) us) : ∃ (u0 : Value) (u2 : Value) (g5 : Nat) (g6 : Nat) (g7 : Nat) (g8 : Nat) (g9 : Nat) (g10 : Nat) (g11 : Nat), u0.oneCell' = true ∧ u2.oneCell' = true ∧ us = [u0, .int .i64 z1, u2, .int .i64 z3, .int .i64 z4, .float .f32 g5, .float .f32 g6, .float .f32 g7, .float .f32 g8, .float .f32 g9, .float .f32 g10, .float .f32 g11] ∧ LayL w S (([(.sl 1 n0 x0), (.int .i64 z1), (.sl 1 n2 x2), (.int .i64 z3), (.int .i64 z4), (c5), (c6), (c7), (c8), (c9), (c10), (c11)] : List CD).map CD.cp) [u0, .int .i64 z1, u2, .int .i64 z3, .int .i64 z4, .float .f32 g5, .float .f32 g6, .float .f32 g7, .float .f32 g8, .float .f32 g9, .float .f32 g10, .float .f32 g11] := by
  have h0 := h
  simp only [List.map_cons, List.map_nil] at h
  obtain ⟨u0, us0, _, _, rfl, l0, hh0, _, _, _⟩ := h.inv
  obtain ⟨u1, us1, _, _, rfl, l1, hh1, _, _, _⟩ := hh0.inv
  obtain ⟨rfl, _⟩ := l1
  obtain ⟨u2, us2, _, _, rfl, l2, hh2, _, _, _⟩ := hh1.inv
  obtain ⟨u3, us3, _, _, rfl, l3, hh3, _, _, _⟩ := hh2.inv
  obtain ⟨rfl, _⟩ := l3
  obtain ⟨u4, us4, _, _, rfl, l4, hh4, _, _, _⟩ := hh3.inv
  obtain ⟨rfl, _⟩ := l4
  obtain ⟨u5, us5, _, _, rfl, l5, hh5, _, _, _⟩ := hh4.inv
  obtain ⟨g5, rfl⟩ := lay_fl q5 l5
  obtain ⟨u6, us6, _, _, rfl, l6, hh6, _, _, _⟩ := hh5.inv
  obtain ⟨g6, rfl⟩ := lay_fl q6 l6
  obtain ⟨u7, us7, _, _, rfl, l7, hh7, _, _, _⟩ := hh6.inv
  obtain ⟨g7, rfl⟩ := lay_fl q7 l7
  obtain ⟨u8, us8, _, _, rfl, l8, hh8, _, _, _⟩ := hh7.inv
  obtain ⟨g8, rfl⟩ := lay_fl q8 l8
  obtain ⟨u9, us9, _, _, rfl, l9, hh9, _, _, _⟩ := hh8.inv
  obtain ⟨g9, rfl⟩ := lay_fl q9 l9
  obtain ⟨u10, us10, _, _, rfl, l10, hh10, _, _, _⟩ := hh9.inv
  obtain ⟨g10, rfl⟩ := lay_fl q10 l10
  obtain ⟨u11, us11, _, _, rfl, l11, hh11, _, _, _⟩ := hh10.inv
  obtain ⟨g11, rfl⟩ := lay_fl q11 l11
  obtain rfl := hh11.inv0
  exact ⟨u0, u2, g5, g6, g7, g8, g9, g10, g11, l0.one, l2.one, rfl, h0⟩
set_option maxRecDepth 100000 in
set_option maxHeartbeats 4000000 in
theorem toU_Bow (B : Nat) (cs : List CD) (vs : List Value) (w : World) (h : RdL w B cs vs) (hsh : ShOkL shBow cs) (hz : szL cs ≤ 1048576) :
    Calls Tryd.prog 8 #[.agg vs.toArray] w (OutA' (cs.map CD.cp) w) := by
  obtain ⟨c0, cs, rfl, q0, hsh⟩ := hsh.inv
  obtain ⟨c1, cs, rfl, q1, hsh⟩ := hsh.inv
  obtain ⟨c2, cs, rfl, q2, hsh⟩ := hsh.inv
  obtain ⟨c3, cs, rfl, q3, hsh⟩ := hsh.inv
  obtain ⟨c4, cs, rfl, q4, hsh⟩ := hsh.inv
  obtain ⟨c5, cs, rfl, q5, hsh⟩ := hsh.inv
  obtain ⟨c6, cs, rfl, q6, hsh⟩ := hsh.inv
  obtain ⟨c7, cs, rfl, q7, hsh⟩ := hsh.inv
  obtain ⟨c8, cs, rfl, q8, hsh⟩ := hsh.inv
  obtain ⟨c9, cs, rfl, q9, hsh⟩ := hsh.inv
  obtain ⟨c10, cs, rfl, q10, hsh⟩ := hsh.inv
  obtain ⟨c11, cs, rfl, q11, hsh⟩ := hsh.inv
  obtain rfl := hsh.inv0
  obtain ⟨v0, vs, rfl, r0, h⟩ := h.inv
  obtain ⟨v1, vs, rfl, r1, h⟩ := h.inv
  obtain ⟨v2, vs, rfl, r2, h⟩ := h.inv
  obtain ⟨v3, vs, rfl, r3, h⟩ := h.inv
  obtain ⟨v4, vs, rfl, r4, h⟩ := h.inv
  obtain ⟨v5, vs, rfl, r5, h⟩ := h.inv
  obtain ⟨v6, vs, rfl, r6, h⟩ := h.inv
  obtain ⟨v7, vs, rfl, r7, h⟩ := h.inv
  obtain ⟨v8, vs, rfl, r8, h⟩ := h.inv
  obtain ⟨v9, vs, rfl, r9, h⟩ := h.inv
  obtain ⟨v10, vs, rfl, r10, h⟩ := h.inv
  obtain ⟨v11, vs, rfl, r11, h⟩ := h.inv
  obtain rfl := h.inv0
  obtain ⟨z1, rfl⟩ := q1
  obtain ⟨rfl, wf1⟩ := r1
  obtain ⟨z3, rfl⟩ := q3
  obtain ⟨rfl, wf3⟩ := r3
  obtain ⟨z4, rfl⟩ := q4
  obtain ⟨rfl, wf4⟩ := r4
  have q5 : c5.flk = some .f32 := q5
  obtain ⟨y5, rfl, f5, e5⟩ := r5.fl q5
  have q6 : c6.flk = some .f32 := q6
  obtain ⟨y6, rfl, f6, e6⟩ := r6.fl q6
  have q7 : c7.flk = some .f32 := q7
  obtain ⟨y7, rfl, f7, e7⟩ := r7.fl q7
  have q8 : c8.flk = some .f32 := q8
  obtain ⟨y8, rfl, f8, e8⟩ := r8.fl q8
  have q9 : c9.flk = some .f32 := q9
  obtain ⟨y9, rfl, f9, e9⟩ := r9.fl q9
  have q10 : c10.flk = some .f32 := q10
  obtain ⟨y10, rfl, f10, e10⟩ := r10.fl q10
  have q11 : c11.flk = some .f32 := q11
  obtain ⟨y11, rfl, f11, e11⟩ := r11.fl q11
  have HZ := hid hz
  have H0 := hid (fun (w' : World) (hl : le w w') => toU_Ring B [c0, .int .i64 z1] [v0, .int .i64 z1] w' (RdL.cons (c := c0) (r0.le hl) (RdL.cons (c := .int .i64 z1) ⟨rfl, wf1⟩ (RdL.nil _ _))) (ShOkL.cons q0 (ShOkL.cons ⟨_, rfl⟩ (ShOkL.nil))) (szL_le HZ.out 0 2 rfl))
  have H1 := hid (fun (w' : World) (hl : le w w') => toU_Ring B [c2, .int .i64 z3] [v2, .int .i64 z3] w' (RdL.cons (c := c2) (r2.le hl) (RdL.cons (c := .int .i64 z3) ⟨rfl, wf3⟩ (RdL.nil _ _))) (ShOkL.cons q2 (ShOkL.cons ⟨_, rfl⟩ (ShOkL.nil))) (szL_le HZ.out 2 2 rfl))
  obtain ⟨n0, x0, rfl, -⟩ := q0
  obtain ⟨n2, x2, rfl, -⟩ := q2
  have F := (((Frg.nil w).box 31 #[v0, .int .i64 z1, v2, .int .i64 z3, .int .i64 z4, .float .f32 y5, .float .f32 y6, .float .f32 y7, .float .f32 y8, .float .f32 y9, .float .f32 y10, .float .f32 y11]).box 37 #[.slice none 0 0, .int .i64 0, .slice none 0 0, .int .i64 0, .int .i64 0, .float .f32 0, .float .f32 0, .float .f32 0, .float .f32 0, .float .f32 0, .float .f32 0, .float .f32 0]).box 37 #[.slice none 0 0, .int .i64 0, .slice none 0 0, .int .i64 0, .int .i64 0, .float .f32 0, .float .f32 0, .float .f32 0, .float .f32 0, .float .f32 0, .float .f32 0, .float .f32 0]
  simp only [World.size_alloc] at F
  clear hz HZ
  go_enter Tryd.func8, Tryd.ntmps8
  go_wp2_with (first | ((with_reducible refine listN F ?_); clear F; intro wN F) | ((with_reducible refine at_load rfl ?_); first | (with_reducible refine wpList_loadGP F rfl rfl rfl (by first | exact m0 | exact m1 | exact m2 | exact m3) Tryd.underlying24 rfl [v0, .int .i64 z1] (partBow_Neck (v0) (.int .i64 z1) (v2) (.int .i64 z3) (.int .i64 z4) (.float .f32 y5) (.float .f32 y6) (.float .f32 y7) (.float .f32 y8) (.float .f32 y9) (.float .f32 y10) (.float .f32 y11)) uinfoRingL rfl ?_) | (with_reducible refine wpList_loadGP F rfl rfl rfl (by first | exact m0 | exact m1 | exact m2 | exact m3) Tryd.underlying24 rfl [v2, .int .i64 z3] (partBow_Bridge (v0) (.int .i64 z1) (v2) (.int .i64 z3) (.int .i64 z4) (.float .f32 y5) (.float .f32 y6) (.float .f32 y7) (.float .f32 y8) (.float .f32 y9) (.float .f32 y10) (.float .f32 y11)) uinfoRingL rfl ?_) | (with_reducible refine wpList_loadGP F rfl rfl rfl (by first | exact m0 | exact m1 | exact m2 | exact m3) Tryd.underlying29 rfl [.int .i64 z4, .float .f32 y5, .float .f32 y6, .float .f32 y7, .float .f32 y8, .float .f32 y9] (partBow_Damp (v0) (.int .i64 z1) (v2) (.int .i64 z3) (.int .i64 z4) (.float .f32 y5) (.float .f32 y6) (.float .f32 y7) (.float .f32 y8) (.float .f32 y9) (.float .f32 y10) (.float .f32 y11)) uinfoFilterL rfl ?_) | (with_reducible refine wpList_load1 F rfl rfl rfl (by first | exact m0 | exact m1 | exact m2 | exact m3) (f := 10) (v := .float .f32 y10) rfl ukindFloat32 ?_) | (with_reducible refine wpList_load1 F rfl rfl rfl (by first | exact m0 | exact m1 | exact m2 | exact m3) (f := 11) (v := .float .f32 y11) rfl ukindFloat32 ?_)) | (go_at_call 24; ((with_reducible refine (H0.out _ F.below).mono ?_); rintro e w1 ⟨us, rfl, ho, hl⟩; obtain ⟨u0, O0, rfl, ho⟩ := inv_Ring _ _ _ ho; have O0 := hid O0; replace F := F.lay1 hl ho; clear ho hl)) | (with_reducible refine stop_store rfl ?_))
  show wpList _ _ _ _ _ _
  refine wpList_storeP rfl rfl rfl (f := 0) (cells := [u0, .int .i64 z1]) rfl (F.row m1) uinfoRingI (by simp) (by (simp only [List.all_toArray', List.all_cons, List.all_nil, Bool.and_true, Bool.true_and, O0.out]) <;> rfl) (fun w2 K => ?_)
  replace F := F.wrI1 (cs' := #[u0, .int .i64 z1, .slice none 0 0, .int .i64 0, .int .i64 0, .float .f32 0, .float .f32 0, .float .f32 0, .float .f32 0, .float .f32 0, .float .f32 0, .float .f32 0]) K
  clear K
  go_wp2_with (first | ((with_reducible refine listN F ?_); clear F; intro wN F) | ((with_reducible refine at_load rfl ?_); first | (with_reducible refine wpList_loadGP F rfl rfl rfl (by first | exact m0 | exact m1 | exact m2 | exact m3 | exact m4) Tryd.underlying24 rfl [v0, .int .i64 z1] (partBow_Neck (v0) (.int .i64 z1) (v2) (.int .i64 z3) (.int .i64 z4) (.float .f32 y5) (.float .f32 y6) (.float .f32 y7) (.float .f32 y8) (.float .f32 y9) (.float .f32 y10) (.float .f32 y11)) uinfoRingL rfl ?_) | (with_reducible refine wpList_loadGP F rfl rfl rfl (by first | exact m0 | exact m1 | exact m2 | exact m3 | exact m4) Tryd.underlying24 rfl [v2, .int .i64 z3] (partBow_Bridge (v0) (.int .i64 z1) (v2) (.int .i64 z3) (.int .i64 z4) (.float .f32 y5) (.float .f32 y6) (.float .f32 y7) (.float .f32 y8) (.float .f32 y9) (.float .f32 y10) (.float .f32 y11)) uinfoRingL rfl ?_) | (with_reducible refine wpList_loadGP F rfl rfl rfl (by first | exact m0 | exact m1 | exact m2 | exact m3 | exact m4) Tryd.underlying29 rfl [.int .i64 z4, .float .f32 y5, .float .f32 y6, .float .f32 y7, .float .f32 y8, .float .f32 y9] (partBow_Damp (v0) (.int .i64 z1) (v2) (.int .i64 z3) (.int .i64 z4) (.float .f32 y5) (.float .f32 y6) (.float .f32 y7) (.float .f32 y8) (.float .f32 y9) (.float .f32 y10) (.float .f32 y11)) uinfoFilterL rfl ?_) | (with_reducible refine wpList_load1 F rfl rfl rfl (by first | exact m0 | exact m1 | exact m2 | exact m3 | exact m4) (f := 10) (v := .float .f32 y10) rfl ukindFloat32 ?_) | (with_reducible refine wpList_load1 F rfl rfl rfl (by first | exact m0 | exact m1 | exact m2 | exact m3 | exact m4) (f := 11) (v := .float .f32 y11) rfl ukindFloat32 ?_)) | (go_at_call 24; ((with_reducible refine (H1.out _ F.below).mono ?_); rintro e w1 ⟨us, rfl, ho, hl⟩; obtain ⟨u2, O2, rfl, ho⟩ := inv_Ring _ _ _ ho; have O2 := hid O2; replace F := F.lay1 hl ho; clear ho hl)) | (with_reducible refine stop_store rfl ?_))
  show wpList _ _ _ _ _ _
  refine wpList_storeP rfl rfl rfl (f := 2) (cells := [u2, .int .i64 z3]) rfl (F.row m2) uinfoRingI (by simp) (by (simp only [List.all_toArray', List.all_cons, List.all_nil, Bool.and_true, Bool.true_and, O2.out]) <;> rfl) (fun w2 K => ?_)
  replace F := F.wrI2 (cs' := #[u0, .int .i64 z1, u2, .int .i64 z3, .int .i64 0, .float .f32 0, .float .f32 0, .float .f32 0, .float .f32 0, .float .f32 0, .float .f32 0, .float .f32 0]) K
  clear K
  go_wp2_with (first | ((with_reducible refine listN F ?_); clear F; intro wN F) | ((with_reducible refine at_load rfl ?_); first | (with_reducible refine wpList_loadGP F rfl rfl rfl (by first | exact m0 | exact m1 | exact m2 | exact m3 | exact m4 | exact m5) Tryd.underlying24 rfl [v0, .int .i64 z1] (partBow_Neck (v0) (.int .i64 z1) (v2) (.int .i64 z3) (.int .i64 z4) (.float .f32 y5) (.float .f32 y6) (.float .f32 y7) (.float .f32 y8) (.float .f32 y9) (.float .f32 y10) (.float .f32 y11)) uinfoRingL rfl ?_) | (with_reducible refine wpList_loadGP F rfl rfl rfl (by first | exact m0 | exact m1 | exact m2 | exact m3 | exact m4 | exact m5) Tryd.underlying24 rfl [v2, .int .i64 z3] (partBow_Bridge (v0) (.int .i64 z1) (v2) (.int .i64 z3) (.int .i64 z4) (.float .f32 y5) (.float .f32 y6) (.float .f32 y7) (.float .f32 y8) (.float .f32 y9) (.float .f32 y10) (.float .f32 y11)) uinfoRingL rfl ?_) | (with_reducible refine wpList_loadGP F rfl rfl rfl (by first | exact m0 | exact m1 | exact m2 | exact m3 | exact m4 | exact m5) Tryd.underlying29 rfl [.int .i64 z4, .float .f32 y5, .float .f32 y6, .float .f32 y7, .float .f32 y8, .float .f32 y9] (partBow_Damp (v0) (.int .i64 z1) (v2) (.int .i64 z3) (.int .i64 z4) (.float .f32 y5) (.float .f32 y6) (.float .f32 y7) (.float .f32 y8) (.float .f32 y9) (.float .f32 y10) (.float .f32 y11)) uinfoFilterL rfl ?_) | (with_reducible refine wpList_load1 F rfl rfl rfl (by first | exact m0 | exact m1 | exact m2 | exact m3 | exact m4 | exact m5) (f := 10) (v := .float .f32 y10) rfl ukindFloat32 ?_) | (with_reducible refine wpList_load1 F rfl rfl rfl (by first | exact m0 | exact m1 | exact m2 | exact m3 | exact m4 | exact m5) (f := 11) (v := .float .f32 y11) rfl ukindFloat32 ?_)) | (go_at_call 25; ((with_reducible refine (toFil_any _ _ _ _ _ _ _).mono ?_); rintro e w1 ⟨rfl, hl⟩; replace F := F.le hl; clear hl)) | (with_reducible refine stop_store rfl ?_))
  show wpList _ _ _ _ _ _
  refine wpList_storeP rfl rfl rfl (f := 4) (cells := [.int .i64 z4, .float .f32 y5, .float .f32 y6, .float .f32 y7, .float .f32 y8, .float .f32 y9]) rfl (F.row m2) uinfoFilterI (by simp) (by (simp only [List.all_toArray', List.all_cons, List.all_nil, Bool.and_true, Bool.true_and]) <;> rfl) (fun w2 K => ?_)
  replace F := F.wrI2 (cs' := #[u0, .int .i64 z1, u2, .int .i64 z3, .int .i64 z4, .float .f32 y5, .float .f32 y6, .float .f32 y7, .float .f32 y8, .float .f32 y9, .float .f32 0, .float .f32 0]) K
  clear K
  go_wp2_with (first | ((with_reducible refine listN F ?_); clear F; intro wN F) | ((with_reducible refine at_load rfl ?_); first | (with_reducible refine wpList_loadGP F rfl rfl rfl (by first | exact m0 | exact m1 | exact m2 | exact m3 | exact m4 | exact m5) Tryd.underlying24 rfl [v0, .int .i64 z1] (partBow_Neck (v0) (.int .i64 z1) (v2) (.int .i64 z3) (.int .i64 z4) (.float .f32 y5) (.float .f32 y6) (.float .f32 y7) (.float .f32 y8) (.float .f32 y9) (.float .f32 y10) (.float .f32 y11)) uinfoRingL rfl ?_) | (with_reducible refine wpList_loadGP F rfl rfl rfl (by first | exact m0 | exact m1 | exact m2 | exact m3 | exact m4 | exact m5) Tryd.underlying24 rfl [v2, .int .i64 z3] (partBow_Bridge (v0) (.int .i64 z1) (v2) (.int .i64 z3) (.int .i64 z4) (.float .f32 y5) (.float .f32 y6) (.float .f32 y7) (.float .f32 y8) (.float .f32 y9) (.float .f32 y10) (.float .f32 y11)) uinfoRingL rfl ?_) | (with_reducible refine wpList_loadGP F rfl rfl rfl (by first | exact m0 | exact m1 | exact m2 | exact m3 | exact m4 | exact m5) Tryd.underlying29 rfl [.int .i64 z4, .float .f32 y5, .float .f32 y6, .float .f32 y7, .float .f32 y8, .float .f32 y9] (partBow_Damp (v0) (.int .i64 z1) (v2) (.int .i64 z3) (.int .i64 z4) (.float .f32 y5) (.float .f32 y6) (.float .f32 y7) (.float .f32 y8) (.float .f32 y9) (.float .f32 y10) (.float .f32 y11)) uinfoFilterL rfl ?_) | (with_reducible refine wpList_load1 F rfl rfl rfl (by first | exact m0 | exact m1 | exact m2 | exact m3 | exact m4 | exact m5) (f := 10) (v := .float .f32 y10) rfl ukindFloat32 ?_) | (with_reducible refine wpList_load1 F rfl rfl rfl (by first | exact m0 | exact m1 | exact m2 | exact m3 | exact m4 | exact m5) (f := 11) (v := .float .f32 y11) rfl ukindFloat32 ?_)) | (with_reducible refine stop_store rfl ?_))
  show wpList _ _ _ _ _ _
  refine wpList_store1 rfl rfl (f := 10) rfl rfl (F.row m2) uinfo1Float32 (by simp) rfl #[u0, .int .i64 z1, u2, .int .i64 z3, .int .i64 z4, .float .f32 y5, .float .f32 y6, .float .f32 y7, .float .f32 y8, .float .f32 y9, .float .f32 y10, .float .f32 0] rfl (fun w2 K => ?_)
  replace F := F.wrI2 (cs' := #[u0, .int .i64 z1, u2, .int .i64 z3, .int .i64 z4, .float .f32 y5, .float .f32 y6, .float .f32 y7, .float .f32 y8, .float .f32 y9, .float .f32 y10, .float .f32 0]) K
  clear K
  go_wp2_with (first | ((with_reducible refine listN F ?_); clear F; intro wN F) | ((with_reducible refine at_load rfl ?_); first | (with_reducible refine wpList_loadGP F rfl rfl rfl (by first | exact m0 | exact m1 | exact m2 | exact m3 | exact m4 | exact m5) Tryd.underlying24 rfl [v0, .int .i64 z1] (partBow_Neck (v0) (.int .i64 z1) (v2) (.int .i64 z3) (.int .i64 z4) (.float .f32 y5) (.float .f32 y6) (.float .f32 y7) (.float .f32 y8) (.float .f32 y9) (.float .f32 y10) (.float .f32 y11)) uinfoRingL rfl ?_) | (with_reducible refine wpList_loadGP F rfl rfl rfl (by first | exact m0 | exact m1 | exact m2 | exact m3 | exact m4 | exact m5) Tryd.underlying24 rfl [v2, .int .i64 z3] (partBow_Bridge (v0) (.int .i64 z1) (v2) (.int .i64 z3) (.int .i64 z4) (.float .f32 y5) (.float .f32 y6) (.float .f32 y7) (.float .f32 y8) (.float .f32 y9) (.float .f32 y10) (.float .f32 y11)) uinfoRingL rfl ?_) | (with_reducible refine wpList_loadGP F rfl rfl rfl (by first | exact m0 | exact m1 | exact m2 | exact m3 | exact m4 | exact m5) Tryd.underlying29 rfl [.int .i64 z4, .float .f32 y5, .float .f32 y6, .float .f32 y7, .float .f32 y8, .float .f32 y9] (partBow_Damp (v0) (.int .i64 z1) (v2) (.int .i64 z3) (.int .i64 z4) (.float .f32 y5) (.float .f32 y6) (.float .f32 y7) (.float .f32 y8) (.float .f32 y9) (.float .f32 y10) (.float .f32 y11)) uinfoFilterL rfl ?_) | (with_reducible refine wpList_load1 F rfl rfl rfl (by first | exact m0 | exact m1 | exact m2 | exact m3 | exact m4 | exact m5) (f := 10) (v := .float .f32 y10) rfl ukindFloat32 ?_) | (with_reducible refine wpList_load1 F rfl rfl rfl (by first | exact m0 | exact m1 | exact m2 | exact m3 | exact m4 | exact m5) (f := 11) (v := .float .f32 y11) rfl ukindFloat32 ?_)) | (with_reducible refine stop_store rfl ?_))
  show wpList _ _ _ _ _ _
  refine wpList_store1 rfl rfl (f := 11) rfl rfl (F.row m2) uinfo1Float32 (by simp) rfl #[u0, .int .i64 z1, u2, .int .i64 z3, .int .i64 z4, .float .f32 y5, .float .f32 y6, .float .f32 y7, .float .f32 y8, .float .f32 y9, .float .f32 y10, .float .f32 y11] rfl (fun w2 K => ?_)
  replace F := F.wrI2 (cs' := #[u0, .int .i64 z1, u2, .int .i64 z3, .int .i64 z4, .float .f32 y5, .float .f32 y6, .float .f32 y7, .float .f32 y8, .float .f32 y9, .float .f32 y10, .float .f32 y11]) K
  clear K
  go_wp2_with (first | ((with_reducible refine listN F ?_); clear F; intro wN F) | ((with_reducible refine at_load rfl ?_); (with_reducible refine wpList_loadG F rfl rfl rfl (by first | exact m0 | exact m1 | exact m2) Tryd.underlying37 rfl uinfoBowI rfl ?_)) | (with_reducible refine stop_store rfl ?_))
  show wpList _ _ _ _ _ _
  refine wpList_storeD rfl rfl rfl (cells := #[u0, .int .i64 z1, u2, .int .i64 z3, .int .i64 z4, .float .f32 y5, .float .f32 y6, .float .f32 y7, .float .f32 y8, .float .f32 y9, .float .f32 y10, .float .f32 y11]) rfl (F.row m3) uinfoBowI rfl (by (simp only [List.all_toArray', List.all_cons, List.all_nil, Bool.and_true, Bool.true_and, O0.out, O2.out]) <;> rfl) (fun w6 K => ?_)
  have R := hid K.row
  replace F := F.wrI3 K
  have E0 := Eaten.start F
  replace E0 := Eaten.leaf (c := CD.cp c11) (v := .float .f32 y11) E0 (r11.leafLay (flk_ne q11))
  replace E0 := Eaten.leaf (c := CD.cp c10) (v := .float .f32 y10) E0 (r10.leafLay (flk_ne q10))
  replace E0 := Eaten.leaf (c := CD.cp c9) (v := .float .f32 y9) E0 (r9.leafLay (flk_ne q9))
  replace E0 := Eaten.leaf (c := CD.cp c8) (v := .float .f32 y8) E0 (r8.leafLay (flk_ne q8))
  replace E0 := Eaten.leaf (c := CD.cp c7) (v := .float .f32 y7) E0 (r7.leafLay (flk_ne q7))
  replace E0 := Eaten.leaf (c := CD.cp c6) (v := .float .f32 y6) E0 (r6.leafLay (flk_ne q6))
  replace E0 := Eaten.leaf (c := CD.cp c5) (v := .float .f32 y5) E0 (r5.leafLay (flk_ne q5))
  replace E0 := Eaten.leaf (c := .int .i64 z4) (v := .int .i64 z4) E0 (show CD.Lay _ _ _ _ from ⟨rfl, wf4⟩)
  replace E0 := Eaten.eat F E0
  replace F := F.tl
  replace E0 := Eaten.eat F E0
  replace F := F.tl
  have L := hid (show LayL _ _ _ _ ∧ le w _ from ⟨E0.fin, F.below⟩)
  clear K F E0
  go_wp2
  exact bodyPost_ret (results_row1 rfl _ _ _ _ _ rfl R.out Tryd.underlying37 rfl uinfoBowI) rfl ⟨[u0, .int .i64 z1, u2, .int .i64 z3, .int .i64 z4, .float .f32 y5, .float .f32 y6, .float .f32 y7, .float .f32 y8, .float .f32 y9, .float .f32 y10, .float .f32 y11], rfl, L.out.1, L.out.2⟩
end Go.Proofs.YtjihkfemejhllaaDoor

/- 'ValidBow' of both. -/
namespace Go.Fk
open Go Go.RowKit
def okBow (x y : Nat → Nat) (nx ny : Nat) (j k : Int) (fk : Int) (a b c p q : Nat) (m o : Nat) : Bool := (fk == 1) && okF fk a b c p q && rngB x nx j && rngB y ny k && fin m && fin o
end Go.Fk
namespace Go.Proofs.YtjihkfemejhllaaDoor
open Go.RowKit Go.Fk
set_option maxRecDepth 100000 in
set_option maxHeartbeats 4000000 in
@[go_sem] theorem taBow (v : Value) (w : World) : (Instr.typeAssert (.iface 37 v) 103 37 true).run Tryd.prog w = .ok (.tuple #[v, .bool true]) w := by rfl
set_option maxRecDepth 100000 in
set_option maxHeartbeats 4000000 in
theorem i_filtersBow (s t : Value) (j k fk : Int) (a b c p q m o : Nat) (w : World)  : Calls Tryd.prog 124 #[.agg #[s, .int .i64 j, t, .int .i64 k, .int .i64 fk, .float .f32 a, .float .f32 b, .float .f32 c, .float .f32 p, .float .f32 q, .float .f32 m, .float .f32 o]] w (OutSl 35 1 #[.int .i64 fk, .float .f32 a, .float .f32 b, .float .f32 c, .float .f32 p, .float .f32 q] w) := by
  have F := (Frg.nil w).box 37 #[s, .int .i64 j, t, .int .i64 k, .int .i64 fk, .float .f32 a, .float .f32 b, .float .f32 c, .float .f32 p, .float .f32 q, .float .f32 m, .float .f32 o]
  go_enter Tryd.func124, Tryd.ntmps124
  go_wp2_with (first | ((with_reducible refine at_load rfl ?_); first | (with_reducible refine wpList_loadGP F rfl rfl rfl (by first | exact m0 | exact m1 | exact m2) Tryd.underlying34 rfl [s, .int .i64 j] (partBow_Neck (s) (.int .i64 j) (t) (.int .i64 k) (.int .i64 fk) (.float .f32 a) (.float .f32 b) (.float .f32 c) (.float .f32 p) (.float .f32 q) (.float .f32 m) (.float .f32 o)) uinfoRingI rfl ?_) | (with_reducible refine wpList_loadGP F rfl rfl rfl (by first | exact m0 | exact m1 | exact m2) Tryd.underlying34 rfl [t, .int .i64 k] (partBow_Bridge (s) (.int .i64 j) (t) (.int .i64 k) (.int .i64 fk) (.float .f32 a) (.float .f32 b) (.float .f32 c) (.float .f32 p) (.float .f32 q) (.float .f32 m) (.float .f32 o)) uinfoRingI rfl ?_) | (with_reducible refine wpList_loadGP F rfl rfl rfl (by first | exact m0 | exact m1 | exact m2) Tryd.underlying35 rfl [.int .i64 fk, .float .f32 a, .float .f32 b, .float .f32 c, .float .f32 p, .float .f32 q] (partBow_Damp (s) (.int .i64 j) (t) (.int .i64 k) (.int .i64 fk) (.float .f32 a) (.float .f32 b) (.float .f32 c) (.float .f32 p) (.float .f32 q) (.float .f32 m) (.float .f32 o)) uinfoFilterI rfl ?_) | (with_reducible refine wpList_load1 F rfl rfl rfl (by first | exact m0 | exact m1 | exact m2) (f := 10) (v := .float .f32 m) rfl ukindFloat32 ?_) | (with_reducible refine wpList_load1 F rfl rfl rfl (by first | exact m0 | exact m1 | exact m2) (f := 11) (v := .float .f32 o) rfl ukindFloat32 ?_)))
  go_ret
  exact ⟨w.heap.size + 1, rfl, by omega, Row.new' _ _ _ (by simp), le_trans (le_alloc _ _) (le_alloc _ _)⟩
set_option maxRecDepth 100000 in
set_option maxHeartbeats 4000000 in
theorem i_ringsBow (s t : Value) (j k fk : Int) (a b c p q m o : Nat) (w : World)  : Calls Tryd.prog 126 #[.agg #[s, .int .i64 j, t, .int .i64 k, .int .i64 fk, .float .f32 a, .float .f32 b, .float .f32 c, .float .f32 p, .float .f32 q, .float .f32 m, .float .f32 o]] w (OutSl 34 2 #[s, .int .i64 j, t, .int .i64 k] w) := by
  have F := (Frg.nil w).box 37 #[s, .int .i64 j, t, .int .i64 k, .int .i64 fk, .float .f32 a, .float .f32 b, .float .f32 c, .float .f32 p, .float .f32 q, .float .f32 m, .float .f32 o]
  go_enter Tryd.func126, Tryd.ntmps126
  go_wp2_with (first | ((with_reducible refine at_load rfl ?_); first | (with_reducible refine wpList_loadGP F rfl rfl rfl (by first | exact m0 | exact m1 | exact m2) Tryd.underlying34 rfl [s, .int .i64 j] (partBow_Neck (s) (.int .i64 j) (t) (.int .i64 k) (.int .i64 fk) (.float .f32 a) (.float .f32 b) (.float .f32 c) (.float .f32 p) (.float .f32 q) (.float .f32 m) (.float .f32 o)) uinfoRingI rfl ?_) | (with_reducible refine wpList_loadGP F rfl rfl rfl (by first | exact m0 | exact m1 | exact m2) Tryd.underlying34 rfl [t, .int .i64 k] (partBow_Bridge (s) (.int .i64 j) (t) (.int .i64 k) (.int .i64 fk) (.float .f32 a) (.float .f32 b) (.float .f32 c) (.float .f32 p) (.float .f32 q) (.float .f32 m) (.float .f32 o)) uinfoRingI rfl ?_) | (with_reducible refine wpList_loadGP F rfl rfl rfl (by first | exact m0 | exact m1 | exact m2) Tryd.underlying35 rfl [.int .i64 fk, .float .f32 a, .float .f32 b, .float .f32 c, .float .f32 p, .float .f32 q] (partBow_Damp (s) (.int .i64 j) (t) (.int .i64 k) (.int .i64 fk) (.float .f32 a) (.float .f32 b) (.float .f32 c) (.float .f32 p) (.float .f32 q) (.float .f32 m) (.float .f32 o)) uinfoFilterI rfl ?_) | (with_reducible refine wpList_load1 F rfl rfl rfl (by first | exact m0 | exact m1 | exact m2) (f := 10) (v := .float .f32 m) rfl ukindFloat32 ?_) | (with_reducible refine wpList_load1 F rfl rfl rfl (by first | exact m0 | exact m1 | exact m2) (f := 11) (v := .float .f32 o) rfl ukindFloat32 ?_)))
  go_ret
  exact ⟨w.heap.size + 1, rfl, by omega, Row.new' _ _ _ (by simp), le_trans (le_alloc _ _) (le_alloc _ _)⟩
set_option maxRecDepth 100000 in
set_option maxHeartbeats 4000000 in
theorem i_numbersBow (s t : Value) (j k fk : Int) (a b c p q m o : Nat) (w : World)  : Calls Tryd.prog 125 #[.agg #[s, .int .i64 j, t, .int .i64 k, .int .i64 fk, .float .f32 a, .float .f32 b, .float .f32 c, .float .f32 p, .float .f32 q, .float .f32 m, .float .f32 o]] w (OutSl 25 2 #[.float .f32 m, .float .f32 o] w) := by
  have F := (Frg.nil w).box 37 #[s, .int .i64 j, t, .int .i64 k, .int .i64 fk, .float .f32 a, .float .f32 b, .float .f32 c, .float .f32 p, .float .f32 q, .float .f32 m, .float .f32 o]
  go_enter Tryd.func125, Tryd.ntmps125
  go_wp2_with (first | ((with_reducible refine at_load rfl ?_); first | (with_reducible refine wpList_loadGP F rfl rfl rfl (by first | exact m0 | exact m1 | exact m2) Tryd.underlying34 rfl [s, .int .i64 j] (partBow_Neck (s) (.int .i64 j) (t) (.int .i64 k) (.int .i64 fk) (.float .f32 a) (.float .f32 b) (.float .f32 c) (.float .f32 p) (.float .f32 q) (.float .f32 m) (.float .f32 o)) uinfoRingI rfl ?_) | (with_reducible refine wpList_loadGP F rfl rfl rfl (by first | exact m0 | exact m1 | exact m2) Tryd.underlying34 rfl [t, .int .i64 k] (partBow_Bridge (s) (.int .i64 j) (t) (.int .i64 k) (.int .i64 fk) (.float .f32 a) (.float .f32 b) (.float .f32 c) (.float .f32 p) (.float .f32 q) (.float .f32 m) (.float .f32 o)) uinfoRingI rfl ?_) | (with_reducible refine wpList_loadGP F rfl rfl rfl (by first | exact m0 | exact m1 | exact m2) Tryd.underlying35 rfl [.int .i64 fk, .float .f32 a, .float .f32 b, .float .f32 c, .float .f32 p, .float .f32 q] (partBow_Damp (s) (.int .i64 j) (t) (.int .i64 k) (.int .i64 fk) (.float .f32 a) (.float .f32 b) (.float .f32 c) (.float .f32 p) (.float .f32 q) (.float .f32 m) (.float .f32 o)) uinfoFilterI rfl ?_) | (with_reducible refine wpList_load1 F rfl rfl rfl (by first | exact m0 | exact m1 | exact m2) (f := 10) (v := .float .f32 m) rfl ukindFloat32 ?_) | (with_reducible refine wpList_load1 F rfl rfl rfl (by first | exact m0 | exact m1 | exact m2) (f := 11) (v := .float .f32 o) rfl ukindFloat32 ?_)))
  go_ret
  exact ⟨w.heap.size + 1, rfl, by omega, Row.new' _ _ _ (by simp), le_trans (le_alloc _ _) (le_alloc _ _)⟩
def wordVBow : ByteArray := ⟨#[98, 111, 119]⟩
set_option maxRecDepth 100000 in
set_option maxHeartbeats 4000000 in
theorem i_wordBow (v : Value) (w : World) : Calls Tryd.prog 58 #[.iface 37 v] w fun e w' => ∃ g, e = .returned (.tuple #[.string wordVBow, .slice (some ⟨g, 0, none⟩) 1 1]) ∧ w.heap.size ≤ g ∧ Row w' g 2 #[.int .i64 1] ∧ le w w' := by
  go_enter Tryd.func58, Tryd.ntmps58
  go_wp2
  go_ret2
  exact ⟨w.heap.size, rfl, Nat.le_refl _, Row.new _ _ _, le_alloc _ _⟩
theorem rngAt0 (s t : Value) (j k : Int) : ∀ q, q < [s, .int .i64 j].length → (#[s, .int .i64 j, t, .int .i64 k] : Array Value)[0 + q]? = [s, .int .i64 j][q]? := fun q hq => by match q, hq with | 0, _ => rfl | 1, _ => rfl
theorem rngAt1 (s t : Value) (j k : Int) : ∀ q, q < [t, .int .i64 k].length → (#[s, .int .i64 j, t, .int .i64 k] : Array Value)[2 + q]? = [t, .int .i64 k][q]? := fun q hq => by match q, hq with | 0, _ => rfl | 1, _ => rfl
theorem filAtBow0 (fk : Int) (a b c p q : Nat) : ∀ j, j < ([.int .i64 fk, .float .f32 a, .float .f32 b, .float .f32 c, .float .f32 p, .float .f32 q] : List Value).length → (#[.int .i64 fk, .float .f32 a, .float .f32 b, .float .f32 c, .float .f32 p, .float .f32 q] : Array Value)[0 + j]? = ([.int .i64 fk, .float .f32 a, .float .f32 b, .float .f32 c, .float .f32 p, .float .f32 q] : List Value)[j]? := fun j hj => by match j, hj with | 0, _ => rfl | 1, _ => rfl | 2, _ => rfl | 3, _ => rfl | 4, _ => rfl | 5, _ => rfl
set_option maxRecDepth 100000 in
set_option maxHeartbeats 4000000 in
theorem i_validPartsBow (x y : Nat → Nat) (nx ny : Nat) (j k : Int) (fk : Int) (a b c p q : Nat) (m o : Nat) (B : Nat) (s t : Value) (w : World) (hs : (slT x nx).RdN w B s) (ht : (slT y ny).RdN w B t) (wf : (Lit.int .i64 j).wf = true ∧ (Lit.int .i64 k).wf = true) (hf : (fits .f32 a ∧ fits .f32 b ∧ fits .f32 c ∧ fits .f32 p ∧ fits .f32 q ∧ fits .f32 m ∧ fits .f32 o)) :
    Calls Tryd.prog 57 #[.iface 37 (.agg #[s, .int .i64 j, t, .int .i64 k, .int .i64 fk, .float .f32 a, .float .f32 b, .float .f32 c, .float .f32 p, .float .f32 q, .float .f32 m, .float .f32 o])] w (Out_b (okBow x y nx ny j k fk a b c p q m o) w) := by
  obtain ⟨fa, fb, fc, fp, fq, fm, fo⟩ := hf
  obtain ⟨wj, wk⟩ := wf
  have HV0 := hid (fun w' => i_ValidFilter fk a b c p q w' ⟨fa, fb, fc, fp, fq⟩)
  have HX := hid (fun (w' : World) (hl : le w w') => i_isFiniteRing B s x nx j w' ((slT_rds hs).le hl))
  have HY := hid (fun (w' : World) (hl : le w w') => i_isFiniteRing B t y ny k w' ((slT_rds ht).le hl))
  have HN := hid (fun (b : Nat) (w' : World) (R : Row w' b 25 #[.float .f32 m, .float .f32 o]) => i_areFiniteQ (b + 1) (.slice (some ⟨b, 0, none⟩) 2 2) (two m o) 2 w' (two_rd fm fo R))
  have HW := hid (fun (w' : World) => i_wordBow (.agg #[s, .int .i64 j, t, .int .i64 k, .int .i64 fk, .float .f32 a, .float .f32 b, .float .f32 c, .float .f32 p, .float .f32 q, .float .f32 m, .float .f32 o]) w')
  have HF := hid (fun (w' : World) => i_filtersBow s t j k fk a b c p q m o w')
  have HR := hid (fun (w' : World) => i_ringsBow s t j k fk a b c p q m o w')
  have HM := hid (fun (w' : World) => i_numbersBow s t j k fk a b c p q m o w')
  have SO0 := hid (slT_rds hs).one; have SO1 := hid (slT_rds ht).one
  clear hs ht wj wk fa fb fc fp fq fm fo
  change Calls _ _ _ _ (Out_b ((fk == 1) && okF fk a b c p q && rngB x nx j && rngB y ny k && fin m && fin o) w)
  rw [show ((fk == 1) && okF fk a b c p q && rngB x nx j && rngB y ny k && fin m && fin o) = ((fk == 1) && okF fk a b c p q && rngB x nx j && rngB y ny k && finB (two m o) 2) by rw [fin_two, ← Bool.and_assoc]]
  go_enter Tryd.func57, Tryd.ntmps57
  have F := Frg.nil w
  go_wp2_with (first | (go_at_call 58; ((with_reducible refine (HW.out _).mono ?_); rintro e w1 ⟨gK, rfl, hgK, hrK, hlK⟩; replace F := F.rowS hlK hgK hrK; clear hgK hrK hlK)) | (go_at_call 124; ((with_reducible refine (HF.out _).mono ?_); rintro e w2 ⟨gF, rfl, hgF, hrF, hlF⟩; replace F := F.rowS hlF hgF hrF; clear hgF hrF hlF)))
  go_loopw [17] (fun i wr => ∃ n : Nat, n ≤ 1 ∧ i = .int .i64 n ∧ Hid ((0 < n → (fk == 1) = true ∧ okF fk a b c p q = true)) ∧ Hid (Frg w wr [rowF gF 35 #[.int .i64 fk, .float .f32 a, .float .f32 b, .float .f32 c, .float .f32 p, .float .f32 q], rowF gK 2 #[.int .i64 1]])) (fun i _ => 1 - (intOf i).toNat)
  case atStart => exact ⟨0, by omega, rfl, fun h => absurd h (by omega), F⟩
  case round =>
    clear F
    obtain ⟨n, hn, rfl, HP, HF0⟩ := hrel
    rename_i wr _
    match n, hn with
    | 0, _ =>
      have F := HF0.out
      go_wp2_with (first | ((with_reducible refine listN F ?_); clear F; intro wN F) | (with_reducible refine wpList_indexW0 (i := 0) rfl rfl rfl rfl Tryd.underlying116 uinfoFilterI (by decide) ?_) | ((with_reducible refine at_load rfl ?_); (with_reducible refine wpList_loadGP F rfl rfl rfl (by first | exact m0 | exact m1 | exact m2 | exact m3 | exact m4 | exact m5 | exact m6 | exact m7) Tryd.underlying35 rfl [.int .i64 fk, .float .f32 a, .float .f32 b, .float .f32 c, .float .f32 p, .float .f32 q] (filAtBow0 fk a b c p q) uinfoFilterI rfl ?_)))
      replace F := F.box 35 #[.int .i64 fk, .float .f32 a, .float .f32 b, .float .f32 c, .float .f32 p, .float .f32 q]
      cases hc : (fk == 1)
      · have hne := hid (show (fk != 1) = true by rw [bne, hc]; rfl)
        have hp0 := HP.out
        have E := hid (show ((fk == 1) && okF fk a b c p q && rngB x nx j && rngB y ny k && finB (two m o) 2) = false by simp [hc])
        clear hc hp0
        refine region_freeD (E := leX) (fun _ _ _ v => v = .bool false) (by kernel_rfl) (by kernel_rfl) ?_
        refine wpFreeD_one rfl (.pointer (some ⟨wr.heap.size, 0, none⟩)) (fun w1 _ => by kernel_rfl) ?_
        simp only [Act.put, List.setIfInBounds_toArray, List.set_cons_succ, List.set_cons_zero]
        refine wpFreeD_load1 rfl rfl rfl (p := ⟨wr.heap.size, 0, none⟩) (fun w1 h1 => (((F.drewN 1).le h1).row m0).cell? 0) ukindInt64 ?_
        simp only [Act.put, List.setIfInBounds_toArray, List.set_cons_succ, List.set_cons_zero]
        refine wpFreeD_one rfl (.slice (some ⟨gK, 0, none⟩) 1 1) (fun w1 _ => by kernel_rfl) ?_
        simp only [Act.put, List.setIfInBounds_toArray, List.set_cons_succ, List.set_cons_zero]
        refine wpFreeD_one rfl (.int .i64 0) (fun w1 _ => by kernel_rfl) ?_
        simp only [Act.put, List.setIfInBounds_toArray, List.set_cons_succ, List.set_cons_zero]
        refine wpFreeD_indexW0 rfl rfl (i := 0) rfl rfl Tryd.underlying108 uinfo1Int64 (by decide) ?_
        simp only [Act.put, List.setIfInBounds_toArray, List.set_cons_succ, List.set_cons_zero]
        refine wpFreeD_load1 rfl rfl rfl (p := ⟨gK, 0 + 0 * 1, none⟩) (fun w1 h1 => (((F.drewN 1).le h1).row m2).cell? 0) ukindInt64 ?_
        simp only [Act.put, List.setIfInBounds_toArray, List.set_cons_succ, List.set_cons_zero]
        refine wpFreeD_one rfl (.bool (fk != 1)) (fun w1 _ => by kernel_rfl) ?_
        simp only [Act.put, List.setIfInBounds_toArray, List.set_cons_succ, List.set_cons_zero]
        rw [hne.out]
        refine wpFreeD_one rfl (.bool true) (fun w1 _ => by kernel_rfl) ?_
        simp only [Act.put, List.setIfInBounds_toArray, List.set_cons_succ, List.set_cons_zero]
        refine wpFreeD_skip (by kernel_rfl) ?_
        simp only [Act.put, List.setIfInBounds_toArray, List.set_cons_succ, List.set_cons_zero]
        refine wpFreeD_skip (by kernel_rfl) ?_
        simp only [Act.put, List.setIfInBounds_toArray, List.set_cons_succ, List.set_cons_zero]
        refine wpFreeD_skip (by kernel_rfl) ?_
        simp only [Act.put, List.setIfInBounds_toArray, List.set_cons_succ, List.set_cons_zero]
        refine wpFreeD_one rfl (.bool true) (fun w1 _ => by kernel_rfl) ?_
        simp only [Act.put, List.setIfInBounds_toArray, List.set_cons_succ, List.set_cons_zero]
        refine wpFreeD_nil (fun wR hwR _ => ?_)
        replace F := (F.drewN 1).le hwR
        clear hwR
        go_wp2
        go_ret
        exact ⟨ret_b E.out.symm, F.below⟩
      have hne := hid (show (fk != 1) = false by rw [bne, hc]; rfl)
      cases hk : okF fk a b c p q
      · rw [hk] at HV0
        have hp0 := HP.out
        have E := hid (show ((fk == 1) && okF fk a b c p q && rngB x nx j && rngB y ny k && finB (two m o) 2) = false by simp [hk])
        clear hc hk hp0
        refine region_freeD (E := leX) (fun _ _ _ v => v = .bool false) (by kernel_rfl) (by kernel_rfl) ?_
        refine wpFreeD_one rfl (.pointer (some ⟨wr.heap.size, 0, none⟩)) (fun w1 _ => by kernel_rfl) ?_
        simp only [Act.put, List.setIfInBounds_toArray, List.set_cons_succ, List.set_cons_zero]
        refine wpFreeD_load1 rfl rfl rfl (p := ⟨wr.heap.size, 0, none⟩) (fun w1 h1 => (((F.drewN 1).le h1).row m0).cell? 0) ukindInt64 ?_
        simp only [Act.put, List.setIfInBounds_toArray, List.set_cons_succ, List.set_cons_zero]
        refine wpFreeD_one rfl (.slice (some ⟨gK, 0, none⟩) 1 1) (fun w1 _ => by kernel_rfl) ?_
        simp only [Act.put, List.setIfInBounds_toArray, List.set_cons_succ, List.set_cons_zero]
        refine wpFreeD_one rfl (.int .i64 0) (fun w1 _ => by kernel_rfl) ?_
        simp only [Act.put, List.setIfInBounds_toArray, List.set_cons_succ, List.set_cons_zero]
        refine wpFreeD_indexW0 rfl rfl (i := 0) rfl rfl Tryd.underlying108 uinfo1Int64 (by decide) ?_
        simp only [Act.put, List.setIfInBounds_toArray, List.set_cons_succ, List.set_cons_zero]
        refine wpFreeD_load1 rfl rfl rfl (p := ⟨gK, 0 + 0 * 1, none⟩) (fun w1 h1 => (((F.drewN 1).le h1).row m2).cell? 0) ukindInt64 ?_
        simp only [Act.put, List.setIfInBounds_toArray, List.set_cons_succ, List.set_cons_zero]
        refine wpFreeD_one rfl (.bool (fk != 1)) (fun w1 _ => by kernel_rfl) ?_
        simp only [Act.put, List.setIfInBounds_toArray, List.set_cons_succ, List.set_cons_zero]
        rw [hne.out]
        refine wpFreeD_one rfl (.bool false) (fun w1 _ => by kernel_rfl) ?_
        simp only [Act.put, List.setIfInBounds_toArray, List.set_cons_succ, List.set_cons_zero]
        refine wpFreeD_loadGW F rfl (by kernel_rfl) rfl rfl m0 Tryd.underlying35 rfl uinfoFilterI rfl ?_
        simp only [Act.put, List.setIfInBounds_toArray, List.set_cons_succ, List.set_cons_zero]
        refine wpFreeD_callW (by kernel_rfl) rfl Tryd.func63 (by kernel_rfl) (by kernel_rfl) (args := #[.agg #[.int .i64 fk, .float .f32 a, .float .f32 b, .float .f32 c, .float .f32 p, .float .f32 q]]) (by simp [Act.eval]) (fun v w1 w2 hw hv => hv) (fun w1 hw1 _ => (HV0.out w1).mono ?_) ?_
        · rintro e w2 ⟨rfl, hl⟩
          exact ⟨_, rfl, hl, rfl⟩
        rintro v ⟨_, _, _, rfl⟩
        simp only [Act.put, List.setIfInBounds_toArray, List.set_cons_succ, List.set_cons_zero]
        refine wpFreeD_oneW (by kernel_rfl) (.bool true) (fun w1 _ => by kernel_rfl) ?_
        simp only [Act.put, List.setIfInBounds_toArray, List.set_cons_succ, List.set_cons_zero]
        refine wpFreeD_one rfl (.bool true) (fun w1 _ => by kernel_rfl) ?_
        simp only [Act.put, List.setIfInBounds_toArray, List.set_cons_succ, List.set_cons_zero]
        refine wpFreeD_nil (fun wR hwR _ => ?_)
        replace F := (F.drewN 1).le hwR
        clear hwR
        go_wp2
        go_ret
        exact ⟨ret_b E.out.symm, F.below⟩
      · rw [hk] at HV0
        have hkk := hid hk; have hcc := hid hc
        clear hc hk
        refine region_freeD (E := leX) (fun _ _ _ v => v = .bool true) (by kernel_rfl) (by kernel_rfl) ?_
        refine wpFreeD_one rfl (.pointer (some ⟨wr.heap.size, 0, none⟩)) (fun w1 _ => by kernel_rfl) ?_
        simp only [Act.put, List.setIfInBounds_toArray, List.set_cons_succ, List.set_cons_zero]
        refine wpFreeD_load1 rfl rfl rfl (p := ⟨wr.heap.size, 0, none⟩) (fun w1 h1 => (((F.drewN 1).le h1).row m0).cell? 0) ukindInt64 ?_
        simp only [Act.put, List.setIfInBounds_toArray, List.set_cons_succ, List.set_cons_zero]
        refine wpFreeD_one rfl (.slice (some ⟨gK, 0, none⟩) 1 1) (fun w1 _ => by kernel_rfl) ?_
        simp only [Act.put, List.setIfInBounds_toArray, List.set_cons_succ, List.set_cons_zero]
        refine wpFreeD_one rfl (.int .i64 0) (fun w1 _ => by kernel_rfl) ?_
        simp only [Act.put, List.setIfInBounds_toArray, List.set_cons_succ, List.set_cons_zero]
        refine wpFreeD_indexW0 rfl rfl (i := 0) rfl rfl Tryd.underlying108 uinfo1Int64 (by decide) ?_
        simp only [Act.put, List.setIfInBounds_toArray, List.set_cons_succ, List.set_cons_zero]
        refine wpFreeD_load1 rfl rfl rfl (p := ⟨gK, 0 + 0 * 1, none⟩) (fun w1 h1 => (((F.drewN 1).le h1).row m2).cell? 0) ukindInt64 ?_
        simp only [Act.put, List.setIfInBounds_toArray, List.set_cons_succ, List.set_cons_zero]
        refine wpFreeD_one rfl (.bool (fk != 1)) (fun w1 _ => by kernel_rfl) ?_
        simp only [Act.put, List.setIfInBounds_toArray, List.set_cons_succ, List.set_cons_zero]
        rw [hne.out]
        refine wpFreeD_one rfl (.bool false) (fun w1 _ => by kernel_rfl) ?_
        simp only [Act.put, List.setIfInBounds_toArray, List.set_cons_succ, List.set_cons_zero]
        refine wpFreeD_loadGW F rfl (by kernel_rfl) rfl rfl m0 Tryd.underlying35 rfl uinfoFilterI rfl ?_
        simp only [Act.put, List.setIfInBounds_toArray, List.set_cons_succ, List.set_cons_zero]
        refine wpFreeD_callW (by kernel_rfl) rfl Tryd.func63 (by kernel_rfl) (by kernel_rfl) (args := #[.agg #[.int .i64 fk, .float .f32 a, .float .f32 b, .float .f32 c, .float .f32 p, .float .f32 q]]) (by simp [Act.eval]) (fun v w1 w2 hw hv => hv) (fun w1 hw1 _ => (HV0.out w1).mono ?_) ?_
        · rintro e w2 ⟨rfl, hl⟩
          exact ⟨_, rfl, hl, rfl⟩
        rintro v ⟨_, _, _, rfl⟩
        simp only [Act.put, List.setIfInBounds_toArray, List.set_cons_succ, List.set_cons_zero]
        refine wpFreeD_oneW (by kernel_rfl) (.bool false) (fun w1 _ => by kernel_rfl) ?_
        simp only [Act.put, List.setIfInBounds_toArray, List.set_cons_succ, List.set_cons_zero]
        refine wpFreeD_one rfl (.bool false) (fun w1 _ => by kernel_rfl) ?_
        simp only [Act.put, List.setIfInBounds_toArray, List.set_cons_succ, List.set_cons_zero]
        refine wpFreeD_nil (fun wR hwR _ => ?_)
        replace F := (F.drewN 1).le hwR
        clear hwR
        go_wp2
        go_roundw
        case rel => exact ⟨1, by omega, by go_num, fun _ => ⟨hcc.out, hkk.out⟩, F.tl⟩
        case measure => simp [intOf]
    | 1, _ =>
      have F := HF0.out
      clear HF0
      go_wp2_with (first | (go_at_call 126; ((with_reducible refine (HR.out _).mono ?_); rintro e w3 ⟨gR, rfl, hgR, hrR, hlR⟩; replace F := F.rowS hlR hgR hrR; clear hgR hrR hlR)))
      go_loopw [38] (fun i wr => ∃ n : Nat, n ≤ 2 ∧ i = .int .i64 n ∧ Hid ((0 < n → rngB x nx j = true) ∧ (1 < n → rngB y ny k = true)) ∧ Hid (Frg w wr [rowF gR 34 #[s, .int .i64 j, t, .int .i64 k]])) (fun i _ => 2 - (intOf i).toNat)
      case atStart => exact ⟨0, by omega, rfl, ⟨fun h => absurd h (by omega), fun h => absurd h (by omega)⟩, F.sub (by simp)⟩
      case round =>
        clear F
        obtain ⟨n, hn, rfl, HQ, HF1⟩ := hrel
        match n, hn with
        | 0, _ =>
          have F := HF1.out
          cases hk : rngB x nx j
          · have hk2 : rngB x nx j = false := hk
            unfold rngB at hk
            rw [hk] at HX
            obtain ⟨hq0, hq1⟩ := HQ.out
            have hp0 := HP.out
            clear hk hk2 hq0 hq1 hp0
            go_wp2_with (first | ((with_reducible refine listN F ?_); clear F; intro wN F) | (with_reducible refine wpList_indexW0 (i := 0) rfl rfl rfl rfl Tryd.underlying55 uinfoRingI (by decide) ?_) | ((with_reducible refine at_load rfl ?_); first | (with_reducible refine wpList_loadGP F rfl rfl rfl m0 Tryd.underlying34 rfl [s, .int .i64 j] (rngAt0 _ _ _ _) uinfoRingI rfl ?_) | (with_reducible refine wpList_loadG F rfl rfl rfl m0 Tryd.underlying34 rfl uinfoRingI rfl ?_)) | ((with_reducible refine at_store rfl ?_); (refine wpList_storeG F rfl rfl rfl rfl rfl uinfoRingI rfl (by (simp only [List.all_toArray', List.all_cons, List.all_nil, Bool.and_true, Bool.true_and, SO0.out]) <;> rfl) ?_; clear F; intro W F zW; clear zW)) | (go_at_call 77; ((with_reducible refine (HX.out _ F.below).mono ?_); rintro e w1 ⟨rfl, hl⟩; replace F := F.le hl; clear hl)))
            go_ret
            exact ⟨ret_b (by simp), F.below⟩
          · have hk2 := hid hk
            unfold rngB at hk
            rw [hk] at HX
            clear hk
            go_wp2_with (first | ((with_reducible refine listN F ?_); clear F; intro wN F) | (with_reducible refine wpList_indexW0 (i := 0) rfl rfl rfl rfl Tryd.underlying55 uinfoRingI (by decide) ?_) | ((with_reducible refine at_load rfl ?_); first | (with_reducible refine wpList_loadGP F rfl rfl rfl m0 Tryd.underlying34 rfl [s, .int .i64 j] (rngAt0 _ _ _ _) uinfoRingI rfl ?_) | (with_reducible refine wpList_loadG F rfl rfl rfl m0 Tryd.underlying34 rfl uinfoRingI rfl ?_)) | ((with_reducible refine at_store rfl ?_); (refine wpList_storeG F rfl rfl rfl rfl rfl uinfoRingI rfl (by (simp only [List.all_toArray', List.all_cons, List.all_nil, Bool.and_true, Bool.true_and, SO0.out]) <;> rfl) ?_; clear F; intro W F zW; clear zW)) | (go_at_call 77; ((with_reducible refine (HX.out _ F.below).mono ?_); rintro e w1 ⟨rfl, hl⟩; replace F := F.le hl; clear hl)))
            go_roundw
            case rel => exact ⟨1, by omega, by go_num, ⟨fun _ => trivial, fun h => absurd h (by omega)⟩, F.sub (by simp)⟩
            case measure => simp [intOf]
        | 1, _ =>
          have F := HF1.out
          cases hk : rngB y ny k
          · have hk2 : rngB y ny k = false := hk
            unfold rngB at hk
            rw [hk] at HY
            obtain ⟨hq0, hq1⟩ := HQ.out
            have hp0 := HP.out
            clear hk hk2 hq0 hq1 hp0
            go_wp2_with (first | ((with_reducible refine listN F ?_); clear F; intro wN F) | (with_reducible refine wpList_indexW0 (i := 1) rfl rfl rfl rfl Tryd.underlying55 uinfoRingI (by decide) ?_) | ((with_reducible refine at_load rfl ?_); first | (with_reducible refine wpList_loadGP F rfl rfl rfl m0 Tryd.underlying34 rfl [t, .int .i64 k] (rngAt1 _ _ _ _) uinfoRingI rfl ?_) | (with_reducible refine wpList_loadG F rfl rfl rfl m0 Tryd.underlying34 rfl uinfoRingI rfl ?_)) | ((with_reducible refine at_store rfl ?_); (refine wpList_storeG F rfl rfl rfl rfl rfl uinfoRingI rfl (by (simp only [List.all_toArray', List.all_cons, List.all_nil, Bool.and_true, Bool.true_and, SO1.out]) <;> rfl) ?_; clear F; intro W F zW; clear zW)) | (go_at_call 77; ((with_reducible refine (HY.out _ F.below).mono ?_); rintro e w1 ⟨rfl, hl⟩; replace F := F.le hl; clear hl)))
            go_ret
            exact ⟨ret_b (by simp), F.below⟩
          · have hk2 := hid hk
            unfold rngB at hk
            rw [hk] at HY
            clear hk
            go_wp2_with (first | ((with_reducible refine listN F ?_); clear F; intro wN F) | (with_reducible refine wpList_indexW0 (i := 1) rfl rfl rfl rfl Tryd.underlying55 uinfoRingI (by decide) ?_) | ((with_reducible refine at_load rfl ?_); first | (with_reducible refine wpList_loadGP F rfl rfl rfl m0 Tryd.underlying34 rfl [t, .int .i64 k] (rngAt1 _ _ _ _) uinfoRingI rfl ?_) | (with_reducible refine wpList_loadG F rfl rfl rfl m0 Tryd.underlying34 rfl uinfoRingI rfl ?_)) | ((with_reducible refine at_store rfl ?_); (refine wpList_storeG F rfl rfl rfl rfl rfl uinfoRingI rfl (by (simp only [List.all_toArray', List.all_cons, List.all_nil, Bool.and_true, Bool.true_and, SO1.out]) <;> rfl) ?_; clear F; intro W F zW; clear zW)) | (go_at_call 77; ((with_reducible refine (HY.out _ F.below).mono ?_); rintro e w1 ⟨rfl, hl⟩; replace F := F.le hl; clear hl)))
            go_roundw
            case rel => exact ⟨2, by omega, by go_num, ⟨fun _ => HQ.out.1 (by omega), fun _ => trivial⟩, F.sub (by simp)⟩
            case measure => simp [intOf]
        | 2, _ =>
          have F := HF1.out
          obtain ⟨hq0, hq1⟩ := HQ.out
          have hp0 := HP.out
          have E := hid (show ((fk == 1) && okF fk a b c p q && rngB x nx j && rngB y ny k && finB (two m o) 2) = finB (two m o) 2 by simp [(hp0 (by omega)).1, (hp0 (by omega)).2, hq0 (by omega), hq1 (by omega)])
          clear hq0 hq1 hp0
          go_wp2_with (first | (go_at_call 125; ((with_reducible refine (HM.out _).mono ?_); rintro e w3 ⟨gM, rfl, hgM, hrM, hlM⟩; replace F := F.rowS hlM hgM hrM; clear hgM hrM hlM)) | (go_at_call 78; ((with_reducible refine (HN.out _ _ (F.row m0)).mono ?_); rintro e w1 ⟨rfl, rfl⟩)))
          go_ret
          exact ⟨ret_b E.out.symm, F.below⟩
set_option maxRecDepth 100000 in
set_option maxHeartbeats 4000000 in
theorem i_ValidBow (x y : Nat → Nat) (nx ny : Nat) (j k : Int) (fk : Int) (a b c p q : Nat) (m o : Nat) (B : Nat) (s t : Value) (w : World) (hs : (slT x nx).RdN w B s) (ht : (slT y ny).RdN w B t) (wf : (Lit.int .i64 j).wf = true ∧ (Lit.int .i64 k).wf = true) (hf : (fits .f32 a ∧ fits .f32 b ∧ fits .f32 c ∧ fits .f32 p ∧ fits .f32 q ∧ fits .f32 m ∧ fits .f32 o)) :
    Calls Tryd.prog 26 #[.agg #[s, .int .i64 j, t, .int .i64 k, .int .i64 fk, .float .f32 a, .float .f32 b, .float .f32 c, .float .f32 p, .float .f32 q, .float .f32 m, .float .f32 o]] w (Out_b (okBow x y nx ny j k fk a b c p q m o) w) := by
  have HV := hid (fun (w' : World) (hl : le w w') => i_validPartsBow x y nx ny j k fk a b c p q m o B s t w' (hs.le hl) (ht.le hl) wf hf)
  have F := (Frg.nil w).box 37 #[s, .int .i64 j, t, .int .i64 k, .int .i64 fk, .float .f32 a, .float .f32 b, .float .f32 c, .float .f32 p, .float .f32 q, .float .f32 m, .float .f32 o]
  clear hs ht wf hf
  go_enter Tryd.func26, Tryd.ntmps26
  go_wp2_with (first | ((with_reducible refine at_loadU rfl rfl ?_); (with_reducible refine wpList_loadG F rfl rfl rfl m0 Tryd.underlying37 rfl uinfoBowI rfl ?_)) | (go_at_call 57; ((with_reducible refine (HV.out _ F.below).mono ?_); rintro e w1 ⟨rfl, hl⟩; replace F := F.le hl; clear hl)))
  go_ret
  exact ⟨rfl, F.below⟩
set_option maxRecDepth 100000 in
set_option maxHeartbeats 4000000 in
theorem s_l05Bow (x y : Nat → Nat) (nx ny : Nat) (j k : Int) (fk : Int) (a b c p q : Nat) (m o : Nat) (B : Nat) (s t : Value) (w : World) (g0 : Nat) (RR : Row w g0 37 #[s, .int .i64 j, t, .int .i64 k, .int .i64 fk, .float .f32 a, .float .f32 b, .float .f32 c, .float .f32 p, .float .f32 q, .float .f32 m, .float .f32 o]) (hs : (slT x nx).RdN w B s) (ht : (slT y ny).RdN w B t) (wf : (Lit.int .i64 j).wf = true ∧ (Lit.int .i64 k).wf = true) (hf : (fits .f32 a ∧ fits .f32 b ∧ fits .f32 c ∧ fits .f32 p ∧ fits .f32 q ∧ fits .f32 m ∧ fits .f32 o)) :
    Calls Tryd.prog 22 #[.pointer (some ⟨g0, 0, none⟩)] w (Out_b (okBow x y nx ny j k fk a b c p q m o) w) := by
  obtain ⟨fa, fb, fc, fp, fq, fm, fo⟩ := hf
  obtain ⟨wj, wk⟩ := wf
  have hRw := hid (fun (w1 : World) (h1 : le w w1) => RR.le h1)
  have HRD := hid (fun (b : Nat) (w1 : World) (h1 : le w w1) (R : Row w1 b 34 #[s, .int .i64 j, t, .int .i64 k]) => rg2_rd (hs.le h1) (ht.le h1) wj wk R)
  have HN := hid (fun (b : Nat) (w' : World) (R : Row w' b 25 #[.float .f32 m, .float .f32 o]) => s_l04All (b + 1) (.slice (some ⟨b, 0, none⟩) 2 2) (two m o) 2 w' (two_rd fm fo R))
  have HO0 := hid (fun (w' : World) (hl : le w w') => s_OkAt fk a b c p q g0 4 w' ⟨(hRw.out w' hl).cell? 4, fun i hi => by match i, hi with | 0, _ => exact (hRw.out w' hl).cell? 5 | 1, _ => exact (hRw.out w' hl).cell? 6 | 2, _ => exact (hRw.out w' hl).cell? 7, fun i hi => by match i, hi with | 0, _ => exact (hRw.out w' hl).cell? 8 | 1, _ => exact (hRw.out w' hl).cell? 9⟩)
  clear hs ht wj wk RR fa fb fc fp fq fm fo
  change Calls _ _ _ _ (Out_b ((fk == 1) && okF fk a b c p q && rngB x nx j && rngB y ny k && fin m && fin o) w)
  rw [show ((fk == 1) && okF fk a b c p q && rngB x nx j && rngB y ny k && fin m && fin o) = ((fk == 1) && okF fk a b c p q && rngB x nx j && rngB y ny k && finB (two m o) 2) by rw [fin_two, ← Bool.and_assoc]]
  rcases bool_ft ((rngB x nx j && rngB y ny k)) with h0 | h0
  · have hc0 := hid h0
    have E := hid (show ((fk == 1) && okF fk a b c p q && rngB x nx j && rngB y ny k && finB (two m o) 2) = false by have h0' := h0; simp only [Bool.and_eq_false_iff] at h0'; rcases h0' with h | h <;> simp [h])
    clear h0
    go_enter Tryd.func22, Tryd.ntmps22
    go_wp2_with fail
    refine region_freeD (E := leX) (fun f args _ v => if f = 49 then v = .bool false else if f = 50 then (args = #[.pointer (some ⟨g0, 4, none⟩)] → v = .bool false) else v = .bool (finB (two m o) 2)) (by kernel_rfl) (by kernel_rfl) ?_
    refine wpFreeD_one rfl (.pointer (some ⟨g0, 0, none⟩)) (fun w1 _ => by kernel_rfl) ?_
    simp only [Act.put, List.setIfInBounds_toArray, List.set_cons_succ, List.set_cons_zero]
    refine wpFreeD_one rfl (.pointer (some ⟨g0, 0, none⟩)) (fun w1 _ => by kernel_rfl) ?_
    simp only [Act.put, List.setIfInBounds_toArray, List.set_cons_succ, List.set_cons_zero]
    refine wpFreeD_one rfl (.pointer (some ⟨g0, 0, none⟩)) (fun w1 _ => by kernel_rfl) ?_
    simp only [Act.put, List.setIfInBounds_toArray, List.set_cons_succ, List.set_cons_zero]
    refine wpFreeD_loadW rfl rfl rfl [s, .int .i64 j] (fun w1 h1 => Row.at_part (hRw.out w1 (le_trans (le_drewN _ _) h1)) (partBow_Neck (s) (.int .i64 j) (t) (.int .i64 k) (.int .i64 fk) (.float .f32 a) (.float .f32 b) (.float .f32 c) (.float .f32 p) (.float .f32 q) (.float .f32 m) (.float .f32 o))) Tryd.underlying34 rfl uinfoRingI rfl ?_
    simp only [Act.put, List.setIfInBounds_toArray, List.set_cons_succ, List.set_cons_zero]
    refine wpFreeD_one rfl (.pointer (some ⟨g0, 0, none⟩)) (fun w1 _ => by kernel_rfl) ?_
    simp only [Act.put, List.setIfInBounds_toArray, List.set_cons_succ, List.set_cons_zero]
    refine wpFreeD_one rfl (.pointer (some ⟨g0, 0, none⟩)) (fun w1 _ => by kernel_rfl) ?_
    simp only [Act.put, List.setIfInBounds_toArray, List.set_cons_succ, List.set_cons_zero]
    refine wpFreeD_one rfl (.pointer (some ⟨g0, 2, none⟩)) (fun w1 _ => by kernel_rfl) ?_
    simp only [Act.put, List.setIfInBounds_toArray, List.set_cons_succ, List.set_cons_zero]
    refine wpFreeD_loadW rfl rfl rfl [t, .int .i64 k] (fun w1 h1 => Row.at_part (hRw.out w1 (le_trans (le_drewN _ _) h1)) (partBow_Bridge (s) (.int .i64 j) (t) (.int .i64 k) (.int .i64 fk) (.float .f32 a) (.float .f32 b) (.float .f32 c) (.float .f32 p) (.float .f32 q) (.float .f32 m) (.float .f32 o))) Tryd.underlying34 rfl uinfoRingI rfl ?_
    simp only [Act.put, List.setIfInBounds_toArray, List.set_cons_succ, List.set_cons_zero]
    refine wpFreeD_madeW (by kernel_rfl) (fun b => .slice (some ⟨b, 0, none⟩) 2 2) 34 #[s, .int .i64 j, t, .int .i64 k] (fun w1 => by kernel_rfl) (fun bR => ?_)
    simp only [Act.put, List.setIfInBounds_toArray, List.set_cons_succ, List.set_cons_zero]
    refine wpFreeD_callW (by kernel_rfl) rfl Tryd.func49 (by kernel_rfl) (by kernel_rfl) (args := #[.slice (some ⟨bR, 0, none⟩) 2 2]) (by simp [Act.eval]) (fun v w1 w2 hw hv => hv) (fun w1 hw1 hbe => ?_) ?_
    · obtain ⟨b', e1, hrow⟩ := (hbe ⟨8, Ground.data⟩ (by simp) (by kernel_rfl)).2 rfl
      obtain rfl : bR = b' := by simpa using e1
      refine (s_l04Rings _ _ _ _ w1 (HRD.out bR w1 (le_trans (le_drewN _ _) hw1) hrow) (rg2_ok _ _ _ _ _ _)).mono ?_
      rintro e w2 ⟨rfl, q, rfl⟩
      exact ⟨_, rfl, le_drewN _ _, by simp only [if_true]; rw [rg2_all, hc0.out]⟩
    rintro v ⟨_, _, _, hv⟩
    simp only [if_true] at hv
    subst hv
    simp only [Act.put, List.setIfInBounds_toArray, List.set_cons_succ, List.set_cons_zero]
    refine wpFreeD_one rfl (.bool false) (fun w1 _ => by kernel_rfl) ?_
    simp only [Act.put, List.setIfInBounds_toArray, List.set_cons_succ, List.set_cons_zero]
    refine wpFreeD_skip (by kernel_rfl) ?_
    simp only [Act.put, List.setIfInBounds_toArray, List.set_cons_succ, List.set_cons_zero]
    refine wpFreeD_skip (by kernel_rfl) ?_
    simp only [Act.put, List.setIfInBounds_toArray, List.set_cons_succ, List.set_cons_zero]
    refine wpFreeD_skip (by kernel_rfl) ?_
    simp only [Act.put, List.setIfInBounds_toArray, List.set_cons_succ, List.set_cons_zero]
    refine wpFreeD_skip (by kernel_rfl) ?_
    simp only [Act.put, List.setIfInBounds_toArray, List.set_cons_succ, List.set_cons_zero]
    refine wpFreeD_one rfl (.bool false) (fun w1 _ => by kernel_rfl) ?_
    simp only [Act.put, List.setIfInBounds_toArray, List.set_cons_succ, List.set_cons_zero]
    refine wpFreeD_one rfl (.bool false) (fun w1 _ => by kernel_rfl) ?_
    simp only [Act.put, List.setIfInBounds_toArray, List.set_cons_succ, List.set_cons_zero]
    refine wpFreeD_skip (by kernel_rfl) ?_
    simp only [Act.put, List.setIfInBounds_toArray, List.set_cons_succ, List.set_cons_zero]
    refine wpFreeD_skip (by kernel_rfl) ?_
    simp only [Act.put, List.setIfInBounds_toArray, List.set_cons_succ, List.set_cons_zero]
    refine wpFreeD_skip (by kernel_rfl) ?_
    simp only [Act.put, List.setIfInBounds_toArray, List.set_cons_succ, List.set_cons_zero]
    refine wpFreeD_skip (by kernel_rfl) ?_
    simp only [Act.put, List.setIfInBounds_toArray, List.set_cons_succ, List.set_cons_zero]
    refine wpFreeD_skip (by kernel_rfl) ?_
    simp only [Act.put, List.setIfInBounds_toArray, List.set_cons_succ, List.set_cons_zero]
    refine wpFreeD_skip (by kernel_rfl) ?_
    simp only [Act.put, List.setIfInBounds_toArray, List.set_cons_succ, List.set_cons_zero]
    refine wpFreeD_one rfl (.bool false) (fun w1 _ => by kernel_rfl) ?_
    simp only [Act.put, List.setIfInBounds_toArray, List.set_cons_succ, List.set_cons_zero]
    refine wpFreeD_one rfl (.bool false) (fun w1 _ => by kernel_rfl) ?_
    simp only [Act.put, List.setIfInBounds_toArray, List.set_cons_succ, List.set_cons_zero]
    refine wpFreeD_skip (by kernel_rfl) ?_
    simp only [Act.put, List.setIfInBounds_toArray, List.set_cons_succ, List.set_cons_zero]
    refine wpFreeD_skip (by kernel_rfl) ?_
    simp only [Act.put, List.setIfInBounds_toArray, List.set_cons_succ, List.set_cons_zero]
    refine wpFreeD_skip (by kernel_rfl) ?_
    simp only [Act.put, List.setIfInBounds_toArray, List.set_cons_succ, List.set_cons_zero]
    refine wpFreeD_skip (by kernel_rfl) ?_
    simp only [Act.put, List.setIfInBounds_toArray, List.set_cons_succ, List.set_cons_zero]
    refine wpFreeD_skip (by kernel_rfl) ?_
    simp only [Act.put, List.setIfInBounds_toArray, List.set_cons_succ, List.set_cons_zero]
    refine wpFreeD_skip (by kernel_rfl) ?_
    simp only [Act.put, List.setIfInBounds_toArray, List.set_cons_succ, List.set_cons_zero]
    refine wpFreeD_skip (by kernel_rfl) ?_
    simp only [Act.put, List.setIfInBounds_toArray, List.set_cons_succ, List.set_cons_zero]
    refine wpFreeD_skip (by kernel_rfl) ?_
    simp only [Act.put, List.setIfInBounds_toArray, List.set_cons_succ, List.set_cons_zero]
    refine wpFreeD_skip (by kernel_rfl) ?_
    simp only [Act.put, List.setIfInBounds_toArray, List.set_cons_succ, List.set_cons_zero]
    refine wpFreeD_skip (by kernel_rfl) ?_
    simp only [Act.put, List.setIfInBounds_toArray, List.set_cons_succ, List.set_cons_zero]
    refine wpFreeD_one rfl (.bool false) (fun w1 _ => by kernel_rfl) ?_
    simp only [Act.put, List.setIfInBounds_toArray, List.set_cons_succ, List.set_cons_zero]
    refine wpFreeD_one rfl (.bool false) (fun w1 _ => by kernel_rfl) ?_
    simp only [Act.put, List.setIfInBounds_toArray, List.set_cons_succ, List.set_cons_zero]
    refine wpFreeD_nil (fun wR hwR _ => ?_)
    have HL := hid (le_trans (le_drewN _ _) hwR)
    clear hwR
    go_wp2
    go_ret
    exact ⟨ret_b E.out.symm, HL.out⟩
  · have hc0 := hid h0; clear h0
    rcases bool_ft (okF fk a b c p q) with h1 | h1
    · have hc1 := hid h1
      have E := hid (show ((fk == 1) && okF fk a b c p q && rngB x nx j && rngB y ny k && finB (two m o) 2) = false by simp [h1])
      clear h1
      go_enter Tryd.func22, Tryd.ntmps22
      go_wp2_with fail
      refine region_freeD (E := leX) (fun f args _ v => if f = 49 then v = .bool true else if f = 50 then (args = #[.pointer (some ⟨g0, 4, none⟩)] → v = .bool false) else v = .bool (finB (two m o) 2)) (by kernel_rfl) (by kernel_rfl) ?_
      refine wpFreeD_one rfl (.pointer (some ⟨g0, 0, none⟩)) (fun w1 _ => by kernel_rfl) ?_
      simp only [Act.put, List.setIfInBounds_toArray, List.set_cons_succ, List.set_cons_zero]
      refine wpFreeD_one rfl (.pointer (some ⟨g0, 0, none⟩)) (fun w1 _ => by kernel_rfl) ?_
      simp only [Act.put, List.setIfInBounds_toArray, List.set_cons_succ, List.set_cons_zero]
      refine wpFreeD_one rfl (.pointer (some ⟨g0, 0, none⟩)) (fun w1 _ => by kernel_rfl) ?_
      simp only [Act.put, List.setIfInBounds_toArray, List.set_cons_succ, List.set_cons_zero]
      refine wpFreeD_loadW rfl rfl rfl [s, .int .i64 j] (fun w1 h1 => Row.at_part (hRw.out w1 (le_trans (le_drewN _ _) h1)) (partBow_Neck (s) (.int .i64 j) (t) (.int .i64 k) (.int .i64 fk) (.float .f32 a) (.float .f32 b) (.float .f32 c) (.float .f32 p) (.float .f32 q) (.float .f32 m) (.float .f32 o))) Tryd.underlying34 rfl uinfoRingI rfl ?_
      simp only [Act.put, List.setIfInBounds_toArray, List.set_cons_succ, List.set_cons_zero]
      refine wpFreeD_one rfl (.pointer (some ⟨g0, 0, none⟩)) (fun w1 _ => by kernel_rfl) ?_
      simp only [Act.put, List.setIfInBounds_toArray, List.set_cons_succ, List.set_cons_zero]
      refine wpFreeD_one rfl (.pointer (some ⟨g0, 0, none⟩)) (fun w1 _ => by kernel_rfl) ?_
      simp only [Act.put, List.setIfInBounds_toArray, List.set_cons_succ, List.set_cons_zero]
      refine wpFreeD_one rfl (.pointer (some ⟨g0, 2, none⟩)) (fun w1 _ => by kernel_rfl) ?_
      simp only [Act.put, List.setIfInBounds_toArray, List.set_cons_succ, List.set_cons_zero]
      refine wpFreeD_loadW rfl rfl rfl [t, .int .i64 k] (fun w1 h1 => Row.at_part (hRw.out w1 (le_trans (le_drewN _ _) h1)) (partBow_Bridge (s) (.int .i64 j) (t) (.int .i64 k) (.int .i64 fk) (.float .f32 a) (.float .f32 b) (.float .f32 c) (.float .f32 p) (.float .f32 q) (.float .f32 m) (.float .f32 o))) Tryd.underlying34 rfl uinfoRingI rfl ?_
      simp only [Act.put, List.setIfInBounds_toArray, List.set_cons_succ, List.set_cons_zero]
      refine wpFreeD_madeW (by kernel_rfl) (fun b => .slice (some ⟨b, 0, none⟩) 2 2) 34 #[s, .int .i64 j, t, .int .i64 k] (fun w1 => by kernel_rfl) (fun bR => ?_)
      simp only [Act.put, List.setIfInBounds_toArray, List.set_cons_succ, List.set_cons_zero]
      refine wpFreeD_callW (by kernel_rfl) rfl Tryd.func49 (by kernel_rfl) (by kernel_rfl) (args := #[.slice (some ⟨bR, 0, none⟩) 2 2]) (by simp [Act.eval]) (fun v w1 w2 hw hv => hv) (fun w1 hw1 hbe => ?_) ?_
      · obtain ⟨b', e1, hrow⟩ := (hbe ⟨8, Ground.data⟩ (by simp) (by kernel_rfl)).2 rfl
        obtain rfl : bR = b' := by simpa using e1
        refine (s_l04Rings _ _ _ _ w1 (HRD.out bR w1 (le_trans (le_drewN _ _) hw1) hrow) (rg2_ok _ _ _ _ _ _)).mono ?_
        rintro e w2 ⟨rfl, q, rfl⟩
        exact ⟨_, rfl, le_drewN _ _, by simp only [if_true]; rw [rg2_all, hc0.out]⟩
      rintro v ⟨_, _, _, hv⟩
      simp only [if_true] at hv
      subst hv
      simp only [Act.put, List.setIfInBounds_toArray, List.set_cons_succ, List.set_cons_zero]
      refine wpFreeD_one rfl (.bool true) (fun w1 _ => by kernel_rfl) ?_
      simp only [Act.put, List.setIfInBounds_toArray, List.set_cons_succ, List.set_cons_zero]
      refine wpFreeD_oneW (by kernel_rfl) (.pointer (some ⟨g0, 0, none⟩)) (fun w1 _ => by kernel_rfl) ?_
      simp only [Act.put, List.setIfInBounds_toArray, List.set_cons_succ, List.set_cons_zero]
      refine wpFreeD_oneW (by kernel_rfl) (.pointer (some ⟨g0, 0, none⟩)) (fun w1 _ => by kernel_rfl) ?_
      simp only [Act.put, List.setIfInBounds_toArray, List.set_cons_succ, List.set_cons_zero]
      refine wpFreeD_oneW (by kernel_rfl) (.pointer (some ⟨g0, 4, none⟩)) (fun w1 _ => by kernel_rfl) ?_
      simp only [Act.put, List.setIfInBounds_toArray, List.set_cons_succ, List.set_cons_zero]
      refine wpFreeD_callW (by kernel_rfl) rfl Tryd.func50 (by kernel_rfl) (by kernel_rfl) (args := #[.pointer (some ⟨g0, 4, none⟩)]) (by simp [Act.eval]) (fun v w1 w2 hw hv => hv) (fun w1 hw1 _ => (HO0.out w1 (le_trans (le_drewN _ _) hw1)).mono ?_) ?_
      · rintro e w2 ⟨rfl, q, rfl⟩
        exact ⟨_, rfl, le_drewN _ _, by simp only [show ¬ (50 = 49) by decide, if_false, if_true]; simp [hc1.out]⟩
      rintro v ⟨_, _, _, hv⟩
      simp only [show ¬ (50 = 49) by decide, if_false, if_true] at hv
      obtain rfl := hv (by first | rfl | trivial)
      simp only [Act.put, List.setIfInBounds_toArray, List.set_cons_succ, List.set_cons_zero]
      refine wpFreeD_one rfl (.bool false) (fun w1 _ => by kernel_rfl) ?_
      simp only [Act.put, List.setIfInBounds_toArray, List.set_cons_succ, List.set_cons_zero]
      refine wpFreeD_one rfl (.bool false) (fun w1 _ => by kernel_rfl) ?_
      simp only [Act.put, List.setIfInBounds_toArray, List.set_cons_succ, List.set_cons_zero]
      refine wpFreeD_skip (by kernel_rfl) ?_
      simp only [Act.put, List.setIfInBounds_toArray, List.set_cons_succ, List.set_cons_zero]
      refine wpFreeD_skip (by kernel_rfl) ?_
      simp only [Act.put, List.setIfInBounds_toArray, List.set_cons_succ, List.set_cons_zero]
      refine wpFreeD_skip (by kernel_rfl) ?_
      simp only [Act.put, List.setIfInBounds_toArray, List.set_cons_succ, List.set_cons_zero]
      refine wpFreeD_skip (by kernel_rfl) ?_
      simp only [Act.put, List.setIfInBounds_toArray, List.set_cons_succ, List.set_cons_zero]
      refine wpFreeD_skip (by kernel_rfl) ?_
      simp only [Act.put, List.setIfInBounds_toArray, List.set_cons_succ, List.set_cons_zero]
      refine wpFreeD_skip (by kernel_rfl) ?_
      simp only [Act.put, List.setIfInBounds_toArray, List.set_cons_succ, List.set_cons_zero]
      refine wpFreeD_one rfl (.bool false) (fun w1 _ => by kernel_rfl) ?_
      simp only [Act.put, List.setIfInBounds_toArray, List.set_cons_succ, List.set_cons_zero]
      refine wpFreeD_one rfl (.bool false) (fun w1 _ => by kernel_rfl) ?_
      simp only [Act.put, List.setIfInBounds_toArray, List.set_cons_succ, List.set_cons_zero]
      refine wpFreeD_skip (by kernel_rfl) ?_
      simp only [Act.put, List.setIfInBounds_toArray, List.set_cons_succ, List.set_cons_zero]
      refine wpFreeD_skip (by kernel_rfl) ?_
      simp only [Act.put, List.setIfInBounds_toArray, List.set_cons_succ, List.set_cons_zero]
      refine wpFreeD_skip (by kernel_rfl) ?_
      simp only [Act.put, List.setIfInBounds_toArray, List.set_cons_succ, List.set_cons_zero]
      refine wpFreeD_skip (by kernel_rfl) ?_
      simp only [Act.put, List.setIfInBounds_toArray, List.set_cons_succ, List.set_cons_zero]
      refine wpFreeD_skip (by kernel_rfl) ?_
      simp only [Act.put, List.setIfInBounds_toArray, List.set_cons_succ, List.set_cons_zero]
      refine wpFreeD_skip (by kernel_rfl) ?_
      simp only [Act.put, List.setIfInBounds_toArray, List.set_cons_succ, List.set_cons_zero]
      refine wpFreeD_skip (by kernel_rfl) ?_
      simp only [Act.put, List.setIfInBounds_toArray, List.set_cons_succ, List.set_cons_zero]
      refine wpFreeD_skip (by kernel_rfl) ?_
      simp only [Act.put, List.setIfInBounds_toArray, List.set_cons_succ, List.set_cons_zero]
      refine wpFreeD_skip (by kernel_rfl) ?_
      simp only [Act.put, List.setIfInBounds_toArray, List.set_cons_succ, List.set_cons_zero]
      refine wpFreeD_skip (by kernel_rfl) ?_
      simp only [Act.put, List.setIfInBounds_toArray, List.set_cons_succ, List.set_cons_zero]
      refine wpFreeD_one rfl (.bool false) (fun w1 _ => by kernel_rfl) ?_
      simp only [Act.put, List.setIfInBounds_toArray, List.set_cons_succ, List.set_cons_zero]
      refine wpFreeD_one rfl (.bool false) (fun w1 _ => by kernel_rfl) ?_
      simp only [Act.put, List.setIfInBounds_toArray, List.set_cons_succ, List.set_cons_zero]
      refine wpFreeD_nil (fun wR hwR _ => ?_)
      have HL := hid (le_trans (le_drewN _ _) hwR)
      clear hwR
      go_wp2
      go_ret
      exact ⟨ret_b E.out.symm, HL.out⟩
    · have hc1 := hid h1; clear h1
      rcases bool_ft ((fk == 1)) with h2 | h2
      · have hc2 := hid h2
        have E := hid (show ((fk == 1) && okF fk a b c p q && rngB x nx j && rngB y ny k && finB (two m o) 2) = false by simp [h2])
        clear h2
        go_enter Tryd.func22, Tryd.ntmps22
        go_wp2_with fail
        refine region_freeD (E := leX) (fun f args _ v => if f = 49 then v = .bool true else if f = 50 then (args = #[.pointer (some ⟨g0, 4, none⟩)] → v = .bool true) else v = .bool (finB (two m o) 2)) (by kernel_rfl) (by kernel_rfl) ?_
        refine wpFreeD_one rfl (.pointer (some ⟨g0, 0, none⟩)) (fun w1 _ => by kernel_rfl) ?_
        simp only [Act.put, List.setIfInBounds_toArray, List.set_cons_succ, List.set_cons_zero]
        refine wpFreeD_one rfl (.pointer (some ⟨g0, 0, none⟩)) (fun w1 _ => by kernel_rfl) ?_
        simp only [Act.put, List.setIfInBounds_toArray, List.set_cons_succ, List.set_cons_zero]
        refine wpFreeD_one rfl (.pointer (some ⟨g0, 0, none⟩)) (fun w1 _ => by kernel_rfl) ?_
        simp only [Act.put, List.setIfInBounds_toArray, List.set_cons_succ, List.set_cons_zero]
        refine wpFreeD_loadW rfl rfl rfl [s, .int .i64 j] (fun w1 h1 => Row.at_part (hRw.out w1 (le_trans (le_drewN _ _) h1)) (partBow_Neck (s) (.int .i64 j) (t) (.int .i64 k) (.int .i64 fk) (.float .f32 a) (.float .f32 b) (.float .f32 c) (.float .f32 p) (.float .f32 q) (.float .f32 m) (.float .f32 o))) Tryd.underlying34 rfl uinfoRingI rfl ?_
        simp only [Act.put, List.setIfInBounds_toArray, List.set_cons_succ, List.set_cons_zero]
        refine wpFreeD_one rfl (.pointer (some ⟨g0, 0, none⟩)) (fun w1 _ => by kernel_rfl) ?_
        simp only [Act.put, List.setIfInBounds_toArray, List.set_cons_succ, List.set_cons_zero]
        refine wpFreeD_one rfl (.pointer (some ⟨g0, 0, none⟩)) (fun w1 _ => by kernel_rfl) ?_
        simp only [Act.put, List.setIfInBounds_toArray, List.set_cons_succ, List.set_cons_zero]
        refine wpFreeD_one rfl (.pointer (some ⟨g0, 2, none⟩)) (fun w1 _ => by kernel_rfl) ?_
        simp only [Act.put, List.setIfInBounds_toArray, List.set_cons_succ, List.set_cons_zero]
        refine wpFreeD_loadW rfl rfl rfl [t, .int .i64 k] (fun w1 h1 => Row.at_part (hRw.out w1 (le_trans (le_drewN _ _) h1)) (partBow_Bridge (s) (.int .i64 j) (t) (.int .i64 k) (.int .i64 fk) (.float .f32 a) (.float .f32 b) (.float .f32 c) (.float .f32 p) (.float .f32 q) (.float .f32 m) (.float .f32 o))) Tryd.underlying34 rfl uinfoRingI rfl ?_
        simp only [Act.put, List.setIfInBounds_toArray, List.set_cons_succ, List.set_cons_zero]
        refine wpFreeD_madeW (by kernel_rfl) (fun b => .slice (some ⟨b, 0, none⟩) 2 2) 34 #[s, .int .i64 j, t, .int .i64 k] (fun w1 => by kernel_rfl) (fun bR => ?_)
        simp only [Act.put, List.setIfInBounds_toArray, List.set_cons_succ, List.set_cons_zero]
        refine wpFreeD_callW (by kernel_rfl) rfl Tryd.func49 (by kernel_rfl) (by kernel_rfl) (args := #[.slice (some ⟨bR, 0, none⟩) 2 2]) (by simp [Act.eval]) (fun v w1 w2 hw hv => hv) (fun w1 hw1 hbe => ?_) ?_
        · obtain ⟨b', e1, hrow⟩ := (hbe ⟨8, Ground.data⟩ (by simp) (by kernel_rfl)).2 rfl
          obtain rfl : bR = b' := by simpa using e1
          refine (s_l04Rings _ _ _ _ w1 (HRD.out bR w1 (le_trans (le_drewN _ _) hw1) hrow) (rg2_ok _ _ _ _ _ _)).mono ?_
          rintro e w2 ⟨rfl, q, rfl⟩
          exact ⟨_, rfl, le_drewN _ _, by simp only [if_true]; rw [rg2_all, hc0.out]⟩
        rintro v ⟨_, _, _, hv⟩
        simp only [if_true] at hv
        subst hv
        simp only [Act.put, List.setIfInBounds_toArray, List.set_cons_succ, List.set_cons_zero]
        refine wpFreeD_one rfl (.bool true) (fun w1 _ => by kernel_rfl) ?_
        simp only [Act.put, List.setIfInBounds_toArray, List.set_cons_succ, List.set_cons_zero]
        refine wpFreeD_oneW (by kernel_rfl) (.pointer (some ⟨g0, 0, none⟩)) (fun w1 _ => by kernel_rfl) ?_
        simp only [Act.put, List.setIfInBounds_toArray, List.set_cons_succ, List.set_cons_zero]
        refine wpFreeD_oneW (by kernel_rfl) (.pointer (some ⟨g0, 0, none⟩)) (fun w1 _ => by kernel_rfl) ?_
        simp only [Act.put, List.setIfInBounds_toArray, List.set_cons_succ, List.set_cons_zero]
        refine wpFreeD_oneW (by kernel_rfl) (.pointer (some ⟨g0, 4, none⟩)) (fun w1 _ => by kernel_rfl) ?_
        simp only [Act.put, List.setIfInBounds_toArray, List.set_cons_succ, List.set_cons_zero]
        refine wpFreeD_callW (by kernel_rfl) rfl Tryd.func50 (by kernel_rfl) (by kernel_rfl) (args := #[.pointer (some ⟨g0, 4, none⟩)]) (by simp [Act.eval]) (fun v w1 w2 hw hv => hv) (fun w1 hw1 _ => (HO0.out w1 (le_trans (le_drewN _ _) hw1)).mono ?_) ?_
        · rintro e w2 ⟨rfl, q, rfl⟩
          exact ⟨_, rfl, le_drewN _ _, by simp only [show ¬ (50 = 49) by decide, if_false, if_true]; simp [hc1.out]⟩
        rintro v ⟨_, _, _, hv⟩
        simp only [show ¬ (50 = 49) by decide, if_false, if_true] at hv
        obtain rfl := hv (by first | rfl | trivial)
        simp only [Act.put, List.setIfInBounds_toArray, List.set_cons_succ, List.set_cons_zero]
        refine wpFreeD_one rfl (.bool true) (fun w1 _ => by kernel_rfl) ?_
        simp only [Act.put, List.setIfInBounds_toArray, List.set_cons_succ, List.set_cons_zero]
        refine wpFreeD_one rfl (.bool true) (fun w1 _ => by kernel_rfl) ?_
        simp only [Act.put, List.setIfInBounds_toArray, List.set_cons_succ, List.set_cons_zero]
        refine wpFreeD_oneW (by kernel_rfl) (.pointer (some ⟨g0, 0, none⟩)) (fun w1 _ => by kernel_rfl) ?_
        simp only [Act.put, List.setIfInBounds_toArray, List.set_cons_succ, List.set_cons_zero]
        refine wpFreeD_oneW (by kernel_rfl) (.pointer (some ⟨g0, 0, none⟩)) (fun w1 _ => by kernel_rfl) ?_
        simp only [Act.put, List.setIfInBounds_toArray, List.set_cons_succ, List.set_cons_zero]
        refine wpFreeD_oneW (by kernel_rfl) (.pointer (some ⟨g0, 4, none⟩)) (fun w1 _ => by kernel_rfl) ?_
        simp only [Act.put, List.setIfInBounds_toArray, List.set_cons_succ, List.set_cons_zero]
        refine wpFreeD_oneW (by kernel_rfl) (.pointer (some ⟨g0, 4, none⟩)) (fun w1 _ => by kernel_rfl) ?_
        simp only [Act.put, List.setIfInBounds_toArray, List.set_cons_succ, List.set_cons_zero]
        refine wpFreeD_load1W (by kernel_rfl) rfl rfl (p := ⟨g0, 4, none⟩) (fun w1 h1 => (hRw.out w1 (le_trans (le_drewN _ _) h1)).cell? 4) ukindInt64 ?_
        simp only [Act.put, List.setIfInBounds_toArray, List.set_cons_succ, List.set_cons_zero]
        refine wpFreeD_oneW (by kernel_rfl) (.bool (fk == 1)) (fun w1 _ => by kernel_rfl) ?_
        simp only [Act.put, List.setIfInBounds_toArray, List.set_cons_succ, List.set_cons_zero]
        rw [hc2.out]
        refine wpFreeD_one rfl (.bool false) (fun w1 _ => by kernel_rfl) ?_
        simp only [Act.put, List.setIfInBounds_toArray, List.set_cons_succ, List.set_cons_zero]
        refine wpFreeD_one rfl (.bool false) (fun w1 _ => by kernel_rfl) ?_
        simp only [Act.put, List.setIfInBounds_toArray, List.set_cons_succ, List.set_cons_zero]
        refine wpFreeD_skip (by kernel_rfl) ?_
        simp only [Act.put, List.setIfInBounds_toArray, List.set_cons_succ, List.set_cons_zero]
        refine wpFreeD_skip (by kernel_rfl) ?_
        simp only [Act.put, List.setIfInBounds_toArray, List.set_cons_succ, List.set_cons_zero]
        refine wpFreeD_skip (by kernel_rfl) ?_
        simp only [Act.put, List.setIfInBounds_toArray, List.set_cons_succ, List.set_cons_zero]
        refine wpFreeD_skip (by kernel_rfl) ?_
        simp only [Act.put, List.setIfInBounds_toArray, List.set_cons_succ, List.set_cons_zero]
        refine wpFreeD_skip (by kernel_rfl) ?_
        simp only [Act.put, List.setIfInBounds_toArray, List.set_cons_succ, List.set_cons_zero]
        refine wpFreeD_skip (by kernel_rfl) ?_
        simp only [Act.put, List.setIfInBounds_toArray, List.set_cons_succ, List.set_cons_zero]
        refine wpFreeD_skip (by kernel_rfl) ?_
        simp only [Act.put, List.setIfInBounds_toArray, List.set_cons_succ, List.set_cons_zero]
        refine wpFreeD_skip (by kernel_rfl) ?_
        simp only [Act.put, List.setIfInBounds_toArray, List.set_cons_succ, List.set_cons_zero]
        refine wpFreeD_skip (by kernel_rfl) ?_
        simp only [Act.put, List.setIfInBounds_toArray, List.set_cons_succ, List.set_cons_zero]
        refine wpFreeD_skip (by kernel_rfl) ?_
        simp only [Act.put, List.setIfInBounds_toArray, List.set_cons_succ, List.set_cons_zero]
        refine wpFreeD_one rfl (.bool false) (fun w1 _ => by kernel_rfl) ?_
        simp only [Act.put, List.setIfInBounds_toArray, List.set_cons_succ, List.set_cons_zero]
        refine wpFreeD_one rfl (.bool false) (fun w1 _ => by kernel_rfl) ?_
        simp only [Act.put, List.setIfInBounds_toArray, List.set_cons_succ, List.set_cons_zero]
        refine wpFreeD_nil (fun wR hwR _ => ?_)
        have HL := hid (le_trans (le_drewN _ _) hwR)
        clear hwR
        go_wp2
        go_ret
        exact ⟨ret_b E.out.symm, HL.out⟩
      · have hc2 := hid h2; clear h2
        have E := hid (show ((fk == 1) && okF fk a b c p q && rngB x nx j && rngB y ny k && finB (two m o) 2) = finB (two m o) 2 by have h0' := hc0.out; simp only [Bool.and_eq_true] at h0'; simp [h0'.1, h0'.2, hc1.out, hc2.out])
        go_enter Tryd.func22, Tryd.ntmps22
        go_wp2_with fail
        refine region_freeD (E := leX) (fun f args _ v => if f = 49 then v = .bool true else if f = 50 then (args = #[.pointer (some ⟨g0, 4, none⟩)] → v = .bool true) else v = .bool (finB (two m o) 2)) (by kernel_rfl) (by kernel_rfl) ?_
        refine wpFreeD_one rfl (.pointer (some ⟨g0, 0, none⟩)) (fun w1 _ => by kernel_rfl) ?_
        simp only [Act.put, List.setIfInBounds_toArray, List.set_cons_succ, List.set_cons_zero]
        refine wpFreeD_one rfl (.pointer (some ⟨g0, 0, none⟩)) (fun w1 _ => by kernel_rfl) ?_
        simp only [Act.put, List.setIfInBounds_toArray, List.set_cons_succ, List.set_cons_zero]
        refine wpFreeD_one rfl (.pointer (some ⟨g0, 0, none⟩)) (fun w1 _ => by kernel_rfl) ?_
        simp only [Act.put, List.setIfInBounds_toArray, List.set_cons_succ, List.set_cons_zero]
        refine wpFreeD_loadW rfl rfl rfl [s, .int .i64 j] (fun w1 h1 => Row.at_part (hRw.out w1 (le_trans (le_drewN _ _) h1)) (partBow_Neck (s) (.int .i64 j) (t) (.int .i64 k) (.int .i64 fk) (.float .f32 a) (.float .f32 b) (.float .f32 c) (.float .f32 p) (.float .f32 q) (.float .f32 m) (.float .f32 o))) Tryd.underlying34 rfl uinfoRingI rfl ?_
        simp only [Act.put, List.setIfInBounds_toArray, List.set_cons_succ, List.set_cons_zero]
        refine wpFreeD_one rfl (.pointer (some ⟨g0, 0, none⟩)) (fun w1 _ => by kernel_rfl) ?_
        simp only [Act.put, List.setIfInBounds_toArray, List.set_cons_succ, List.set_cons_zero]
        refine wpFreeD_one rfl (.pointer (some ⟨g0, 0, none⟩)) (fun w1 _ => by kernel_rfl) ?_
        simp only [Act.put, List.setIfInBounds_toArray, List.set_cons_succ, List.set_cons_zero]
        refine wpFreeD_one rfl (.pointer (some ⟨g0, 2, none⟩)) (fun w1 _ => by kernel_rfl) ?_
        simp only [Act.put, List.setIfInBounds_toArray, List.set_cons_succ, List.set_cons_zero]
        refine wpFreeD_loadW rfl rfl rfl [t, .int .i64 k] (fun w1 h1 => Row.at_part (hRw.out w1 (le_trans (le_drewN _ _) h1)) (partBow_Bridge (s) (.int .i64 j) (t) (.int .i64 k) (.int .i64 fk) (.float .f32 a) (.float .f32 b) (.float .f32 c) (.float .f32 p) (.float .f32 q) (.float .f32 m) (.float .f32 o))) Tryd.underlying34 rfl uinfoRingI rfl ?_
        simp only [Act.put, List.setIfInBounds_toArray, List.set_cons_succ, List.set_cons_zero]
        refine wpFreeD_madeW (by kernel_rfl) (fun b => .slice (some ⟨b, 0, none⟩) 2 2) 34 #[s, .int .i64 j, t, .int .i64 k] (fun w1 => by kernel_rfl) (fun bR => ?_)
        simp only [Act.put, List.setIfInBounds_toArray, List.set_cons_succ, List.set_cons_zero]
        refine wpFreeD_callW (by kernel_rfl) rfl Tryd.func49 (by kernel_rfl) (by kernel_rfl) (args := #[.slice (some ⟨bR, 0, none⟩) 2 2]) (by simp [Act.eval]) (fun v w1 w2 hw hv => hv) (fun w1 hw1 hbe => ?_) ?_
        · obtain ⟨b', e1, hrow⟩ := (hbe ⟨8, Ground.data⟩ (by simp) (by kernel_rfl)).2 rfl
          obtain rfl : bR = b' := by simpa using e1
          refine (s_l04Rings _ _ _ _ w1 (HRD.out bR w1 (le_trans (le_drewN _ _) hw1) hrow) (rg2_ok _ _ _ _ _ _)).mono ?_
          rintro e w2 ⟨rfl, q, rfl⟩
          exact ⟨_, rfl, le_drewN _ _, by simp only [if_true]; rw [rg2_all, hc0.out]⟩
        rintro v ⟨_, _, _, hv⟩
        simp only [if_true] at hv
        subst hv
        simp only [Act.put, List.setIfInBounds_toArray, List.set_cons_succ, List.set_cons_zero]
        refine wpFreeD_one rfl (.bool true) (fun w1 _ => by kernel_rfl) ?_
        simp only [Act.put, List.setIfInBounds_toArray, List.set_cons_succ, List.set_cons_zero]
        refine wpFreeD_oneW (by kernel_rfl) (.pointer (some ⟨g0, 0, none⟩)) (fun w1 _ => by kernel_rfl) ?_
        simp only [Act.put, List.setIfInBounds_toArray, List.set_cons_succ, List.set_cons_zero]
        refine wpFreeD_oneW (by kernel_rfl) (.pointer (some ⟨g0, 0, none⟩)) (fun w1 _ => by kernel_rfl) ?_
        simp only [Act.put, List.setIfInBounds_toArray, List.set_cons_succ, List.set_cons_zero]
        refine wpFreeD_oneW (by kernel_rfl) (.pointer (some ⟨g0, 4, none⟩)) (fun w1 _ => by kernel_rfl) ?_
        simp only [Act.put, List.setIfInBounds_toArray, List.set_cons_succ, List.set_cons_zero]
        refine wpFreeD_callW (by kernel_rfl) rfl Tryd.func50 (by kernel_rfl) (by kernel_rfl) (args := #[.pointer (some ⟨g0, 4, none⟩)]) (by simp [Act.eval]) (fun v w1 w2 hw hv => hv) (fun w1 hw1 _ => (HO0.out w1 (le_trans (le_drewN _ _) hw1)).mono ?_) ?_
        · rintro e w2 ⟨rfl, q, rfl⟩
          exact ⟨_, rfl, le_drewN _ _, by simp only [show ¬ (50 = 49) by decide, if_false, if_true]; simp [hc1.out]⟩
        rintro v ⟨_, _, _, hv⟩
        simp only [show ¬ (50 = 49) by decide, if_false, if_true] at hv
        obtain rfl := hv (by first | rfl | trivial)
        simp only [Act.put, List.setIfInBounds_toArray, List.set_cons_succ, List.set_cons_zero]
        refine wpFreeD_one rfl (.bool true) (fun w1 _ => by kernel_rfl) ?_
        simp only [Act.put, List.setIfInBounds_toArray, List.set_cons_succ, List.set_cons_zero]
        refine wpFreeD_one rfl (.bool true) (fun w1 _ => by kernel_rfl) ?_
        simp only [Act.put, List.setIfInBounds_toArray, List.set_cons_succ, List.set_cons_zero]
        refine wpFreeD_oneW (by kernel_rfl) (.pointer (some ⟨g0, 0, none⟩)) (fun w1 _ => by kernel_rfl) ?_
        simp only [Act.put, List.setIfInBounds_toArray, List.set_cons_succ, List.set_cons_zero]
        refine wpFreeD_oneW (by kernel_rfl) (.pointer (some ⟨g0, 0, none⟩)) (fun w1 _ => by kernel_rfl) ?_
        simp only [Act.put, List.setIfInBounds_toArray, List.set_cons_succ, List.set_cons_zero]
        refine wpFreeD_oneW (by kernel_rfl) (.pointer (some ⟨g0, 4, none⟩)) (fun w1 _ => by kernel_rfl) ?_
        simp only [Act.put, List.setIfInBounds_toArray, List.set_cons_succ, List.set_cons_zero]
        refine wpFreeD_oneW (by kernel_rfl) (.pointer (some ⟨g0, 4, none⟩)) (fun w1 _ => by kernel_rfl) ?_
        simp only [Act.put, List.setIfInBounds_toArray, List.set_cons_succ, List.set_cons_zero]
        refine wpFreeD_load1W (by kernel_rfl) rfl rfl (p := ⟨g0, 4, none⟩) (fun w1 h1 => (hRw.out w1 (le_trans (le_drewN _ _) h1)).cell? 4) ukindInt64 ?_
        simp only [Act.put, List.setIfInBounds_toArray, List.set_cons_succ, List.set_cons_zero]
        refine wpFreeD_oneW (by kernel_rfl) (.bool (fk == 1)) (fun w1 _ => by kernel_rfl) ?_
        simp only [Act.put, List.setIfInBounds_toArray, List.set_cons_succ, List.set_cons_zero]
        rw [hc2.out]
        refine wpFreeD_one rfl (.bool true) (fun w1 _ => by kernel_rfl) ?_
        simp only [Act.put, List.setIfInBounds_toArray, List.set_cons_succ, List.set_cons_zero]
        refine wpFreeD_one rfl (.bool true) (fun w1 _ => by kernel_rfl) ?_
        simp only [Act.put, List.setIfInBounds_toArray, List.set_cons_succ, List.set_cons_zero]
        refine wpFreeD_oneW (by kernel_rfl) (.pointer (some ⟨g0, 0, none⟩)) (fun w1 _ => by kernel_rfl) ?_
        simp only [Act.put, List.setIfInBounds_toArray, List.set_cons_succ, List.set_cons_zero]
        refine wpFreeD_oneW (by kernel_rfl) (.pointer (some ⟨g0, 0, none⟩)) (fun w1 _ => by kernel_rfl) ?_
        simp only [Act.put, List.setIfInBounds_toArray, List.set_cons_succ, List.set_cons_zero]
        refine wpFreeD_oneW (by kernel_rfl) (.pointer (some ⟨g0, 10, none⟩)) (fun w1 _ => by kernel_rfl) ?_
        simp only [Act.put, List.setIfInBounds_toArray, List.set_cons_succ, List.set_cons_zero]
        refine wpFreeD_load1W (by kernel_rfl) rfl rfl (p := ⟨g0, 10, none⟩) (fun w1 h1 => (hRw.out w1 (le_trans (le_drewN _ _) h1)).cell? 10) ukindFloat32 ?_
        simp only [Act.put, List.setIfInBounds_toArray, List.set_cons_succ, List.set_cons_zero]
        refine wpFreeD_oneW (by kernel_rfl) (.pointer (some ⟨g0, 0, none⟩)) (fun w1 _ => by kernel_rfl) ?_
        simp only [Act.put, List.setIfInBounds_toArray, List.set_cons_succ, List.set_cons_zero]
        refine wpFreeD_oneW (by kernel_rfl) (.pointer (some ⟨g0, 0, none⟩)) (fun w1 _ => by kernel_rfl) ?_
        simp only [Act.put, List.setIfInBounds_toArray, List.set_cons_succ, List.set_cons_zero]
        refine wpFreeD_oneW (by kernel_rfl) (.pointer (some ⟨g0, 11, none⟩)) (fun w1 _ => by kernel_rfl) ?_
        simp only [Act.put, List.setIfInBounds_toArray, List.set_cons_succ, List.set_cons_zero]
        refine wpFreeD_load1W (by kernel_rfl) rfl rfl (p := ⟨g0, 11, none⟩) (fun w1 h1 => (hRw.out w1 (le_trans (le_drewN _ _) h1)).cell? 11) ukindFloat32 ?_
        simp only [Act.put, List.setIfInBounds_toArray, List.set_cons_succ, List.set_cons_zero]
        refine wpFreeD_madeW (by kernel_rfl) (fun b => .slice (some ⟨b, 0, none⟩) 2 2) 25 #[.float .f32 m, .float .f32 o] (fun w1 => by kernel_rfl) (fun bN => ?_)
        simp only [Act.put, List.setIfInBounds_toArray, List.set_cons_succ, List.set_cons_zero]
        refine wpFreeD_callW (by kernel_rfl) rfl Tryd.func51 (by kernel_rfl) (by kernel_rfl) (args := #[.slice (some ⟨bN, 0, none⟩) 2 2]) (by simp [Act.eval]) (fun v w1 w2 hw hv => hv) (fun w1 hw1 hbe => ?_) ?_
        · obtain ⟨b', e1, hrow⟩ := (hbe ⟨33, Ground.data⟩ (by simp) (by kernel_rfl)).2 rfl
          obtain rfl : bN = b' := by simpa using e1
          refine (HN.out bN w1 hrow).mono ?_
          rintro e w2 ⟨rfl, q, rfl⟩
          exact ⟨_, rfl, le_drewN _ _, by simp only [show ¬ (51 = 49) by decide, show ¬ (51 = 50) by decide, if_false]⟩
        rintro v ⟨_, _, _, hv⟩
        simp only [show ¬ (51 = 49) by decide, show ¬ (51 = 50) by decide, if_false] at hv
        subst hv
        simp only [Act.put, List.setIfInBounds_toArray, List.set_cons_succ, List.set_cons_zero]
        refine wpFreeD_one rfl (.bool (finB (two m o) 2)) (fun w1 _ => by kernel_rfl) ?_
        simp only [Act.put, List.setIfInBounds_toArray, List.set_cons_succ, List.set_cons_zero]
        refine wpFreeD_one rfl (.bool (finB (two m o) 2)) (fun w1 _ => by kernel_rfl) ?_
        simp only [Act.put, List.setIfInBounds_toArray, List.set_cons_succ, List.set_cons_zero]
        refine wpFreeD_nil (fun wR hwR _ => ?_)
        have HL := hid (le_trans (le_drewN _ _) hwR)
        clear hwR
        go_wp2
        go_ret
        exact ⟨ret_b E.out.symm, HL.out⟩
theorem bow_data {cs : List CD} (h : HasShL shBow cs) : ∃ (xs ys : Nat → CD) (nx ny : Nat) (j k : Int) (fk : Int) (a b c p q : Nat) (m o : Nat), cs = [.sl 1 nx xs, .int .i64 j, .sl 1 ny ys, .int .i64 k, .int .i64 fk, .flt .f32 a, .flt .f32 b, .flt .f32 c, .flt .f32 p, .flt .f32 q, .flt .f32 m, .flt .f32 o] ∧ (∀ i, i < nx → (xs i).flk = some .f32) ∧ (∀ i, i < ny → (ys i).flk = some .f32) := by
  obtain ⟨c0, cs, rfl, q0, h⟩ := h.inv
  obtain ⟨c1, cs, rfl, q1, h⟩ := h.inv
  obtain ⟨c2, cs, rfl, q2, h⟩ := h.inv
  obtain ⟨c3, cs, rfl, q3, h⟩ := h.inv
  obtain ⟨c4, cs, rfl, q4, h⟩ := h.inv
  obtain ⟨c5, cs, rfl, q5, h⟩ := h.inv
  obtain ⟨c6, cs, rfl, q6, h⟩ := h.inv
  obtain ⟨c7, cs, rfl, q7, h⟩ := h.inv
  obtain ⟨c8, cs, rfl, q8, h⟩ := h.inv
  obtain ⟨c9, cs, rfl, q9, h⟩ := h.inv
  obtain ⟨c10, cs, rfl, q10, h⟩ := h.inv
  obtain ⟨c11, cs, rfl, q11, h⟩ := h.inv
  obtain rfl := h.inv0
  obtain ⟨nx, xs, rfl, r0⟩ := q0
  obtain ⟨ny, ys, rfl, r2⟩ := q2
  obtain ⟨j, rfl⟩ := q1
  obtain ⟨k, rfl⟩ := q3
  obtain ⟨fk, rfl⟩ := q4
  obtain ⟨a, rfl⟩ := q5
  obtain ⟨b, rfl⟩ := q6
  obtain ⟨c, rfl⟩ := q7
  obtain ⟨p, rfl⟩ := q8
  obtain ⟨q, rfl⟩ := q9
  obtain ⟨m, rfl⟩ := q10
  obtain ⟨o, rfl⟩ := q11
  exact ⟨xs, ys, nx, ny, j, k, fk, a, b, c, p, q, m, o, rfl, fun i hi => ShOk.flts (fun i hi j hj => (r0 i hi j hj).ok) rfl i hi, fun i hi => ShOk.flts (fun i hi j hj => (r2 i hi j hj).ok) rfl i hi⟩
theorem bow_open {xs ys : Nat → CD} {nx ny : Nat} {j k : Int} {fk : Int} {a b c p q : Nat} {m o : Nat} {w : World} {B : Nat} {u : List Value} (h : RdLN w B (([.sl 1 nx xs, .int .i64 j, .sl 1 ny ys, .int .i64 k, .int .i64 fk, .flt .f32 a, .flt .f32 b, .flt .f32 c, .flt .f32 p, .flt .f32 q, .flt .f32 m, .flt .f32 o] : List CD).map CD.cp) u) (hx : ∀ i, i < nx → (xs i).flk = some .f32) (hy : ∀ i, i < ny → (ys i).flk = some .f32) : ∃ s t : Value, u = [s, .int .i64 j, t, .int .i64 k, .int .i64 fk, .float .f32 a, .float .f32 b, .float .f32 c, .float .f32 p, .float .f32 q, .float .f32 m, .float .f32 o] ∧ (slT (fun i => (xs i).fx) nx).RdN w B s ∧ (slT (fun i => (ys i).fx) ny).RdN w B t ∧ ((Lit.int .i64 j).wf = true ∧ (Lit.int .i64 k).wf = true) ∧ (fits .f32 a ∧ fits .f32 b ∧ fits .f32 c ∧ fits .f32 p ∧ fits .f32 q ∧ fits .f32 m ∧ fits .f32 o) := by
  simp only [List.map_cons, List.map_nil] at h
  obtain ⟨v0, u0, rfl, q0, hh0⟩ := h.inv
  obtain ⟨v1, u1, rfl, q1, hh1⟩ := hh0.inv
  obtain ⟨v2, u2, rfl, q2, hh2⟩ := hh1.inv
  obtain ⟨v3, u3, rfl, q3, hh3⟩ := hh2.inv
  obtain ⟨v4, u4, rfl, q4, hh4⟩ := hh3.inv
  obtain ⟨v5, u5, rfl, q5, hh5⟩ := hh4.inv
  obtain ⟨v6, u6, rfl, q6, hh6⟩ := hh5.inv
  obtain ⟨v7, u7, rfl, q7, hh7⟩ := hh6.inv
  obtain ⟨v8, u8, rfl, q8, hh8⟩ := hh7.inv
  obtain ⟨v9, u9, rfl, q9, hh9⟩ := hh8.inv
  obtain ⟨v10, u10, rfl, q10, hh10⟩ := hh9.inv
  obtain ⟨v11, u11, rfl, q11, hh11⟩ := hh10.inv
  obtain rfl := hh11.inv0
  obtain ⟨rfl, f1⟩ := q1
  obtain ⟨rfl, f3⟩ := q3
  obtain ⟨rfl, f4⟩ := q4
  obtain ⟨rfl, f5⟩ := q5
  obtain ⟨rfl, f6⟩ := q6
  obtain ⟨rfl, f7⟩ := q7
  obtain ⟨rfl, f8⟩ := q8
  obtain ⟨rfl, f9⟩ := q9
  obtain ⟨rfl, f10⟩ := q10
  obtain ⟨rfl, f11⟩ := q11
  exact ⟨v0, v2, rfl, q0.congr (slT_cp hx), q2.congr (slT_cp hy), ⟨f1, f3⟩, f5, f6, f7, f8, f9, f10, f11⟩
end Go.Proofs.YtjihkfemejhllaaDoor
