/- Texts of the walk, laid in one file. -/
import Derived.Test.YtappbiijmjjpaadMd
set_option linter.unusedVariables false
set_option linter.unusedSimpArgs false
/- Nothing and a number: 0 + x. Nothing here names a program. -/
namespace Go.Fk
open Go Go.RowKit
theorem infRung64 : FloatKind.f64.format.infRung = 9218868437227405312 := by decide
theorem read0_64 : FloatKind.f64.format.read 0 = .number false 0 (-1074) := by decide
theorem add0_inf : fop .add .f64 0 9218868437227405312 = 9218868437227405312 := by decide +kernel
theorem add0_nan : fop .add .f64 0 (qnan .f64) = qnan .f64 := by decide +kernel
theorem read_pos {r : Nat} (h : r < 9218868437227405312) : ∃ m e, FloatKind.f64.format.read r = .number false m e := by
  have e1 : Ieee.double.signWeight = 9223372036854775808 := by decide
  have e2 : Ieee.double.infRung = 9218868437227405312 := by decide
  simp only [FloatKind.format, Ieee.Format.read, e1, e2]
  have h1 : r % 9223372036854775808 = r := Nat.mod_eq_of_lt (by omega)
  rw [h1]
  have h3 : (r / 9223372036854775808 % 2 == 1) = false := by rw [Nat.div_eq_of_lt (by omega)]; rfl
  rw [h3]
  split
  · exact ⟨_, _, rfl⟩
  · exact ⟨_, _, rfl⟩
theorem sign64 : FloatKind.f64.format.signWeight = 9223372036854775808 := by decide
theorem add0_word {r : Nat} (h : r ≤ 9218868437227405312) : fop .add .f64 0 r = r := by
  rcases Nat.lt_or_ge r 9218868437227405312 with hlt | hge
  · obtain ⟨m, e, hr⟩ := read_pos hlt
    have hn : isNan .f64 r = false := by unfold isNan; rw [hr]; rfl
    have hp := read_place hr
    have hw := write_read FloatKind.f64.format (by decide) r hr
    have hm : r % FloatKind.f64.format.signWeight = r := by rw [sign64]; exact Nat.mod_eq_of_lt (by omega)
    rw [hm] at hw
    have hu : (unitOf .f64 : Int) = 1074 := rfl
    rw [hu] at hp
    obtain ⟨j, hj⟩ : ∃ j : Nat, e = -1074 + (j : Int) := ⟨(e + 1074).toNat, by omega⟩
    have hs := nearest_scale FloatKind.f64.format false m j e
    rw [show e - (j : Int) = -1074 by omega] at hs
    have hsum : Ieee.Datum.sum (.number false 0 (-1074)) (.number false m e) = some (.number false (m * 2 ^ j) (-1074)) := by
      unfold Ieee.Datum.sum
      have hb : min (-1074 : Int) e = -1074 := by omega
      simp only [hb, signed_eq]
      have h1 : (e - -1074).toNat = j := by omega
      have h2 : ((if false = true then -((0 : Nat) : Int) else ((0 : Nat) : Int)) * 2 ^ (-1074 - -1074 : Int).toNat + (if false = true then -(m : Int) else (m : Int)) * 2 ^ j) = ((m * 2 ^ j : Nat) : Int) := by simp
      rw [h1, h2]
      have h3 : ¬ ((m * 2 ^ j : Nat) : Int) < 0 := by omega
      simp only [Int.natAbs_natCast, h3, decide_false, Bool.and_false, ite_self]
    have hf : floatBits .add .f64 0 r = some r := by
      simp only [floatBits, Ieee.Format.add, read0_64, hr, hsum, Option.map_some]
      show some (FloatKind.f64.format.nearest false (m * 2 ^ j) (-1074)) = some r
      rw [hs, hw]
      rfl
    unfold fop
    rw [hf]
    exact can_of_not hn
  · obtain rfl : r = 9218868437227405312 := by omega
    exact add0_inf
theorem sq_word (c : Nat) : fop .mul .f64 c c = qnan .f64 ∨ fop .mul .f64 c c ≤ FloatKind.f64.format.infRung := by
  have hw : ∀ x, FloatKind.f64.format.word false x = x := fun _ => rfl
  cases h : floatBits .mul .f64 c c with
  | none => exact .inl (by unfold fop; rw [h])
  | some r =>
    right
    have e : fop .mul .f64 c c = can .f64 r := by unfold fop; rw [h]
    rw [e]
    simp only [floatBits, Ieee.Format.mul] at h
    cases hr : FloatKind.f64.format.read c with
    | nan s t => rw [hr] at h; simp [Ieee.Datum.product] at h
    | infinity s =>
      rw [hr] at h
      simp only [Ieee.Datum.product, Bool.xor_self, Option.map_some, Option.some.injEq, Ieee.Format.write] at h
      rw [← h, can_of_not (infRung_word .f64 false (Nat.le_refl _)), hw]
      exact Nat.le_refl _
    | number s m e =>
      rw [hr] at h
      simp only [Ieee.Datum.product, Bool.xor_self, Option.map_some, Option.some.injEq, Ieee.Format.write] at h
      rw [← h, can_of_not (isNan_nearest .f64 false _ _)]
      unfold Ieee.Format.nearest
      split
      · exact Nat.zero_le _
      · rw [hw]; exact Nat.min_le_right _ _
theorem add0_sq (c : Nat) : fop .add .f64 0 (fop .mul .f64 c c) = fop .mul .f64 c c := by
  rcases sq_word c with h | h
  · rw [h, add0_nan]
  · exact add0_word (infRung64 ▸ h)
end Go.Fk

/- 'EnergyOfPipe'. -/
namespace Go.Fk
open Go Go.RowKit
def Out_di (ar0 : Nat) (ar1 : Int) (w : World) (e : Ending) (w' : World) : Prop := ∃ (v0 : Nat), e = .returned (.tuple #[.float .f64 v0, .int .i64 ar1]) ∧ can .f64 v0 = ar0 ∧ le w w'
def sqW (a : Nat) : Nat := fop .mul .f64 (widen a) (widen a)
/-- The sum of the squares, from left to right. -/
def sumSq (l : List Nat) : Nat := l.foldl (fun s a => fop .add .f64 s (sqW a)) 0
theorem sumSq_snoc (l : List Nat) (a : Nat) : sumSq (l ++ [a]) = fop .add .f64 (sumSq l) (sqW a) := by simp [sumSq]
theorem sumSq_one (a : Nat) : sumSq [a] = sqW a := by
  show fop .add .f64 0 (sqW a) = sqW a
  exact add0_sq _
def ringZ (x y : Nat → CD) (k p : Nat) : List Nat := (List.range p).map (zX x y k)
theorem ringZ_succ (x y : Nat → CD) (k p : Nat) : ringZ x y k (p + 1) = ringZ x y k p ++ [zX x y k p] := by simp [ringZ, List.range_succ]
def concZ (x y : Nat → CD) : Nat → List Nat
  | 0 => []
  | k + 1 => concZ x y k ++ ringZ x y k (zN x y k)
theorem sumSq_step {l : List Nat} {S r m v u x : Nat} (hS : can .f64 S = sumSq l) (hv : can .f64 v = can .f64 (widen u)) (hu : can .f32 u = x) (hm : can .f64 m = fop .mul .f64 v v) (hr : can .f64 r = fop .add .f64 S m) : can .f64 r = sumSq (l ++ [x]) := by
  rw [sumSq_snoc, hr]
  refine fop_congr (by rw [← hS, can_can]) ?_
  rw [hm]
  unfold sqW
  rw [can_fop, ← hu, widen_can]
  exact fop_congr hv hv
theorem bits_ring {x y : Nat → CD} {k n : Nat} {f : Nat → Nat} (hn : zN x y k = n) (h : ∀ i, i < n → can .f32 (f i) = zX x y k i) : ((List.range n).map f).map (can .f32) = ringZ x y k (zN x y k) := by
  rw [hn]
  unfold ringZ
  rw [List.map_map]
  exact List.map_congr_left (fun i hi => h i (List.mem_range.1 hi))
theorem flist_bits (f : Nat → Nat) (n : Nat) : flist f n = ((List.range n).map f).map (Value.float .f32) := by unfold flist; rw [List.map_map]; rfl
end Go.Fk
namespace Go.Proofs.Ytappbiijmjjpaad
open Go.RowKit Go.Fk
set_option maxRecDepth 100000 in
set_option maxHeartbeats 4000000 in
theorem i_energyOf (B : Nat) (v : Value) (nL : Nat) (xR xL : Nat → CD) (w : World) (n1 : 1 ≤ nL) (n2 : nL ≤ 3) (h : Rings w B (2 * nL) (zX xR xL) (zN xR xL) (zK xR xL) v) (h2 : ∀ t, t < 2 * nL → 1 ≤ zN xR xL t ∧ zN xR xL t ≤ 1024) :
    Calls Try.prog 17 #[v] w fun e w' => ∃ S, e = .returned (.float .f64 S) ∧ can .f64 S = sumSq (concZ xR xL (2 * nL)) ∧ le w w' := by
  obtain ⟨q, cap, rfl, hcq, hmq, HA⟩ := h
  replace HA := hid HA
  unfold maxLen at hmq
  have HB := hid h2
  clear h2
  go_enter Try.func17, Try.ntmps17
  go_wp2_with fail
  go_loopw [3, 11] (fun s i wr => ∃ j S : Nat, j ≤ 2 * nL ∧ i = .int .i64 j ∧ s = .float .f64 S ∧ Hid (can .f64 S = sumSq (concZ xR xL j)) ∧ Hid (le w wr)) (fun _ i _ => 2 * nL - (intOf i).toNat)
  case atStart => exact ⟨0, 0, by omega, rfl, rfl, (by decide : can .f64 0 = 0), le_refl _⟩
  case round =>
    obtain ⟨j, S, hj, rfl, rfl, ES, HL3⟩ := hrel
    rename_i wr _
    by_cases hlt : j < 2 * nL
    · obtain ⟨u, d0, d1, hr⟩ := HA.out j hlt
      have hb := HB.out j hlt
      obtain ⟨au, cu, yu, rfl, hcu, hmu, hxu⟩ := hr.raw hb.1
      unfold maxLen at hmu
      have gx : Hid (∀ (i : Nat) (p : Value), [.slice (some au) (zN xR xL j) cu, .int .i64 (zK xR xL j)][i]? = some p → wr.cell? ((⟨q, 0 + j * 2, none⟩ : Addr).add i) = some p) := fun i p hi => by
        rw [add_none, Nat.zero_add]
        match i, hi with
        | 0, hi => simp at hi; subst hi; exact (Below.cell HL3.out (cell_lt' d0)).trans d0
        | 1, hi => simp at hi; subst hi; exact (Below.cell HL3.out (cell_lt' d1)).trans d1
      have ou := hid hr.one
      have HX := hid hxu
      have F := Frg.nil wr
      clear d0 d1 hr hxu
      go_wp2_with (first | (with_reducible refine wpList_indexW0 rfl rfl rfl rfl Try.underlying35 uinfoRingI hlt ?_) | ((with_reducible refine at_loadU (ty := 48) rfl rfl ?_); (with_reducible refine wpList_loadW rfl rfl rfl [.slice (some au) (zN xR xL j) cu, .int .i64 (zK xR xL j)] gx.out Try.underlying48 rfl uinfoRingI rfl ?_)) | ((with_reducible refine at_store rfl ?_); (refine wpList_storeG F rfl rfl rfl rfl rfl uinfoRingI rfl (by first | exact one_head ou.out rfl) ?_; clear F; intro W F zW; clear zW; have cq := (F.row m0).cell? 0)))
      have HL4 := hid (le_trans HL3.out F.below)
      clear F cq gx
      go_loopw [3, 18] (fun s i wv => ∃ p S : Nat, p ≤ zN xR xL j ∧ i = .int .i64 p ∧ s = .float .f64 S ∧ Hid (can .f64 S = sumSq (concZ xR xL j ++ ringZ xR xL j p)) ∧ Hid (le W wv)) (fun _ i _ => zN xR xL j - (intOf i).toNat)
      case atStart => exact ⟨0, S, by omega, rfl, rfl, by show can .f64 S = sumSq (concZ xR xL j ++ []); rw [List.append_nil]; exact ES.out, le_refl _⟩
      case round =>
        obtain ⟨p, S2, hp, rfl, rfl, ES2, HL5⟩ := hrel
        rename_i wv _
        by_cases hlt2 : p < zN xR xL j
        · obtain ⟨z1, z2, z3⟩ := HX.out p hlt2
          have cz := (Below.cell (le_trans HL4.out HL5.out) (cell_lt' z1)).trans z1
          replace z3 := hid z3
          clear z1 z2
          go_wp2_with (first | (with_reducible refine wpList_widen rfl rfl rfl Try.underlying24 Try.underlying32 ?_; intro rv nv hv fv) | (with_reducible refine wpList_farith (op := .mul) rfl rfl rfl rfl rfl ?_; intro rm nm hm fm) | (with_reducible refine wpList_farith (op := .add) rfl rfl rfl rfl rfl ?_; intro ra na ha fa))
          go_roundw
          case rel => exact ⟨p + 1, ra, by omega, by go_num, rfl, by rw [ringZ_succ, ← List.append_assoc]; exact sumSq_step ES2.out hv.out z3.out hm.out ha.out, le_trans HL5.out (by first | exact le_drewN _ _ | exact le_trans (le_drewN _ _) (le_drewN _ _) | exact le_trans (le_drewN _ _) (le_trans (le_drewN _ _) (le_drewN _ _)))⟩
          case measure => simp [intOf]; omega
        · obtain rfl : p = zN xR xL j := by omega
          have HL6 := hid (le_trans HL4.out HL5.out)
          go_wp2
          go_roundw
          case rel => exact ⟨j + 1, S2, by omega, by go_num, rfl, ES2.out, HL6.out⟩
          case measure => simp [intOf]; omega
    · obtain rfl : j = 2 * nL := by omega
      go_wp2
      go_ret
      exact ⟨S, rfl, ES.out, HL3.out⟩
set_option maxRecDepth 100000 in
set_option maxHeartbeats 4000000 in
theorem i_EnergyOfPipe (B : Nat) (v0 v1 v2 : Value) (nR nL nS : Nat) (xR xL : Nat → CD) (yS : Nat → Nat) (k : Int) (a b c x y : Nat) (op : Bool) (l r s : Nat) (w : World) (h0 : (CD.sl 2 nR xR).RdN w B v0) (h1 : (CD.sl 2 nL xL).RdN w B v1) (h2 : RdS w B v2 yS nS) (p0 : RgsOk xR nR) (p1 : RgsOk xL nL) (hf : fits .f32 a ∧ fits .f32 b ∧ fits .f32 c ∧ fits .f32 x ∧ fits .f32 y) (hg : fits .f32 l ∧ fits .f32 r ∧ fits .f32 s) (v : Nat) (d : Int) (h : (okP nR nL nS xR xL yS k a b c x y l r s = false ∧ v = 0 ∧ d = 1) ∨ (okP nR nL nS xR xL yS k a b c x y l r s = true ∧ v = sumSq (concZ xR xL (2 * nR)) ∧ d = 0)) :
    Calls Try.prog 7 #[.agg #[v0, v1, v2, .int .i64 k, .float .f32 a, .float .f32 b, .float .f32 c, .float .f32 x, .float .f32 y, .bool op, .float .f32 l, .float .f32 r, .float .f32 s]] w (Out_di v d w) := by
  have HV := hid (fun (w' : World) (hl : le w w') => i_ValidPipe B v0 v1 v2 nR nL nS xR xL yS k a b c x y op l r s w' (h0.le hl) (h1.le hl) (h2.le hl) p0 p1 hf hg)
  have F := (Frg.nil w).box 38 #[v0, v1, v2, .int .i64 k, .float .f32 a, .float .f32 b, .float .f32 c, .float .f32 x, .float .f32 y, .bool op, .float .f32 l, .float .f32 r, .float .f32 s]
  rcases h with ⟨hv, rfl, rfl⟩ | ⟨hv, rfl, rfl⟩
  · rw [hv] at HV
    clear h0 h1 h2 p0 p1 hf hg hv
    go_enter Try.func7, Try.ntmps7
    go_wp2_with (first | ((with_reducible refine at_loadU rfl rfl ?_); (with_reducible refine wpList_loadG F rfl rfl rfl m0 Try.underlying38 rfl uinfoPipeI rfl ?_)) | (go_at_call 16; ((with_reducible refine (HV.out _ F.below).mono ?_); rintro e w1 ⟨rfl, hl⟩; replace F := F.le hl; clear hl)))
    go_ret2
    exact ⟨_, rfl, by decide, F.below⟩
  · obtain ⟨n1, n2, n3, n4⟩ := okP_parts hv
    rw [hv] at HV
    subst n3
    obtain ⟨b0, o0, k0, rfl, hk0, hm0⟩ := h0.form.resolve_left (fun h => by have := h.2; omega)
    obtain ⟨b1, o1, k1, rfl, hk1, hm1⟩ := h1.form.resolve_left (fun h => by have := h.2; omega)
    unfold maxLen at hm0 hm1
    have HRG := hid (fun (w' : World) (hl : le w w') => i_rings B b0 o0 k0 b1 o1 k1 nL v2 xR xL k a b c x y op l r s w' n1 n2 (h0.le hl) (h1.le hl) p0 p1)
    have HB : Hid (∀ t, t < 2 * nL → 1 ≤ zN xR xL t ∧ zN xR xL t ≤ 1024) := fun t ht => by
      have q := n4 (t / 2) (by omega)
      obtain ⟨q1, q2, jR, _, _, _, q3, _⟩ := q
      unfold zN
      split
      · exact ⟨by omega, q2⟩
      · rw [q1]; exact ⟨by omega, q2⟩
    clear h0 h1 h2 p0 p1 hf hg hv n4
    go_enter Try.func7, Try.ntmps7
    go_wp2_with (first | ((with_reducible refine at_loadU rfl rfl ?_); (with_reducible refine wpList_loadG F rfl rfl rfl m0 Try.underlying38 rfl uinfoPipeI rfl ?_)) | (go_at_call 16; ((with_reducible refine (HV.out _ F.below).mono ?_); rintro e w1 ⟨rfl, hl⟩; replace F := F.le hl; clear hl)) | (go_at_call 18; ((with_reducible refine (HRG.out _ F.below).mono ?_); rintro e w2 ⟨v, rfl, hrr, hl⟩; replace F := F.le hl; have HR2 := hid hrr; clear hl hrr)) | (go_at_call 17; ((with_reducible refine (i_energyOf _ _ nL xR xL _ n1 n2 HR2.out HB.out).mono ?_); rintro e w3 ⟨S, rfl, hS, hl⟩; replace F := F.le hl; have ES := hid hS; clear hl hS)))
    go_ret2
    exact ⟨S, rfl, ES.out, F.below⟩
set_option maxRecDepth 100000 in
set_option maxHeartbeats 4000000 in
theorem s_EnergyOfPipe (B : Nat) (v0 v1 v2 : Value) (nR nL nS : Nat) (xR xL : Nat → CD) (yS : Nat → Nat) (k : Int) (a b c x y : Nat) (op : Bool) (l r s : Nat) (w : World) (h0 : (CD.sl 2 nR xR).RdN w B v0) (h1 : (CD.sl 2 nL xL).RdN w B v1) (h2 : RdS w B v2 yS nS) (p0 : RgsOk xR nR) (p1 : RgsOk xL nL) (hf : fits .f32 a ∧ fits .f32 b ∧ fits .f32 c ∧ fits .f32 x ∧ fits .f32 y) (hg : fits .f32 l ∧ fits .f32 r ∧ fits .f32 s) (v : Nat) (d : Int) (h : (okP nR nL nS xR xL yS k a b c x y l r s = false ∧ v = 0 ∧ d = 1) ∨ (okP nR nL nS xR xL yS k a b c x y l r s = true ∧ v = sumSq (concZ xR xL (2 * nR)) ∧ d = 0)) :
    Calls Try.prog 5 #[.agg #[v0, v1, v2, .int .i64 k, .float .f32 a, .float .f32 b, .float .f32 c, .float .f32 x, .float .f32 y, .bool op, .float .f32 l, .float .f32 r, .float .f32 s]] w (Out_di v d w) := by
  have HV := hid (fun (w' : World) (hl : le w w') (g : Nat) (R : Row w' g 38 #[v0, v1, v2, .int .i64 k, .float .f32 a, .float .f32 b, .float .f32 c, .float .f32 x, .float .f32 y, .bool op, .float .f32 l, .float .f32 r, .float .f32 s]) => s_l04Ok B v0 v1 v2 nR nL nS xR xL yS k a b c x y op l r s g w' R (h0.le hl) (h1.le hl) (h2.le hl) p0 p1 hf hg)
  have F := (Frg.nil w).box 38 #[v0, v1, v2, .int .i64 k, .float .f32 a, .float .f32 b, .float .f32 c, .float .f32 x, .float .f32 y, .bool op, .float .f32 l, .float .f32 r, .float .f32 s]
  rcases h with ⟨hv, rfl, rfl⟩ | ⟨hv, rfl, rfl⟩
  · rw [hv] at HV
    clear h0 h1 h2 p0 p1 hf hg hv
    go_enter Try.func5, Try.ntmps5
    go_wp2_with (first | (go_at_call 12; ((with_reducible refine (HV.out _ F.below _ (F.row m0)).mono ?_); rintro e w1 ⟨rfl, hl⟩; replace F := F.le hl; clear hl; have c0 := (F.row m0).cell? 0)))
    go_ret2
    exact ⟨_, rfl, by decide, F.below⟩
  · obtain ⟨n1, n2, n3, n4⟩ := okP_parts hv
    rw [hv] at HV
    subst n3
    obtain ⟨b0, o0, k0, rfl, hk0, hm0⟩ := h0.form.resolve_left (fun h => by have := h.2; omega)
    obtain ⟨b1, o1, k1, rfl, hk1, hm1⟩ := h1.form.resolve_left (fun h => by have := h.2; omega)
    unfold maxLen at hm0 hm1
    have HA := hid (fun t (ht : t < nL) => p0.at h0 ht)
    have HC := hid (fun t (ht : t < nL) => p1.at h1 ht)
    have HB : Hid (∀ t, t < nL → rgN xL t = rgN xR t ∧ 1 ≤ rgN xR t ∧ rgN xR t ≤ 1024) := fun t ht => by
      obtain ⟨q1, q2, jR, _, _, _, q3, _⟩ := n4 t ht
      exact ⟨q1, by omega, q2⟩
    obtain ⟨fi, hfi, hfz, hfs, hfb⟩ := info36
    have HI := hid (And.intro hfi (And.intro hfz (And.intro hfs hfb)))
    clear h0 h1 h2 p0 p1 hf hg hv n4 hfi hfz hfs hfb
    go_enter Try.func5, Try.ntmps5
    go_wp2_with (first | (go_at_call 12; ((with_reducible refine (HV.out _ F.below _ (F.row m0)).mono ?_); rintro e w1 ⟨rfl, hl⟩; replace F := F.le hl; clear hl; have c0 := (F.row m0).cell? 0)))
    have SZ := hid F.size
    have HR := hid (F.row m0)
    have HF := hid F.below
    have hbx : Hid (w.heap.size < w1.heap.size) := World.block_lt_of_cell? w1 ⟨w.heap.size, 0, none⟩ ((F.row m0).cell? 0)
    clear c0 F HV
    go_loopw [4, 5] (fun v i wr => ∃ (j : Nat) (L : List Nat), j ≤ nL ∧ i = .int .i64 j ∧ 2 * j ≤ L.length ∧ L.length ≤ 2048 * j ∧ Hid (L.map (can .f32) = concZ xR xL (2 * j)) ∧ Hid (wr.ownsRow w1.heap.size 24 1 v L.length (L.map (Value.float .f32))) ∧ Hid (le w1 wr)) (fun _ i _ => nL - (intOf i).toNat)
    case atStart => exact ⟨0, [], by omega, rfl, by simp, by simp, rfl, ⟨rfl, .inr ⟨w1.heap.size, 0, #[], rfl, Nat.le_refl _, heap_alloc_new w1 _, Nat.le_refl _, Nat.zero_le _, rfl, rfl⟩⟩, le_alloc _ _⟩
    case round =>
      obtain ⟨j, L, hj, rfl, hL1, hL2, EL, HO, HL⟩ := hrel
      rename_i wr _
      by_cases hlt : j < nL
      · obtain ⟨u, d0, _, _, hru⟩ := HA.out j hlt
        obtain ⟨u', e0, _, _, hrv⟩ := HC.out j hlt
        obtain ⟨hb1, hb2, hb3⟩ := HB.out j hlt
        obtain ⟨au, cu, yu, rfl, hcu, hmu, hxu⟩ := hru.raw (by omega)
        obtain ⟨av, cv, yv, rfl, hcv, hmv, hxv⟩ := hrv.raw (by omega)
        rw [hb1] at hcv hxv e0
        unfold maxLen at hmu hmv
        have hlw := le_trans HF.out HL.out
        have c0 := (Row.le HR.out HL.out).cell? 0
        have z0 := (Below.cell hlw (cell_lt' d0)).trans d0
        have hn1 : ∀ i x, (flist yu (rgN xR j))[i]? = some x → wr.cell? (au.add i) = some x := fun i x hi => by
          obtain ⟨h1, rfl⟩ := flist_get hi
          have := (hxu i h1).1
          exact (Below.cell hlw (cell_lt' this)).trans this
        have E0 := hid e0
        have XU := hid hxu; have XV := hid hxv; have N1 := hid hn1
        have hll : L.length ≤ 8192 := by omega
        clear d0 e0 hxu hxv hn1 hlw hru hrv
        go_wp2_with (first | (with_reducible refine wpList_indexW0 rfl rfl rfl rfl Try.underlying35 uinfoRingI hlt ?_) | (at_builtin; refine wpList_append_lies _ rfl (.tmp 19) (.tmp 25) 23 rfl w1.heap.size 24 fi (.float .f32 0) 1 4 Try.underlying23 HI.out.1 HI.out.2.1 HI.out.2.2.1 HI.out.2.2.2 rfl (by omega) u4 L.length (L.map (Value.float .f32)) rfl HO.out au (rgN xR j) cu (flist yu (rgN xR j)) rfl (by rw [flist_length]; omega) N1.out (flist_one _ _) (by omega) (by unfold maxLen; omega) (by omega) HL.out.size _ rfl ?_; intro g1 q1 wa o1 gr1 at1 lt1; clear c0 z0; have HLa := hid (Below.trans HL.out ((chg_grown (B := w1.heap.size) gr1 (fun k hk => (ownsRow_lt HO.out k hk).1)).below (fun _ h => h) HL.out.size)); replace o1 := hid o1; have c1 := (Row.le HR.out HLa.out).cell? 1; have z1 := (Below.cell (le_trans HF.out HLa.out) (cell_lt' E0.out)).trans E0.out; clear gr1 at1 lt1) | (at_builtin; refine wpList_append_lies _ rfl (.tmp 27) (.tmp 33) 23 rfl w1.heap.size 24 fi (.float .f32 0) 1 4 Try.underlying23 HI.out.1 HI.out.2.1 HI.out.2.2.1 HI.out.2.2.2 rfl (by omega) _ (L.length + rgN xR j) (L.map (Value.float .f32) ++ flist yu (rgN xR j)) rfl o1.out av (rgN xR j) cv (flist yv (rgN xR j)) rfl (by rw [flist_length]; omega) (fun i x hi => by obtain ⟨h1, rfl⟩ := flist_get hi; have := (XV.out i h1).1; exact (Below.cell (le_trans HF.out HLa.out) (cell_lt' this)).trans this) (flist_one _ _) (by omega) (by unfold maxLen; omega) (by omega) HLa.out.size _ rfl ?_; intro g2 q2 wb o2 gr2 at2 lt2; have HLb := hid (Below.trans HLa.out ((chg_grown (B := w1.heap.size) gr2 (fun k hk => (ownsRow_lt o1.out k hk).1)).below (fun _ h => h) HLa.out.size)); replace o2 := hid o2; clear gr2 at2 lt2 c1 z1))
        have EL2 : Hid ((L ++ (List.range (rgN xR j)).map yu ++ (List.range (rgN xR j)).map yv).map (can .f32) = concZ xR xL (2 * (j + 1))) := by
          show _ = concZ xR xL (2 * j) ++ ringZ xR xL (2 * j) _ ++ ringZ xR xL (2 * j + 1) _
          rw [List.map_append, List.map_append, EL.out]
          have k0 : 2 * j / 2 = j := by omega
          have k1 : (2 * j + 1) / 2 = j := by omega
          rw [bits_ring (k := 2 * j) (x := xR) (y := xL) (by unfold zN; rw [if_pos (by omega), k0]) (fun i hi => by unfold zX; rw [if_pos (by omega), k0]; exact (XU.out i hi).2.2)]
          rw [bits_ring (k := 2 * j + 1) (x := xR) (y := xL) (by unfold zN; rw [if_neg (by omega), k1, hb1]) (fun i hi => by unfold zX; rw [if_neg (by omega), k1]; exact (XV.out i hi).2.2)]
          rfl
        have hlen : (L ++ (List.range (rgN xR j)).map yu ++ (List.range (rgN xR j)).map yv).length = L.length + rgN xR j + rgN xR j := by simp [Nat.add_assoc]
        have HO2 : Hid (wb.ownsRow w1.heap.size 24 1 (.slice (some ⟨g2, 0, none⟩) (L.length + rgN xR j + rgN xR j) q2) (L ++ (List.range (rgN xR j)).map yu ++ (List.range (rgN xR j)).map yv).length ((L ++ (List.range (rgN xR j)).map yu ++ (List.range (rgN xR j)).map yv).map (Value.float .f32))) := by
          have h := o2.out
          rw [flist_bits, flist_bits] at h
          show wb.ownsRow _ _ _ _ _ _
          rw [hlen, List.map_append, List.map_append]
          exact h
        go_roundw
        case rel => exact ⟨j + 1, _, by omega, by go_num, by rw [hlen]; omega, by rw [hlen]; omega, EL2.out, HO2.out, HLb.out⟩
        case measure => simp [intOf]; omega
      · obtain rfl : j = nL := by omega
        have c0 := (Row.le HR.out HL.out).cell? 0
        obtain ⟨g, cap, hv, _, _⟩ := HO.out.form (by omega)
        subst hv
        have HO3 := hid HO.out
        have hcp : L.length ≤ cap ∧ cap ≤ maxLen := by
          rcases HO.out.2 with ⟨h, _⟩ | ⟨g', cap', cur, h, _, _, h2, h3, _⟩
          · cases h
          · cases h; exact ⟨h2, h3⟩
        unfold maxLen at hcp
        obtain ⟨hcp1, hcp2⟩ := hcp
        have hll : L.length ≤ 8192 := by omega
        go_wp2_with fail
        go_loopw [6, 7] (fun s i wv => ∃ p S : Nat, p ≤ L.length ∧ i = .int .i64 p ∧ s = .float .f64 S ∧ Hid (can .f64 S = sumSq ((L.take p).map (can .f32))) ∧ Hid (le wr wv)) (fun _ i _ => L.length - (intOf i).toNat)
        case atStart => exact ⟨0, 0, by omega, rfl, rfl, (by decide : can .f64 0 = 0), le_refl _⟩
        case round =>
          obtain ⟨p, S, hp, rfl, rfl, ES, HL5⟩ := hrel
          rename_i wv _
          by_cases hlt2 : p < L.length
          · have hgp : L[p]? = some L[p] := List.getElem?_eq_getElem hlt2
            obtain ⟨t, ht⟩ : ∃ t, t = L[p] := ⟨_, rfl⟩
            have hc := HO3.out.cells (g := g) rfl p (.float .f32 t) (by rw [List.getElem?_map, hgp, ht]; rfl)
            rw [add_none, Nat.zero_add] at hc
            have cz := (Below.cell HL5.out (cell_lt' hc)).trans hc
            have htk : Hid ((L.take (p + 1)).map (can .f32) = (L.take p).map (can .f32) ++ [can .f32 t]) := by
              show (L.take (p + 1)).map (can .f32) = _
              rw [List.take_add_one, hgp, List.map_append, ht]; rfl
            clear hgp ht hc c0
            have hpi : (p : Int) < (L.length : Int) := by omega
            go_wp2_with fail
            refine wp_region_tail (fun _ _ _ => True) 11 (by kernel_rfl) (by kernel_rfl) ?_; simp only [List.take_succ_cons, List.take_zero, List.drop_succ_cons, List.drop_zero]
            repeat (first | (with_reducible refine wpLoose_widen rfl rfl rfl Try.underlying24 Try.underlying32 ?_; intro rv hv fv; simp only [Act.put, List.setIfInBounds_toArray, List.set_cons_succ, List.set_cons_zero]) | (with_reducible refine wpLoose_farith rfl rfl rfl rfl rfl ?_; intro rm hm fm; simp only [Act.put, List.setIfInBounds_toArray, List.set_cons_succ, List.set_cons_zero]) | (refine wpLoose_quiet rfl ?_; go_big_quiet_step (fail); refine wpQuiet_nil ?_))
            have hw2 := ‹Hid (can .f64 rm = fop .mul .f64 _ _)›
            have hsq : Hid (can .f64 rm = sqW (can .f32 t)) := by
              show _ = fop .mul .f64 (widen (can .f32 t)) (widen (can .f32 t))
              rw [hm.out, widen_can]
              exact fop_congr (Hid.out (by assumption)) (Hid.out (by assumption))
            clear hw2
            refine wpLoose_nil (fun m1 => ?_)
            by_cases hp0 : p = 0
            · subst hp0
              have e1 : Hid (sumSq ((L.take (0 + 1)).map (can .f32)) = can .f64 rm) := by
                show sumSq _ = _
                rw [htk.out, hsq.out]; exact sumSq_one _
              clear hsq htk hm
              go_wp2
              go_roundw
              case rel => exact ⟨1, rm, by omega, by go_num, rfl, e1.out.symm, le_trans HL5.out (by first | exact le_drewN _ _ | exact le_trans (le_drewN _ _) (le_drewN _ _))⟩
              case measure => simp [intOf]; omega
            · have hp1 : ¬ (p : Int) = 0 := by omega
              have hp2 : ((p : Int) == 0) = false := by simp; omega
              go_wp2_with (with_reducible refine wpList_farith (op := .add) rfl rfl rfl rfl rfl ?_; intro ra na ha fa)
              have e1 : Hid (can .f64 ra = sumSq ((L.take (p + 1)).map (can .f32))) := by
                show can .f64 ra = _
                rw [htk.out, sumSq_snoc, ha.out]
                exact fop_congr (by rw [← ES.out, can_can]) (by rw [hsq.out]; exact (can_fop .mul .f64 _ _).symm)
              go_roundw
              case rel => exact ⟨p + 1, ra, by omega, by go_num, rfl, e1.out, le_trans HL5.out (by first | exact le_drewN _ _ | exact le_trans (le_drewN _ _) (le_drewN _ _))⟩
              case measure => simp [intOf]; omega
          · obtain rfl : p = L.length := by omega
            go_wp2
            go_ret2
            exact ⟨S, rfl, by rw [ES.out, List.take_length, EL.out], le_trans HF.out (le_trans HL.out HL5.out)⟩
theorem both_EnergyOfPipe (cs : List CD) (h : HasShL shPipe cs) : ∃ (ar0 : Nat) (ar1 : Int), (∀ (w : World) (B : Nat) (u : List Value), RdLN w B (cs.map CD.cp) u → Calls Try.prog 5 #[.agg u.toArray] w (Out_di ar0 ar1 w)) ∧ (∀ (w : World) (B : Nat) (u : List Value), RdLN w B (cs.map CD.cp) u → Calls Try.prog 7 #[.agg u.toArray] w (Out_di ar0 ar1 w)) := by
  obtain ⟨nR, nL, nS, xR, xL, xS, k, a, b, c, x, y, op, l, r, s, rfl, p0, p1, hS⟩ := pipe_data h
  have key : ∃ (v : Nat) (d : Int), (okP nR nL nS (fun i => (xR i).cn) (fun i => (xL i).cn) (fun i => (xS i).cn.fx) k a b c x y l r s = false ∧ v = 0 ∧ d = 1) ∨ (okP nR nL nS (fun i => (xR i).cn) (fun i => (xL i).cn) (fun i => (xS i).cn.fx) k a b c x y l r s = true ∧ v = sumSq (concZ (fun i => (xR i).cn) (fun i => (xL i).cn) (2 * nR)) ∧ d = 0) := by
    cases okP nR nL nS (fun i => (xR i).cn) (fun i => (xL i).cn) (fun i => (xS i).cn.fx) k a b c x y l r s
    · exact ⟨0, 1, .inl ⟨rfl, rfl, rfl⟩⟩
    · exact ⟨_, 0, .inr ⟨rfl, rfl, rfl⟩⟩
  obtain ⟨v, d, hk⟩ := key
  refine ⟨v, d, fun w B u hu => ?_, fun w B u hu => ?_⟩
  · obtain ⟨v0, v1, v2, rfl, h0, h1, h2, hf, hg⟩ := pipe_open hu hS
    exact s_EnergyOfPipe B v0 v1 v2 nR nL nS _ _ _ k a b c x y op l r s w h0 h1 h2 p0 p1 hf hg v d hk
  · obtain ⟨v0, v1, v2, rfl, h0, h1, h2, hf, hg⟩ := pipe_open hu hS
    exact i_EnergyOfPipe B v0 v1 v2 nR nL nS _ _ _ k a b c x y op l r s w h0 h1 h2 p0 p1 hf hg v d hk
end Go.Proofs.Ytappbiijmjjpaad

/- The walk of 'FnExactEnergyOfPipe'. -/
namespace Go.Proofs.Ytappbiijmjjpaad.fnExactEnergyOfPipe
open Go.RowKit Go.Fk
set_option maxRecDepth 100000 in
set_option maxHeartbeats 4000000 in
theorem core (cs0 : List CD) (vs0 : List Value) (ar0 : Nat) (ar1 : Int) (w : World) (z0 : RdL w w.heap.size cs0 vs0) (k0 : ShOkL shPipe cs0) (hz : szL cs0 ≤ 1048576)
    (hS : ∀ (w : World) (B0 : Nat) (u0 : List Value), RdLN w B0 (cs0.map CD.cp) u0 → Calls Try.prog 5 #[.agg u0.toArray] w (Out_di ar0 ar1 w))
    (hI : ∀ (w : World) (B0 : Nat) (u0 : List Value), RdLN w B0 (cs0.map CD.cp) u0 → Calls Try.prog 7 #[.agg u0.toArray] w (Out_di ar0 ar1 w)) :
    Calls Try.prog 3 #[.agg vs0.toArray] w fun e w' => e = .returned (.bool true) ∧ Below w.heap.size w w' := by
  have Z0 := hid z0; have K0 := hid k0; have hl0 : Hid (vs0.length = 13) := z0.1.trans k0.1; clear z0 k0
  have hz0 : szL cs0 ≤ 1048576 := by omega
  have hm0 : ¬ (1048576 : Int) - (szL cs0 : Nat) < 0 := by omega
  have HS := hid hS; have HI := hid hI; clear hS hI
  have F := Frg.nil w
  replace F := F.box 30 vs0.toArray
  go_enter Try.func3, Try.ntmps3
  go_wp2_with (first | (((with_reducible refine listN F ?_); clear F; intro wN F)) | ((with_reducible refine at_loadU rfl rfl ?_); first | (with_reducible refine wpList_loadG F rfl rfl rfl (by first | exact m0 | exact m1 | exact m2 | exact m3 | exact m4 | exact m5 | exact m6 | exact m7 | exact m8) Try.underlying38 rfl uinfoPipeI (by simp only [List.size_toArray]; first | exact hl0.out | exact hl1.out | exact hu0.out | exact hu1.out) ?_) | (with_reducible refine wpList_loadG F rfl rfl rfl (by first | exact m0 | exact m1 | exact m2 | exact m3 | exact m4 | exact m5 | exact m6 | exact m7 | exact m8) Try.underlying30 rfl uinfoPipeL (by simp only [List.size_toArray]; first | exact hl0.out | exact hl1.out | exact hu0.out | exact hu1.out) ?_)) | (go_at_call 4; ((with_reducible refine (szU_Pipe _ cs0 vs0 (1048576 : Int) ((1048576 : Int) - (szL cs0 : Nat)) _ (Z0.out.le F.below) K0.out (by omega) (by omega) (lessBy_pos hm0)).mono ?_); rintro e w1 ⟨rfl, hb1⟩; replace F := F.le hb1)) | (go_at_call 6; ((with_reducible refine (toU_Pipe _ cs0 vs0 _ (Z0.out.le F.below) K0.out hz0).mono ?_); rintro e w1 ⟨usA0, rfl, ho, hl⟩; have hu0 : Hid (usA0.length = 13) := ho.1.trans ((List.length_map ..).trans K0.out.1); have ho0 := hid ho.all_one; replace F := F.lay1 hl ho; clear ho hl)))
  first | ((with_reducible refine callAt0 F ?_); clear F; intro wN F) | ((with_reducible refine callAtN F ?_); clear F; intro wN F)
  refine (HS.out _ _ _ (F.layN (by first | exact m0 | exact m1 | exact m2 | exact m3 | exact m4 | exact m5 | exact m6 | exact m7 | exact m8))).mono ?_
  rintro e wS ⟨vS0, rfl, cS0, hlS⟩
  replace cS0 := hid cS0
  replace F := F.le hlS
  go_wp2_with (first | (((with_reducible refine listN F ?_); clear F; intro wN F)) | ((with_reducible refine at_store rfl ?_); first | (refine wpList_storeG F rfl rfl rfl rfl rfl (by simp only [List.size_toArray]; first | (rw [hu0.out]; exact uinfoPipeI) | (rw [hu1.out]; exact uinfoPipeI)) (by simp only [List.size_toArray]; first | (rw [hu0.out]; rfl) | (rw [hu1.out]; rfl)) (by first | exact ho0.out | exact ho1.out) ?_; clear F; intro W F zW; clear zW)) | ((with_reducible refine at_loadU rfl rfl ?_); first | (with_reducible refine wpList_loadG F rfl rfl rfl (by first | exact m0 | exact m1 | exact m2 | exact m3 | exact m4 | exact m5 | exact m6 | exact m7 | exact m8) Try.underlying38 rfl uinfoPipeI (by simp only [List.size_toArray]; first | exact hl0.out | exact hl1.out | exact hu0.out | exact hu1.out) ?_) | (with_reducible refine wpList_loadG F rfl rfl rfl (by first | exact m0 | exact m1 | exact m2 | exact m3 | exact m4 | exact m5 | exact m6 | exact m7 | exact m8) Try.underlying30 rfl uinfoPipeL (by simp only [List.size_toArray]; first | exact hl0.out | exact hl1.out | exact hu0.out | exact hu1.out) ?_)) | (go_at_call 6; ((with_reducible refine (toU_Pipe _ cs0 vs0 _ (Z0.out.le F.below) K0.out hz0).mono ?_); rintro e w1 ⟨usB0, rfl, ho, hl⟩; have hu0 : Hid (usB0.length = 13) := ho.1.trans ((List.length_map ..).trans K0.out.1); have ho0 := hid ho.all_one; replace F := F.lay1 hl ho; clear ho hl)))
  first | ((with_reducible refine callAt0 F ?_); clear F; intro wN F) | ((with_reducible refine callAtN F ?_); clear F; intro wN F)
  refine (HI.out _ _ _ (F.layN (by first | exact m0 | exact m1 | exact m2 | exact m3 | exact m4 | exact m5 | exact m6 | exact m7 | exact m8))).mono ?_
  rintro e wI ⟨vI0, rfl, cI0, hlI⟩
  replace cI0 := hid cI0
  replace F := F.le hlI
  go_wp2_with (first | (((with_reducible refine listN F ?_); clear F; intro wN F)) | ((with_reducible refine at_store rfl ?_); first | (refine wpList_storeG F rfl rfl rfl rfl rfl (by simp only [List.size_toArray]; first | (rw [hu0.out]; exact uinfoPipeI) | (rw [hu1.out]; exact uinfoPipeI)) (by simp only [List.size_toArray]; first | (rw [hu0.out]; rfl) | (rw [hu1.out]; rfl)) (by first | exact ho0.out | exact ho1.out) ?_; clear F; intro W F zW; clear zW)) | ((with_reducible refine at_loadU rfl rfl ?_); first | (with_reducible refine wpList_loadG F rfl rfl rfl (by first | exact m0 | exact m1 | exact m2 | exact m3 | exact m4 | exact m5 | exact m6 | exact m7 | exact m8) Try.underlying38 rfl uinfoPipeI (by simp only [List.size_toArray]; first | exact hl0.out | exact hl1.out | exact hu0.out | exact hu1.out) ?_) | (with_reducible refine wpList_loadG F rfl rfl rfl (by first | exact m0 | exact m1 | exact m2 | exact m3 | exact m4 | exact m5 | exact m6 | exact m7 | exact m8) Try.underlying30 rfl uinfoPipeL (by simp only [List.size_toArray]; first | exact hl0.out | exact hl1.out | exact hu0.out | exact hu1.out) ?_)) | (go_at_call 8; ((with_reducible refine (sameFloat_yes _ _ _ (cI0.out.trans cS0.out.symm)).mono ?_); rintro e w7 ⟨rfl, dq7, rfl⟩; skip)))
  first | (refine wpAt0 F ?_; clear F; intro wN F) | (refine wpAtN F ?_; clear F; intro wN F)
  refine region_freeD (E := leX) (fun f _ w v => if f = 6 then ∃ (us : List Value) (B : Nat), v = .agg us.toArray ∧ RdL w B (cs0.map CD.cp) us else v = .bool true) (by kernel_rfl) (by kernel_rfl) ?_
  refine wpFreeD_loadG F rfl rfl rfl rfl (by first | exact m0 | exact m1 | exact m2 | exact m3 | exact m4 | exact m5 | exact m6 | exact m7 | exact m8) Try.underlying38 rfl uinfoPipeI (by simp only [List.size_toArray]; exact hu0.out) ?_
  simp only [Act.put, List.setIfInBounds_toArray, List.set_cons_succ, List.set_cons_zero]
  refine wpFreeD_loadG F rfl rfl rfl rfl (by first | exact m0 | exact m1 | exact m2 | exact m3 | exact m4 | exact m5 | exact m6 | exact m7 | exact m8) Try.underlying30 rfl uinfoPipeL (by simp only [List.size_toArray]; exact hl0.out) ?_
  simp only [Act.put, List.setIfInBounds_toArray, List.set_cons_succ, List.set_cons_zero]
  refine wpFreeD_callB rfl rfl Try.func6 (by kernel_rfl) (by kernel_rfl) (args := #[.agg vs0.toArray]) (by simp [Act.eval]) (fun v w1 w2 hw hv => by simp only [if_true] at hv ⊢; obtain ⟨u, B, h1, h2⟩ := hv; exact ⟨u, B, h1, h2.le hw⟩) (fun w1 hw1 _ => (toU_Pipe _ cs0 vs0 w1 (Z0.out.le (le_trans (F.drewN _).below hw1)) K0.out hz0).mono ?_) ?_
  · rintro e w2 ⟨u, rfl, ho, hl⟩
    exact ⟨_, rfl, hl, by simp only [if_true]; exact ⟨u, _, rfl, ho.rd (fun _ hj => hj.2)⟩⟩
  rintro v ⟨_, _, _, hv⟩
  simp only [if_true] at hv
  obtain ⟨u0, Bu0, rfl, _⟩ := hv
  simp only [Act.put, List.setIfInBounds_toArray, List.set_cons_succ, List.set_cons_zero]
  refine wpFreeD_callB rfl rfl Try.func9 (by kernel_rfl) (by kernel_rfl) (args := #[.agg usB0.toArray, .agg u0.toArray]) (by simp [Act.eval]) (fun v w1 w2 hw hv => by simp only [show ¬ (9 = 6) by decide, if_false] at hv ⊢; exact hv) (fun w1 hw1 hbe => ?_) ?_
  · have hk := (hbe ⟨2, Ground.data⟩ (by simp) (by kernel_rfl)).2 rfl
    simp only [if_true] at hk
    obtain ⟨u', B', he, hr⟩ := hk
    obtain rfl : u0 = u' := by simpa using he
    refine (eqU_Pipe _ _ (cs0.map CD.cp) _ _ _ (((F.drewN 1).le hw1).layR (by first | exact m0 | exact m1 | exact m2 | exact m3 | exact m4 | exact m5 | exact m6 | exact m7 | exact m8)) hr K0.out.cp (by rw [szL_cp]; exact hz0)).mono ?_
    rintro e w2 ⟨rfl, hl⟩
    exact ⟨_, rfl, hl, by simp only [show ¬ (9 = 6) by decide, if_false]⟩
  rintro v ⟨_, _, _, hv⟩
  simp only [show ¬ (9 = 6) by decide, if_false] at hv
  subst hv
  simp only [Act.put, List.setIfInBounds_toArray, List.set_cons_succ, List.set_cons_zero]
  refine wpFreeD_one rfl (.bool false) (fun w1 _ => by kernel_rfl) ?_
  simp only [Act.put, List.setIfInBounds_toArray, List.set_cons_succ, List.set_cons_zero]
  refine wpFreeD_nil (fun wR hwR _ => ?_)
  replace F := (F.drewN 1).le hwR
  clear hwR
  go_wp2_with (first | (((with_reducible refine listN F ?_); clear F; intro wN F)) | ((with_reducible refine at_loadU rfl rfl ?_); first | (with_reducible refine wpList_loadG F rfl rfl rfl (by first | exact m0 | exact m1 | exact m2 | exact m3 | exact m4 | exact m5 | exact m6 | exact m7 | exact m8) Try.underlying38 rfl uinfoPipeI (by simp only [List.size_toArray]; first | exact hl0.out | exact hl1.out | exact hu0.out | exact hu1.out) ?_) | (with_reducible refine wpList_loadG F rfl rfl rfl (by first | exact m0 | exact m1 | exact m2 | exact m3 | exact m4 | exact m5 | exact m6 | exact m7 | exact m8) Try.underlying30 rfl uinfoPipeL (by simp only [List.size_toArray]; first | exact hl0.out | exact hl1.out | exact hu0.out | exact hu1.out) ?_)))
  go_ret
  first | exact ⟨rfl, F.below⟩ | exact ⟨rfl, below_drewN F.below _⟩
set_option maxRecDepth 100000 in
set_option maxHeartbeats 4000000 in
theorem large0 (cs0 : List CD) (vs0 : List Value) (w : World) (z0 : RdL w w.heap.size cs0 vs0) (k0 : ShOkL shPipe cs0)  (hg : ¬ szL cs0 ≤ 1048576) :
    Calls Try.prog 3 #[.agg vs0.toArray] w fun e w' => e = .returned (.bool true) ∧ Below w.heap.size w w' := by
  have Z0 := hid z0; have K0 := hid k0; have hl0 : Hid (vs0.length = 13) := z0.1.trans k0.1; clear z0 k0
  have hn0 : (1048576 : Int) - (szL cs0 : Nat) < 0 := by omega
  have F := Frg.nil w
  replace F := F.box 30 vs0.toArray
  go_enter Try.func3, Try.ntmps3
  go_wp2_with (first | (((with_reducible refine listN F ?_); clear F; intro wN F)) | ((with_reducible refine at_loadU rfl rfl ?_); first | (with_reducible refine wpList_loadG F rfl rfl rfl (by first | exact m0 | exact m1 | exact m2 | exact m3 | exact m4 | exact m5 | exact m6 | exact m7 | exact m8) Try.underlying38 rfl uinfoPipeI (by simp only [List.size_toArray]; first | exact hl0.out | exact hl1.out | exact hu0.out | exact hu1.out) ?_) | (with_reducible refine wpList_loadG F rfl rfl rfl (by first | exact m0 | exact m1 | exact m2 | exact m3 | exact m4 | exact m5 | exact m6 | exact m7 | exact m8) Try.underlying30 rfl uinfoPipeL (by simp only [List.size_toArray]; first | exact hl0.out | exact hl1.out | exact hu0.out | exact hu1.out) ?_)) | (go_at_call 4; ((with_reducible refine (szU_Pipe _ cs0 vs0 (1048576 : Int) (-1 : Int) _ (Z0.out.le F.below) K0.out (by omega) (by omega) (lessBy_neg hn0)).mono ?_); rintro e w1 ⟨rfl, hb1⟩; replace F := F.le hb1)))
  go_ret
  first | exact ⟨rfl, F.below⟩ | exact ⟨rfl, below_drewN F.below _⟩
theorem walk (cs0 : List CD) (vs0 : List Value) (w : World) (k0 : HasShL shPipe cs0) (z0 : RdL w w.heap.size cs0 vs0) :
    Calls Try.prog 3 #[.agg vs0.toArray] w fun e w' => e = .returned (.bool true) ∧ Below w.heap.size w w' := by
  by_cases g0 : szL cs0 ≤ 1048576
  · skip
    obtain ⟨ar0, ar1, hS, hI⟩ := both_EnergyOfPipe cs0 k0
    exact core cs0 vs0 ar0 ar1 w z0 k0.ok g0 hS hI
  · exact large0 cs0 vs0 w z0 k0.ok  g0
end Go.Proofs.Ytappbiijmjjpaad.fnExactEnergyOfPipe
