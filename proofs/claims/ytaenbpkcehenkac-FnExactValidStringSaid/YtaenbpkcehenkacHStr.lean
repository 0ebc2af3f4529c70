/- Strings in the laws' helpers, over facts of memory. -/
import Derived.Test.YtaenbpkcehenkacHRing
import Derived.Test.YtaenbpkcehenkacFil
import Derived.Test.YtaenbpkcehenkacOwnRow
namespace Go.Fk
open Go Go.RowKit
/-- A part of a row. -/
theorem part_at (pre mid post : List Value) (f : Nat) (hf : pre.length = f) : ∀ j, j < mid.length → (pre ++ (mid ++ post)).toArray[f + j]? = mid[j]? := by
  intro j hj
  subst hf
  simp only [List.getElem?_toArray]
  rw [List.getElem?_append_right (by omega), Nat.add_sub_cancel_left, List.getElem?_append_left hj]
theorem strRing (s : Value) (k tk : Int) (ta tb tc tx ty : Nat) (dk : Int) (da db dc dx dy l : Nat) : ∀ j, j < [s, Value.int .i64 k].length → (#[s, .int .i64 k, .int .i64 tk, .float .f32 ta, .float .f32 tb, .float .f32 tc, .float .f32 tx, .float .f32 ty, .int .i64 dk, .float .f32 da, .float .f32 db, .float .f32 dc, .float .f32 dx, .float .f32 dy, .float .f32 l] : Array Value)[0 + j]? = [s, Value.int .i64 k][j]? := part_at [] [s, .int .i64 k] _ 0 rfl
theorem strTune (s : Value) (k tk : Int) (ta tb tc tx ty : Nat) (dk : Int) (da db dc dx dy l : Nat) : ∀ j, j < ([.int .i64 tk, .float .f32 ta, .float .f32 tb, .float .f32 tc, .float .f32 tx, .float .f32 ty] : List Value).length → (#[s, .int .i64 k, .int .i64 tk, .float .f32 ta, .float .f32 tb, .float .f32 tc, .float .f32 tx, .float .f32 ty, .int .i64 dk, .float .f32 da, .float .f32 db, .float .f32 dc, .float .f32 dx, .float .f32 dy, .float .f32 l] : Array Value)[2 + j]? = ([.int .i64 tk, .float .f32 ta, .float .f32 tb, .float .f32 tc, .float .f32 tx, .float .f32 ty] : List Value)[j]? := part_at [s, .int .i64 k] [.int .i64 tk, .float .f32 ta, .float .f32 tb, .float .f32 tc, .float .f32 tx, .float .f32 ty] _ 2 rfl
theorem strDamp (s : Value) (k tk : Int) (ta tb tc tx ty : Nat) (dk : Int) (da db dc dx dy l : Nat) : ∀ j, j < ([.int .i64 dk, .float .f32 da, .float .f32 db, .float .f32 dc, .float .f32 dx, .float .f32 dy] : List Value).length → (#[s, .int .i64 k, .int .i64 tk, .float .f32 ta, .float .f32 tb, .float .f32 tc, .float .f32 tx, .float .f32 ty, .int .i64 dk, .float .f32 da, .float .f32 db, .float .f32 dc, .float .f32 dx, .float .f32 dy, .float .f32 l] : Array Value)[8 + j]? = ([.int .i64 dk, .float .f32 da, .float .f32 db, .float .f32 dc, .float .f32 dx, .float .f32 dy] : List Value)[j]? := part_at [s, .int .i64 k, .int .i64 tk, .float .f32 ta, .float .f32 tb, .float .f32 tc, .float .f32 tx, .float .f32 ty] [.int .i64 dk, .float .f32 da, .float .f32 db, .float .f32 dc, .float .f32 dx, .float .f32 dy] _ 8 rfl
/-- What a copy of a string is, whatever is known of it. -/
def KStr (w0 : World) (args : Array Value) (w : World) (v : Value) : Prop := ∀ (s : Value) (k tk : Int) (ta tb tc tx ty : Nat) (dk : Int) (da db dc dx dy l : Nat) (B : Nat) (x : Nat → Nat) (n : Nat), args = #[.agg #[s, .int .i64 k, .int .i64 tk, .float .f32 ta, .float .f32 tb, .float .f32 tc, .float .f32 tx, .float .f32 ty, .int .i64 dk, .float .f32 da, .float .f32 db, .float .f32 dc, .float .f32 dx, .float .f32 dy, .float .f32 l]] → RdS w0 B s x n → ∃ s' B', v = .agg #[s', .int .i64 k, .int .i64 tk, .float .f32 ta, .float .f32 tb, .float .f32 tc, .float .f32 tx, .float .f32 ty, .int .i64 dk, .float .f32 da, .float .f32 db, .float .f32 dc, .float .f32 dx, .float .f32 dy, .float .f32 l] ∧ RdS w B' s' x n
theorem KStr.le {w0 w w' : World} {args : Array Value} {v : Value} (h : KStr w0 args w v) (hl : Fk.le w w') : KStr w0 args w' v := by
  intro s k tk ta tb tc tx ty dk da db dc dx dy l B x n e hr
  obtain ⟨s', B', e1, e2⟩ := h s k tk ta tb tc tx ty dk da db dc dx dy l B x n e hr
  exact ⟨s', B', e1, e2.le hl⟩
end Go.Fk
namespace Go.Proofs.Ytaenbpkcehenkac
open Go.RowKit Go.Fk
theorem infoStr : (Try.prog.info? 31).map (·.size) = some 15 := by kernel_rfl
theorem infoStrL : (Try.prog.info? 40).map (·.size) = some 15 := by kernel_rfl
theorem infoRingL' : (Try.prog.info? 37).map (·.size) = some 2 := by kernel_rfl
theorem infoFilL' : (Try.prog.info? 38).map (·.size) = some 6 := by kernel_rfl
theorem szStringRM_yes (B : Nat) (s : Value) (x : Nat → Nat) (n : Nat) (k tk : Int) (ta tb tc tx ty : Nat) (dk : Int) (da db dc dx dy l : Nat) (m : Int) (w : World) (hs : RdS w B s x n) (h0 : 0 ≤ m) (h1 : m ≤ 1048576) (hm : 0 ≤ m - (n : Int)) :
    Calls Try.prog 20 #[.agg #[s, .int .i64 k, .int .i64 tk, .float .f32 ta, .float .f32 tb, .float .f32 tc, .float .f32 tx, .float .f32 ty, .int .i64 dk, .float .f32 da, .float .f32 db, .float .f32 dc, .float .f32 dx, .float .f32 dy, .float .f32 l], .int .i64 m] w fun e w' => e = .returned (.int .i64 (m - n)) ∧ le w w' := by
  have HS := hid hs; clear hs
  have hm' : ¬ m - (n : Int) < 0 := by omega
  have F := (Frg.nil w).box 40 #[s, .int .i64 k, .int .i64 tk, .float .f32 ta, .float .f32 tb, .float .f32 tc, .float .f32 tx, .float .f32 ty, .int .i64 dk, .float .f32 da, .float .f32 db, .float .f32 dc, .float .f32 dx, .float .f32 dy, .float .f32 l]
  go_enter Try.func20, Try.ntmps20
  go_wp2_with (first | ((with_reducible refine at_load rfl ?_); (with_reducible refine wpList_loadGP F rfl rfl rfl m0 Try.underlying37 rfl [s, .int .i64 k] (strRing s k tk ta tb tc tx ty dk da db dc dx dy l) infoRingL' rfl ?_)) | (go_at_call 62; ((with_reducible refine (szRingRM_yes B s x n k m _ (HS.out.le F.below) h0 h1 hm).mono ?_); rintro e w1 ⟨rfl, hl⟩; replace F := F.le hl; clear hl)))
  go_ret
  exact ⟨rfl, F.below⟩
theorem szStringRM_no (B : Nat) (s : Value) (x : Nat → Nat) (n : Nat) (k tk : Int) (ta tb tc tx ty : Nat) (dk : Int) (da db dc dx dy l : Nat) (m : Int) (w : World) (hs : RdS w B s x n) (h0 : 0 ≤ m) (h1 : m ≤ 1048576) (hm : m - (n : Int) < 0) :
    Calls Try.prog 20 #[.agg #[s, .int .i64 k, .int .i64 tk, .float .f32 ta, .float .f32 tb, .float .f32 tc, .float .f32 tx, .float .f32 ty, .int .i64 dk, .float .f32 da, .float .f32 db, .float .f32 dc, .float .f32 dx, .float .f32 dy, .float .f32 l], .int .i64 m] w fun e w' => e = .returned (.int .i64 (-1)) ∧ le w w' := by
  have HS := hid hs; clear hs
  have F := (Frg.nil w).box 40 #[s, .int .i64 k, .int .i64 tk, .float .f32 ta, .float .f32 tb, .float .f32 tc, .float .f32 tx, .float .f32 ty, .int .i64 dk, .float .f32 da, .float .f32 db, .float .f32 dc, .float .f32 dx, .float .f32 dy, .float .f32 l]
  go_enter Try.func20, Try.ntmps20
  go_wp2_with (first | ((with_reducible refine at_load rfl ?_); (with_reducible refine wpList_loadGP F rfl rfl rfl m0 Try.underlying37 rfl [s, .int .i64 k] (strRing s k tk ta tb tc tx ty dk da db dc dx dy l) infoRingL' rfl ?_)) | (go_at_call 62; ((with_reducible refine (szRingRM_no B s x n k m _ (HS.out.le F.below) h0 h1 hm).mono ?_); rintro e w1 ⟨rfl, hl⟩; replace F := F.le hl; clear hl)))
  go_ret
  exact ⟨rfl, F.below⟩
theorem szStringR_yes (B : Nat) (s : Value) (x : Nat → Nat) (n : Nat) (k tk : Int) (ta tb tc tx ty : Nat) (dk : Int) (da db dc dx dy l : Nat) (w : World) (hs : RdS w B s x n) (hn : n ≤ 1048576) :
    Calls Try.prog 20 #[.agg #[s, .int .i64 k, .int .i64 tk, .float .f32 ta, .float .f32 tb, .float .f32 tc, .float .f32 tx, .float .f32 ty, .int .i64 dk, .float .f32 da, .float .f32 db, .float .f32 dc, .float .f32 dx, .float .f32 dy, .float .f32 l], .int .i64 1048576] w fun e w' => e = .returned (.int .i64 (1048576 - n)) ∧ le w w' := szStringRM_yes B s x n k tk ta tb tc tx ty dk da db dc dx dy l 1048576 w hs (by omega) (by omega) (by omega)
theorem szStringR_no (B : Nat) (s : Value) (x : Nat → Nat) (n : Nat) (k tk : Int) (ta tb tc tx ty : Nat) (dk : Int) (da db dc dx dy l : Nat) (w : World) (hs : RdS w B s x n) (hn : ¬ n ≤ 1048576) :
    Calls Try.prog 20 #[.agg #[s, .int .i64 k, .int .i64 tk, .float .f32 ta, .float .f32 tb, .float .f32 tc, .float .f32 tx, .float .f32 ty, .int .i64 dk, .float .f32 da, .float .f32 db, .float .f32 dc, .float .f32 dx, .float .f32 dy, .float .f32 l], .int .i64 1048576] w fun e w' => e = .returned (.int .i64 (-1)) ∧ le w w' := szStringRM_no B s x n k tk ta tb tc tx ty dk da db dc dx dy l 1048576 w hs (by omega) (by omega) (by omega)
set_option maxRecDepth 100000 in
set_option maxHeartbeats 1000000 in
theorem eqStringR (B B' : Nat) (s s' : Value) (x : Nat → Nat) (n : Nat) (k tk : Int) (ta tb tc tx ty : Nat) (dk : Int) (da db dc dx dy l : Nat) (w : World) (hn : n ≤ 1048576) (hs : RdS w B s x n) (hs' : RdS w B' s' x n) :
    Calls Try.prog 17 #[.agg #[s, .int .i64 k, .int .i64 tk, .float .f32 ta, .float .f32 tb, .float .f32 tc, .float .f32 tx, .float .f32 ty, .int .i64 dk, .float .f32 da, .float .f32 db, .float .f32 dc, .float .f32 dx, .float .f32 dy, .float .f32 l], .agg #[s', .int .i64 k, .int .i64 tk, .float .f32 ta, .float .f32 tb, .float .f32 tc, .float .f32 tx, .float .f32 ty, .int .i64 dk, .float .f32 da, .float .f32 db, .float .f32 dc, .float .f32 dx, .float .f32 dy, .float .f32 l]] w fun e w' => e = .returned (.bool true) ∧ le w w' := by
  have HS := hid hs; have HS' := hid hs'; clear hs hs'
  have F := ((Frg.nil w).box 31 #[s, .int .i64 k, .int .i64 tk, .float .f32 ta, .float .f32 tb, .float .f32 tc, .float .f32 tx, .float .f32 ty, .int .i64 dk, .float .f32 da, .float .f32 db, .float .f32 dc, .float .f32 dx, .float .f32 dy, .float .f32 l]).box 31 #[s', .int .i64 k, .int .i64 tk, .float .f32 ta, .float .f32 tb, .float .f32 tc, .float .f32 tx, .float .f32 ty, .int .i64 dk, .float .f32 da, .float .f32 db, .float .f32 dc, .float .f32 dx, .float .f32 dy, .float .f32 l]
  simp only [World.size_alloc] at F
  go_enter Try.func17, Try.ntmps17
  go_wp2_with (first | ((with_reducible refine at_load rfl ?_); first | (with_reducible refine wpList_loadGP F rfl rfl rfl m1 Try.underlying25 rfl [s, .int .i64 k] (strRing s k tk ta tb tc tx ty dk da db dc dx dy l) infoRing rfl ?_) | (with_reducible refine wpList_loadGP F rfl rfl rfl m0 Try.underlying25 rfl [s', .int .i64 k] (strRing s' k tk ta tb tc tx ty dk da db dc dx dy l) infoRing rfl ?_) | (with_reducible refine wpList_loadGP F rfl rfl rfl m1 Try.underlying29 rfl [.int .i64 tk, .float .f32 ta, .float .f32 tb, .float .f32 tc, .float .f32 tx, .float .f32 ty] (strTune s k tk ta tb tc tx ty dk da db dc dx dy l) infoFil rfl ?_) | (with_reducible refine wpList_loadGP F rfl rfl rfl m0 Try.underlying29 rfl [.int .i64 tk, .float .f32 ta, .float .f32 tb, .float .f32 tc, .float .f32 tx, .float .f32 ty] (strTune s' k tk ta tb tc tx ty dk da db dc dx dy l) infoFil rfl ?_) | (with_reducible refine wpList_loadGP F rfl rfl rfl m1 Try.underlying29 rfl [.int .i64 dk, .float .f32 da, .float .f32 db, .float .f32 dc, .float .f32 dx, .float .f32 dy] (strDamp s k tk ta tb tc tx ty dk da db dc dx dy l) infoFil rfl ?_) | (with_reducible refine wpList_loadGP F rfl rfl rfl m0 Try.underlying29 rfl [.int .i64 dk, .float .f32 da, .float .f32 db, .float .f32 dc, .float .f32 dx, .float .f32 dy] (strDamp s' k tk ta tb tc tx ty dk da db dc dx dy l) infoFil rfl ?_)) | (go_at_call 58; ((with_reducible refine (eqRingR B B' s s' x n k _ hn (HS.out.le F.below) (HS'.out.le F.below)).mono ?_); rintro e w1 ⟨rfl, hl⟩; replace F := F.le hl; clear hl)) | (go_at_call 59; ((with_reducible refine (eqFil_yes _ _ _ _ _ _ _ _ _ _ _ _ rfl rfl rfl rfl rfl).mono ?_); rintro e w1 ⟨rfl, hl⟩; replace F := F.le hl; clear hl; have c14 := (F.row m1).cell? 14; have d14 := (F.row m0).cell? 14)) | ((with_reducible refine at_convert rfl ?_); (with_reducible refine wpList_widen rfl rfl rfl Try.underlying22 Try.underlying60 ?_; intro s1 n1 h1 f1)) | (go_at_call 37; ((with_reducible refine (sameFloat_yes _ _ _ (by exact (Eq.trans (Hid.out (by assumption)) h1.out.symm))).mono ?_); rintro e w7 ⟨rfl, dq7, rfl⟩)))
  go_ret
  exact ⟨rfl, le_trans F.below (by first | exact le_drewN _ _ | exact le_refl _)⟩
theorem markStringR (lo hi : Nat) (s : Value) (x : Nat → Nat) (n : Nat) (k tk : Int) (ta tb tc tx ty : Nat) (dk : Int) (da db dc dx dy l : Nat) (z : Int) (w : World) (hn : n ≤ 1048576) (hz : 0 ≤ z) (hz2 : z ≤ 1073741824) (hs : OwnS w lo hi s x n) :
    Calls Try.prog 18 #[.agg #[s, .int .i64 k, .int .i64 tk, .float .f32 ta, .float .f32 tb, .float .f32 tc, .float .f32 tx, .float .f32 ty, .int .i64 dk, .float .f32 da, .float .f32 db, .float .f32 dc, .float .f32 dx, .float .f32 dy, .float .f32 l], .int .i64 z] w fun e w' => e = .returned (.int .i64 (z + n)) ∧ OwnS w' lo hi s (markW z) n ∧ Chg (rng lo hi) w w' := by
  have HS := hid (hs.le (le_alloc w (.cells #[s, .int .i64 k, .int .i64 tk, .float .f32 ta, .float .f32 tb, .float .f32 tc, .float .f32 tx, .float .f32 ty, .int .i64 dk, .float .f32 da, .float .f32 db, .float .f32 dc, .float .f32 dx, .float .f32 dy, .float .f32 l] 31))); clear hs
  have F := (Frg.nil w).box 31 #[s, .int .i64 k, .int .i64 tk, .float .f32 ta, .float .f32 tb, .float .f32 tc, .float .f32 tx, .float .f32 ty, .int .i64 dk, .float .f32 da, .float .f32 db, .float .f32 dc, .float .f32 dx, .float .f32 dy, .float .f32 l]
  go_enter Try.func18, Try.ntmps18
  go_wp2_with (first | ((with_reducible refine at_load rfl ?_); (with_reducible refine wpList_loadGP F rfl rfl rfl m0 Try.underlying25 rfl [s, .int .i64 k] (strRing s k tk ta tb tc tx ty dk da db dc dx dy l) infoRing rfl ?_)) | (go_at_call 60; ((with_reducible refine (markRingR lo hi s x n k z _ hn hz hz2 HS.out).mono ?_); rintro e w2 ⟨rfl, hR, hU⟩; have HR2 := hid hR; have HU := hid (Chg.trans (Chg.of_le F.below) hU); clear hR hU F)))
  go_ret
  exact ⟨rfl, HR2.out, HU.out⟩
theorem heldStringR (B : Nat) (s : Value) (n : Nat) (k tk : Int) (ta tb tc tx ty : Nat) (dk : Int) (da db dc dx dy l : Nat) (z : Int) (w : World) (hn : n ≤ 1048576) (hz : 0 ≤ z) (hz2 : z ≤ 1073741824) (hs : RdS w B s (markW z) n) :
    Calls Try.prog 19 #[.agg #[s, .int .i64 k, .int .i64 tk, .float .f32 ta, .float .f32 tb, .float .f32 tc, .float .f32 tx, .float .f32 ty, .int .i64 dk, .float .f32 da, .float .f32 db, .float .f32 dc, .float .f32 dx, .float .f32 dy, .float .f32 l], .int .i64 z] w fun e w' => e = .returned (.int .i64 (z + n)) ∧ le w w' := by
  have HS := hid hs; clear hs
  have F := (Frg.nil w).box 31 #[s, .int .i64 k, .int .i64 tk, .float .f32 ta, .float .f32 tb, .float .f32 tc, .float .f32 tx, .float .f32 ty, .int .i64 dk, .float .f32 da, .float .f32 db, .float .f32 dc, .float .f32 dx, .float .f32 dy, .float .f32 l]
  have hz3 : ¬ (z + (n : Int) < 0) := by omega
  go_enter Try.func19, Try.ntmps19
  go_wp2_with (first | ((with_reducible refine at_load rfl ?_); (with_reducible refine wpList_loadGP F rfl rfl rfl m0 Try.underlying25 rfl [s, .int .i64 k] (strRing s k tk ta tb tc tx ty dk da db dc dx dy l) infoRing rfl ?_)) | (go_at_call 61; ((with_reducible refine (heldRingR B s n k z _ hn hz hz2 (HS.out.le F.below)).mono ?_); rintro e w2 ⟨rfl, hl⟩; replace F := F.le hl; clear hl)))
  go_ret
  exact ⟨rfl, F.below⟩
set_option maxRecDepth 100000 in
set_option maxHeartbeats 2000000 in
theorem toStringR (B : Nat) (s : Value) (x : Nat → Nat) (n : Nat) (k tk : Int) (ta tb tc tx ty : Nat) (dk : Int) (da db dc dx dy l : Nat) (w : World) (hs : RdS w B s x n) (hn : n ≤ 1048576) :
    Calls Try.prog 22 #[.agg #[s, .int .i64 k, .int .i64 tk, .float .f32 ta, .float .f32 tb, .float .f32 tc, .float .f32 tx, .float .f32 ty, .int .i64 dk, .float .f32 da, .float .f32 db, .float .f32 dc, .float .f32 dx, .float .f32 dy, .float .f32 l]] w fun e w' => ∃ s', e = .returned (.agg #[s', .int .i64 k, .int .i64 tk, .float .f32 ta, .float .f32 tb, .float .f32 tc, .float .f32 tx, .float .f32 ty, .int .i64 dk, .float .f32 da, .float .f32 db, .float .f32 dc, .float .f32 dx, .float .f32 dy, .float .f32 l]) ∧ OwnS w' w.heap.size w'.heap.size s' x n ∧ le w w' := by
  have HS := hid hs; clear hs
  have F := (((Frg.nil w).box 40 #[s, .int .i64 k, .int .i64 tk, .float .f32 ta, .float .f32 tb, .float .f32 tc, .float .f32 tx, .float .f32 ty, .int .i64 dk, .float .f32 da, .float .f32 db, .float .f32 dc, .float .f32 dx, .float .f32 dy, .float .f32 l]).box 31 #[.slice none 0 0, .int .i64 0, .int .i64 0, .float .f32 0, .float .f32 0, .float .f32 0, .float .f32 0, .float .f32 0, .int .i64 0, .float .f32 0, .float .f32 0, .float .f32 0, .float .f32 0, .float .f32 0, .float .f32 0]).box 31 #[.slice none 0 0, .int .i64 0, .int .i64 0, .float .f32 0, .float .f32 0, .float .f32 0, .float .f32 0, .float .f32 0, .int .i64 0, .float .f32 0, .float .f32 0, .float .f32 0, .float .f32 0, .float .f32 0, .float .f32 0]
  simp only [World.size_alloc] at F
  go_enter Try.func22, Try.ntmps22
  go_wp2_with (first | ((with_reducible refine at_load rfl ?_); first | (with_reducible refine wpList_loadGP F rfl rfl rfl m2 Try.underlying37 rfl [s, .int .i64 k] (strRing s k tk ta tb tc tx ty dk da db dc dx dy l) infoRingL' rfl ?_) | (with_reducible refine wpList_loadGP F rfl rfl rfl m3 Try.underlying38 rfl [.int .i64 tk, .float .f32 ta, .float .f32 tb, .float .f32 tc, .float .f32 tx, .float .f32 ty] (strTune s k tk ta tb tc tx ty dk da db dc dx dy l) infoFilL' rfl ?_) | (with_reducible refine wpList_loadGP F rfl rfl rfl m3 Try.underlying38 rfl [.int .i64 dk, .float .f32 da, .float .f32 db, .float .f32 dc, .float .f32 dx, .float .f32 dy] (strDamp s k tk ta tb tc tx ty dk da db dc dx dy l) infoFilL' rfl ?_)) | (go_at_call 64; ((with_reducible refine (toRingR B s x n k _ (HS.out.le F.below) hn).mono ?_); rintro e w1 ⟨s', rfl, ho, hl⟩; have OC := hid (OwnS.one ho); replace F := F.own1 hl ho; clear ho hl)) | (go_at_call 65; ((with_reducible refine (toFil_any _ _ _ _ _ _ _).mono ?_); rintro e w3 ⟨rfl, hl3⟩; replace F := F.le hl3; clear hl3)) | ((with_reducible refine stop_store rfl ?_)))
  show wpList _ _ _ _ _ _
  refine wpList_storeP rfl rfl rfl (f := 0) (cells := [s', .int .i64 k]) rfl (F.row m1) infoRing (by simp) (one_head OC.out rfl) (fun w2 K => ?_)
  replace F := F.wr1 (cs' := #[s', .int .i64 k, .int .i64 0, .float .f32 0, .float .f32 0, .float .f32 0, .float .f32 0, .float .f32 0, .int .i64 0, .float .f32 0, .float .f32 0, .float .f32 0, .float .f32 0, .float .f32 0, .float .f32 0]) K
  clear K
  go_wp2_with (first | ((with_reducible refine at_load rfl ?_); first | (with_reducible refine wpList_loadGP F rfl rfl rfl m2 Try.underlying37 rfl [s, .int .i64 k] (strRing s k tk ta tb tc tx ty dk da db dc dx dy l) infoRingL' rfl ?_) | (with_reducible refine wpList_loadGP F rfl rfl rfl m3 Try.underlying38 rfl [.int .i64 tk, .float .f32 ta, .float .f32 tb, .float .f32 tc, .float .f32 tx, .float .f32 ty] (strTune s k tk ta tb tc tx ty dk da db dc dx dy l) infoFilL' rfl ?_) | (with_reducible refine wpList_loadGP F rfl rfl rfl m3 Try.underlying38 rfl [.int .i64 dk, .float .f32 da, .float .f32 db, .float .f32 dc, .float .f32 dx, .float .f32 dy] (strDamp s k tk ta tb tc tx ty dk da db dc dx dy l) infoFilL' rfl ?_)) | (go_at_call 65; ((with_reducible refine (toFil_any _ _ _ _ _ _ _).mono ?_); rintro e w3 ⟨rfl, hl3⟩; replace F := F.le hl3; clear hl3)) | ((with_reducible refine stop_store rfl ?_)))
  show wpList _ _ _ _ _ _
  refine wpList_storeP rfl rfl rfl (f := 2) (cells := [.int .i64 tk, .float .f32 ta, .float .f32 tb, .float .f32 tc, .float .f32 tx, .float .f32 ty]) rfl (F.row m1) infoFil (by simp) (by simp [Value.oneCell']) (fun w4 K => ?_)
  replace F := F.wr1 (cs' := #[s', .int .i64 k, .int .i64 tk, .float .f32 ta, .float .f32 tb, .float .f32 tc, .float .f32 tx, .float .f32 ty, .int .i64 0, .float .f32 0, .float .f32 0, .float .f32 0, .float .f32 0, .float .f32 0, .float .f32 0]) K
  clear K
  go_wp2_with (first | ((with_reducible refine at_load rfl ?_); first | (with_reducible refine wpList_loadGP F rfl rfl rfl m2 Try.underlying37 rfl [s, .int .i64 k] (strRing s k tk ta tb tc tx ty dk da db dc dx dy l) infoRingL' rfl ?_) | (with_reducible refine wpList_loadGP F rfl rfl rfl m3 Try.underlying38 rfl [.int .i64 tk, .float .f32 ta, .float .f32 tb, .float .f32 tc, .float .f32 tx, .float .f32 ty] (strTune s k tk ta tb tc tx ty dk da db dc dx dy l) infoFilL' rfl ?_) | (with_reducible refine wpList_loadGP F rfl rfl rfl m3 Try.underlying38 rfl [.int .i64 dk, .float .f32 da, .float .f32 db, .float .f32 dc, .float .f32 dx, .float .f32 dy] (strDamp s k tk ta tb tc tx ty dk da db dc dx dy l) infoFilL' rfl ?_)) | (go_at_call 65; ((with_reducible refine (toFil_any _ _ _ _ _ _ _).mono ?_); rintro e w3 ⟨rfl, hl3⟩; replace F := F.le hl3; clear hl3)) | ((with_reducible refine stop_store rfl ?_)))
  show wpList _ _ _ _ _ _
  refine wpList_storeP rfl rfl rfl (f := 8) (cells := [.int .i64 dk, .float .f32 da, .float .f32 db, .float .f32 dc, .float .f32 dx, .float .f32 dy]) rfl (F.row m1) infoFil (by simp) (by simp [Value.oneCell']) (fun w5 K => ?_)
  replace F := F.wr1 (cs' := #[s', .int .i64 k, .int .i64 tk, .float .f32 ta, .float .f32 tb, .float .f32 tc, .float .f32 tx, .float .f32 ty, .int .i64 dk, .float .f32 da, .float .f32 db, .float .f32 dc, .float .f32 dx, .float .f32 dy, .float .f32 0]) K
  clear K
  have c14 := (F.row m3).cell? 14
  have d14 := (F.row m1).cell? 14
  have f14 := (F.row m1).frozen 14
  go_wp2_with (first | ((with_reducible refine at_load rfl ?_); (with_reducible refine wpList_loadG (F.set1 14 (.float .f32 l)) rfl rfl rfl m1 Try.underlying31 rfl infoStr (by simp) ?_)) | ((with_reducible refine stop_store (ty := 31) rfl ?_)))
  show wpList _ _ _ _ _ _
  replace F := F.set1 14 (.float .f32 l)
  refine wpList_storeD rfl rfl rfl (cells := #[s', .int .i64 k, .int .i64 tk, .float .f32 ta, .float .f32 tb, .float .f32 tc, .float .f32 tx, .float .f32 ty, .int .i64 dk, .float .f32 da, .float .f32 db, .float .f32 dc, .float .f32 dx, .float .f32 dy, .float .f32 l]) rfl (F.row m2) infoStr rfl (one_head OC.out rfl) (fun w6 K => ?_)
  have R := hid K.row
  have L := hid (F.fin2 K)
  clear K F
  go_wp2
  exact bodyPost_ret (results_row1 rfl _ _ _ _ _ rfl R.out Try.underlying31 rfl infoStr) rfl ⟨_, rfl, L.out.1, L.out.2⟩
theorem toStringK (w0 : World) (B : Nat) (s : Value) (x : Nat → Nat) (n : Nat) (k tk : Int) (ta tb tc tx ty : Nat) (dk : Int) (da db dc dx dy l : Nat) (w : World) (hl : le w0 w) (hs : RdS w0 B s x n) (hn : n ≤ 1048576) :
    Calls Try.prog 22 #[.agg #[s, .int .i64 k, .int .i64 tk, .float .f32 ta, .float .f32 tb, .float .f32 tc, .float .f32 tx, .float .f32 ty, .int .i64 dk, .float .f32 da, .float .f32 db, .float .f32 dc, .float .f32 dx, .float .f32 dy, .float .f32 l]] w fun e w' => ∃ v, e = .returned v ∧ le w w' ∧ KStr w0 #[.agg #[s, .int .i64 k, .int .i64 tk, .float .f32 ta, .float .f32 tb, .float .f32 tc, .float .f32 tx, .float .f32 ty, .int .i64 dk, .float .f32 da, .float .f32 db, .float .f32 dc, .float .f32 dx, .float .f32 dy, .float .f32 l]] w' v := by
  refine (toStringR B s x n k tk ta tb tc tx ty dk da db dc dx dy l w (hs.le hl) hn).mono ?_
  rintro e w' ⟨s', rfl, ho, hl'⟩
  refine ⟨_, rfl, hl', ?_⟩
  intro s2 k2 tk2 ta2 tb2 tc2 tx2 ty2 dk2 da2 db2 dc2 dx2 dy2 l2 B2 x2 n2 e2 hr
  simp only [Array.mk.injEq, List.cons.injEq, Value.agg.injEq, Value.int.injEq, Value.float.injEq, true_and, and_true] at e2
  obtain ⟨rfl, rfl, rfl, rfl, rfl, rfl, rfl, rfl, rfl, rfl, rfl, rfl, rfl, rfl, rfl⟩ := e2
  obtain ⟨rfl, hx⟩ := hs.uniq hr
  exact ⟨s', _, rfl, ho.rd.congr hx⟩
end Go.Proofs.Ytaenbpkcehenkac
