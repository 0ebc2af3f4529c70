/- Texts of the walk, laid in one file. -/
import Derived.Test.YtnkjmgadnejdladRows
import Derived.Handy
import Derived.Below
import Derived.Test.YtnkjmgadnejdladMb
set_option linter.unusedVariables false
set_option linter.unusedSimpArgs false
/- What functions give, by their results' kinds. Nothing here names a program. -/
namespace Go.Fk
open Go Go.RowKit
def Out_b (ar0 : Bool) (w : World) (e : Ending) (w' : World) : Prop := e = .returned (.bool ar0) ∧ le w w'
def Out_rfi (xr0 : Nat → Nat) (nr0 : Nat) (kr0 : Int) (ar1 : Nat) (ar2 : Int) (w : World) (e : Ending) (w' : World) : Prop := ∃ (v0 : Value) (v1 : Nat), e = .returned (.tuple #[.agg #[v0, .int .i64 kr0], .float .f32 v1, .int .i64 ar2]) ∧ OwnS w' w.heap.size w'.heap.size v0 xr0 nr0 ∧ can .f32 v1 = ar1 ∧ le w w'
def Out_fi (ar0 : Nat) (ar1 : Int) (w : World) (e : Ending) (w' : World) : Prop := ∃ (v0 : Nat), e = .returned (.tuple #[.float .f32 v0, .int .i64 ar1]) ∧ can .f32 v0 = ar0 ∧ le w w'
def Out_ri (xr0 : Nat → Nat) (nr0 : Nat) (kr0 : Int) (ar1 : Int) (w : World) (e : Ending) (w' : World) : Prop := ∃ (v0 : Value), e = .returned (.tuple #[.agg #[v0, .int .i64 kr0], .int .i64 ar1]) ∧ OwnS w' w.heap.size w'.heap.size v0 xr0 nr0 ∧ le w w'
def Out_si (xr0 : Nat → Nat) (nr0 : Nat) (kr0 : Int) (tkr0 : Int) (tar0 : Nat) (tbr0 : Nat) (tcr0 : Nat) (txr0 : Nat) (tyr0 : Nat) (dkr0 : Int) (dar0 : Nat) (dbr0 : Nat) (dcr0 : Nat) (dxr0 : Nat) (dyr0 : Nat) (lr0 : Nat) (ar1 : Int) (w : World) (e : Ending) (w' : World) : Prop := ∃ (v0 : Value), e = .returned (.tuple #[.agg #[v0, .int .i64 kr0, .int .i64 tkr0, .float .f32 tar0, .float .f32 tbr0, .float .f32 tcr0, .float .f32 txr0, .float .f32 tyr0, .int .i64 dkr0, .float .f32 dar0, .float .f32 dbr0, .float .f32 dcr0, .float .f32 dxr0, .float .f32 dyr0, .float .f32 lr0], .int .i64 ar1]) ∧ OwnS w' w.heap.size w'.heap.size v0 xr0 nr0 ∧ le w w'
def Out_sfi (xr0 : Nat → Nat) (nr0 : Nat) (kr0 : Int) (tkr0 : Int) (tar0 : Nat) (tbr0 : Nat) (tcr0 : Nat) (txr0 : Nat) (tyr0 : Nat) (dkr0 : Int) (dar0 : Nat) (dbr0 : Nat) (dcr0 : Nat) (dxr0 : Nat) (dyr0 : Nat) (lr0 : Nat) (ar1 : Nat) (ar2 : Int) (w : World) (e : Ending) (w' : World) : Prop := ∃ (v0 : Value) (v1 : Nat), e = .returned (.tuple #[.agg #[v0, .int .i64 kr0, .int .i64 tkr0, .float .f32 tar0, .float .f32 tbr0, .float .f32 tcr0, .float .f32 txr0, .float .f32 tyr0, .int .i64 dkr0, .float .f32 dar0, .float .f32 dbr0, .float .f32 dcr0, .float .f32 dxr0, .float .f32 dyr0, .float .f32 lr0], .float .f32 v1, .int .i64 ar2]) ∧ OwnS w' w.heap.size w'.heap.size v0 xr0 nr0 ∧ can .f32 v1 = ar1 ∧ le w w'
def Out_sui (xr0 : Nat → Nat) (nr0 : Nat) (kr0 : Int) (tkr0 : Int) (tar0 : Nat) (tbr0 : Nat) (tcr0 : Nat) (txr0 : Nat) (tyr0 : Nat) (dkr0 : Int) (dar0 : Nat) (dbr0 : Nat) (dcr0 : Nat) (dxr0 : Nat) (dyr0 : Nat) (lr0 : Nat) (ar1 : Int) (ar2 : Int) (w : World) (e : Ending) (w' : World) : Prop := ∃ (v0 : Value), e = .returned (.tuple #[.agg #[v0, .int .i64 kr0, .int .i64 tkr0, .float .f32 tar0, .float .f32 tbr0, .float .f32 tcr0, .float .f32 txr0, .float .f32 tyr0, .int .i64 dkr0, .float .f32 dar0, .float .f32 dbr0, .float .f32 dcr0, .float .f32 dxr0, .float .f32 dyr0, .float .f32 lr0], .int .u32 ar1, .int .i64 ar2]) ∧ OwnS w' w.heap.size w'.heap.size v0 xr0 nr0 ∧ le w w'
def Out_sli (xr0 : Nat → Nat) (nr0 : Nat) (kr0 : Int) (tkr0 : Int) (tar0 : Nat) (tbr0 : Nat) (tcr0 : Nat) (txr0 : Nat) (tyr0 : Nat) (dkr0 : Int) (dar0 : Nat) (dbr0 : Nat) (dcr0 : Nat) (dxr0 : Nat) (dyr0 : Nat) (lr0 : Nat) (xr1 : Nat → Nat) (nr1 : Nat) (ar2 : Int) (w : World) (e : Ending) (w' : World) : Prop := ∃ (v0 : Value) (v1 : Value) (q : Nat), e = .returned (.tuple #[.agg #[v0, .int .i64 kr0, .int .i64 tkr0, .float .f32 tar0, .float .f32 tbr0, .float .f32 tcr0, .float .f32 txr0, .float .f32 tyr0, .int .i64 dkr0, .float .f32 dar0, .float .f32 dbr0, .float .f32 dcr0, .float .f32 dxr0, .float .f32 dyr0, .float .f32 lr0], v1, .int .i64 ar2]) ∧ OwnS w' w.heap.size q v0 xr0 nr0 ∧ OwnS w' q w'.heap.size v1 xr1 nr1 ∧ w.heap.size ≤ q ∧ q ≤ w'.heap.size ∧ le w w'
def Out_bi (ar0 : Bool) (ar1 : Int) (w : World) (e : Ending) (w' : World) : Prop := e = .returned (.tuple #[.bool ar0, .int .i64 ar1]) ∧ le w w'
def Out_ii (ar0 : Int) (ar1 : Int) (w : World) (e : Ending) (w' : World) : Prop := e = .returned (.tuple #[.int .i64 ar0, .int .i64 ar1]) ∧ le w w'
def Out_s (xr0 : Nat → Nat) (nr0 : Nat) (kr0 : Int) (tkr0 : Int) (tar0 : Nat) (tbr0 : Nat) (tcr0 : Nat) (txr0 : Nat) (tyr0 : Nat) (dkr0 : Int) (dar0 : Nat) (dbr0 : Nat) (dcr0 : Nat) (dxr0 : Nat) (dyr0 : Nat) (lr0 : Nat) (w : World) (e : Ending) (w' : World) : Prop := ∃ (v0 : Value), e = .returned (.agg #[v0, .int .i64 kr0, .int .i64 tkr0, .float .f32 tar0, .float .f32 tbr0, .float .f32 tcr0, .float .f32 txr0, .float .f32 tyr0, .int .i64 dkr0, .float .f32 dar0, .float .f32 dbr0, .float .f32 dcr0, .float .f32 dxr0, .float .f32 dyr0, .float .f32 lr0]) ∧ OwnS w' w.heap.size w'.heap.size v0 xr0 nr0 ∧ le w w'
def Out_li (xr0 : Nat → Nat) (nr0 : Nat) (ar1 : Int) (w : World) (e : Ending) (w' : World) : Prop := ∃ (v0 : Value), e = .returned (.tuple #[v0, .int .i64 ar1]) ∧ OwnS w' w.heap.size w'.heap.size v0 xr0 nr0 ∧ le w w'
def Out_f (ar0 : Nat) (w : World) (e : Ending) (w' : World) : Prop := ∃ (v0 : Nat), e = .returned (.float .f32 v0) ∧ can .f32 v0 = ar0 ∧ le w w'
end Go.Fk

/- The laws' helpers for Tuning, over trees of data. -/
namespace Go.Proofs.Ytnkjmgadnejdlad
open Go.RowKit Go.Fk
set_option maxRecDepth 100000 in
set_option maxHeartbeats 4000000 in
theorem szU_Tuning (B : Nat) (cs : List CD) (vs : List Value) (m r : Int) (w : World) (h : RdL w B cs vs) (hsh : ShOkL shTuning cs) (h0 : 0 ≤ m) (h1 : m ≤ 1048576) (hr : lessBy m (szL cs) = r) :
    Calls Try.prog 18 #[.agg vs.toArray, .int .i64 m] w (OutI r w) := by
  obtain ⟨c0, cs, rfl, q0, hsh⟩ := hsh.inv
  obtain ⟨c1, cs, rfl, q1, hsh⟩ := hsh.inv
  obtain ⟨c2, cs, rfl, q2, hsh⟩ := hsh.inv
  obtain rfl := hsh.inv0
  obtain ⟨v0, vs, rfl, r0, h⟩ := h.inv
  obtain ⟨v1, vs, rfl, r1, h⟩ := h.inv
  obtain ⟨v2, vs, rfl, r2, h⟩ := h.inv
  obtain rfl := h.inv0
  have q0 : c0.flk = some .f32 := q0
  obtain ⟨y0, rfl, f0, e0⟩ := r0.fl q0
  have q1 : c1.flk = some .f32 := q1
  obtain ⟨y1, rfl, f1, e1⟩ := r1.fl q1
  obtain ⟨n2, x2, rfl, q2⟩ := q2
  obtain ⟨a0, ha0⟩ : ∃ a : Nat, a = CD.sz (.sl 1 n2 x2) := ⟨_, rfl⟩
  have H0 := hid (fun (m r : Int) (w' : World) (hl : le w w') (h0 : 0 ≤ m) (h1 : m ≤ 1048576) (hr : lessBy m a0 = r) => szU_Float32S B _ _ v2 m r w' (r2.le hl) q2 h0 h1 (ha0 ▸ hr))
  replace hr : Hid (lessBy m (a0) = r) := by rw [← hr]; congr 1; try (first | (simp only [szL, List.map_cons, List.map_nil, List.sum_cons, List.sum_nil, CD.sz, ha0, CD.sz_fl q0, CD.sz_fl q1]; done) | (simp only [szL, List.map_cons, List.map_nil, List.sum_cons, List.sum_nil, CD.sz, ha0, CD.sz_fl q0, CD.sz_fl q1]; omega))
  clear ha0
  have F := (Frg.nil w).box 25 #[.float .f32 y0, .float .f32 y1, v2]
  by_cases g0 : m - (a0 : Int) < 0
  · have er : r = -1 := by have := hr.out; rw [lessBy_neg (by omega)] at this; omega
    subst er
    clear hr
    go_enter Try.func18, Try.ntmps18
    go_wp2_with (first | ((with_reducible refine at_load rfl ?_); first | (with_reducible refine wpList_load1 F rfl rfl rfl (by first | exact m0) (f := 0) (v := .float .f32 y0) rfl ukindFloat32 ?_) | (with_reducible refine wpList_load1 F rfl rfl rfl (by first | exact m0) (f := 1) (v := .float .f32 y1) rfl ukindFloat32 ?_) | (with_reducible refine wpList_load1 F rfl rfl rfl (by first | exact m0) (f := 2) (v := v2) rfl ukindFloat32S ?_)) | (go_at_call 36; ((with_reducible refine (H0.out m (-1 : Int) _ F.below (by omega) (by omega) (by exact lessBy_neg (by omega))).mono ?_); rintro e w1 ⟨rfl, hl⟩; replace F := F.le hl; clear hl)))
    go_ret
    exact ⟨rfl, F.below⟩
  · skip
    have er : r = (m - (a0 : Int)) := by have := hr.out; rw [lessBy_pos (by omega)] at this; omega
    subst er
    clear hr
    go_enter Try.func18, Try.ntmps18
    go_wp2_with (first | ((with_reducible refine at_load rfl ?_); first | (with_reducible refine wpList_load1 F rfl rfl rfl (by first | exact m0) (f := 0) (v := .float .f32 y0) rfl ukindFloat32 ?_) | (with_reducible refine wpList_load1 F rfl rfl rfl (by first | exact m0) (f := 1) (v := .float .f32 y1) rfl ukindFloat32 ?_) | (with_reducible refine wpList_load1 F rfl rfl rfl (by first | exact m0) (f := 2) (v := v2) rfl ukindFloat32S ?_)) | (go_at_call 36; ((with_reducible refine (H0.out m (m - (a0 : Int)) _ F.below (by omega) (by omega) (by exact lessBy_pos (by omega))).mono ?_); rintro e w1 ⟨rfl, hl⟩; replace F := F.le hl; clear hl)))
    go_ret
    exact ⟨rfl, F.below⟩
set_option maxRecDepth 100000 in
set_option maxHeartbeats 4000000 in
theorem eqU_Tuning (B B' : Nat) (cs : List CD) (vs vs' : List Value) (w : World) (h : RdL w B cs vs) (h' : RdL w B' cs vs') (hsh : ShOkL shTuning cs) (hz : szL cs ≤ 1048576) :
    Calls Try.prog 30 #[.agg vs.toArray, .agg vs'.toArray] w (OutT w) := by
  obtain ⟨c0, cs, rfl, q0, hsh⟩ := hsh.inv
  obtain ⟨c1, cs, rfl, q1, hsh⟩ := hsh.inv
  obtain ⟨c2, cs, rfl, q2, hsh⟩ := hsh.inv
  obtain rfl := hsh.inv0
  obtain ⟨v0, vs, rfl, r0, h⟩ := h.inv
  obtain ⟨v1, vs, rfl, r1, h⟩ := h.inv
  obtain ⟨v2, vs, rfl, r2, h⟩ := h.inv
  obtain rfl := h.inv0
  obtain ⟨v0', vs', rfl, r0', h'⟩ := h'.inv
  obtain ⟨v1', vs', rfl, r1', h'⟩ := h'.inv
  obtain ⟨v2', vs', rfl, r2', h'⟩ := h'.inv
  obtain rfl := h'.inv0
  have q0 : c0.flk = some .f32 := q0
  obtain ⟨y0, rfl, f0, e0⟩ := r0.fl q0
  obtain ⟨y0', rfl, f0', e0'⟩ := r0'.fl q0
  have q1 : c1.flk = some .f32 := q1
  obtain ⟨y1, rfl, f1, e1⟩ := r1.fl q1
  obtain ⟨y1', rfl, f1', e1'⟩ := r1'.fl q1
  simp only [szL, List.map_cons, List.map_nil, List.sum_cons, List.sum_nil] at hz
  have E0 := hid (e0.trans e0'.symm)
  have E1 := hid (e1.trans e1'.symm)
  obtain ⟨n2, x2, rfl, q2⟩ := q2
  have H2 := hid (fun (w' : World) (hl : le w w') => eqU_Float32S B B' _ _ v2 v2' w' (r2.le hl) (r2'.le hl) q2 (by omega))
  have F := ((Frg.nil w).box 32 #[.float .f32 y0, .float .f32 y1, v2]).box 32 #[.float .f32 y0', .float .f32 y1', v2']
  simp only [World.size_alloc] at F
  clear hz
  go_enter Try.func30, Try.ntmps30
  go_wp2_with (first | ((with_reducible refine listN F ?_); clear F; intro wN F) | ((with_reducible refine at_load rfl ?_); first | (with_reducible refine wpList_load1 F rfl rfl rfl (by first | exact m0 | exact m1) (f := 0) (v := .float .f32 y0) rfl ukindFloat32 ?_) | (with_reducible refine wpList_load1 F rfl rfl rfl (by first | exact m0 | exact m1) (f := 1) (v := .float .f32 y1) rfl ukindFloat32 ?_) | (with_reducible refine wpList_load1 F rfl rfl rfl (by first | exact m0 | exact m1) (f := 2) (v := v2) rfl ukindFloat32S ?_) | (with_reducible refine wpList_load1 F rfl rfl rfl (by first | exact m0 | exact m1) (f := 0) (v := .float .f32 y0') rfl ukindFloat32 ?_) | (with_reducible refine wpList_load1 F rfl rfl rfl (by first | exact m0 | exact m1) (f := 1) (v := .float .f32 y1') rfl ukindFloat32 ?_) | (with_reducible refine wpList_load1 F rfl rfl rfl (by first | exact m0 | exact m1) (f := 2) (v := v2') rfl ukindFloat32S ?_)) | (go_at_call 51; ((with_reducible refine (H2.out _ F.below).mono ?_); rintro e w1 ⟨rfl, hl⟩; replace F := F.le hl; clear hl)) | ((with_reducible refine at_convert rfl ?_); (with_reducible refine wpList_widen rfl rfl rfl Try.underlying22 Try.underlying55 ?_; intro s1 n1 h1 f1)) | (go_at_call 29; ((with_reducible refine (sameFloat_yes _ _ _ (by first | exact (Hid.out ‹Hid (can .f64 _ = can .f64 (widen y0))›).trans ((congrArg (can .f64) (widen_congr E0.out)).trans (Hid.out ‹Hid (can .f64 _ = can .f64 (widen y0'))›).symm) | exact (Hid.out ‹Hid (can .f64 _ = can .f64 (widen y1))›).trans ((congrArg (can .f64) (widen_congr E1.out)).trans (Hid.out ‹Hid (can .f64 _ = can .f64 (widen y1'))›).symm))).mono ?_); rintro e w7 ⟨rfl, dq7, rfl⟩; skip)))
  go_ret
  first | exact ⟨rfl, F.below⟩ | exact ⟨rfl, below_drewN F.below _⟩
theorem invf_Tuning {w : World} {S : Nat → Prop} {us : List Value} (c0 : CD) (c1 : CD) (n2 : Nat) (x2 : Nat → CD) (q0 : c0.flk = some .f32) (q1 : c1.flk = some .f32) (h : LayL w S (([(c0), (c1), (.sl 1 n2 x2)] : List CD).map CD.cp) us) : ∃ (g0 : Nat) (g1 : Nat) (u2 : Value), u2.oneCell' = true ∧ us = [.float .f32 g0, .float .f32 g1, u2] ∧ LayL w S (([(c0), (c1), (.sl 1 n2 x2)] : List CD).map CD.cp) [.float .f32 g0, .float .f32 g1, u2] := by
  have h0 := h
  simp only [List.map_cons, List.map_nil] at h
  obtain ⟨u0, us0, _, _, rfl, l0, hh0, _, _, _⟩ := h.inv
  obtain ⟨g0, rfl⟩ := lay_fl q0 l0
  obtain ⟨u1, us1, _, _, rfl, l1, hh1, _, _, _⟩ := hh0.inv
  obtain ⟨g1, rfl⟩ := lay_fl q1 l1
  obtain ⟨u2, us2, _, _, rfl, l2, hh2, _, _, _⟩ := hh1.inv
  obtain rfl := hh2.inv0
  exact ⟨g0, g1, u2, l2.one, rfl, h0⟩
set_option maxRecDepth 100000 in
set_option maxHeartbeats 4000000 in
theorem toU_Tuning (B : Nat) (cs : List CD) (vs : List Value) (w : World) (h : RdL w B cs vs) (hsh : ShOkL shTuning cs) (hz : szL cs ≤ 1048576) :
    Calls Try.prog 22 #[.agg vs.toArray] w (OutA' (cs.map CD.cp) w) := by
  obtain ⟨c0, cs, rfl, q0, hsh⟩ := hsh.inv
  obtain ⟨c1, cs, rfl, q1, hsh⟩ := hsh.inv
  obtain ⟨c2, cs, rfl, q2, hsh⟩ := hsh.inv
  obtain rfl := hsh.inv0
  obtain ⟨v0, vs, rfl, r0, h⟩ := h.inv
  obtain ⟨v1, vs, rfl, r1, h⟩ := h.inv
  obtain ⟨v2, vs, rfl, r2, h⟩ := h.inv
  obtain rfl := h.inv0
  have q0 : c0.flk = some .f32 := q0
  obtain ⟨y0, rfl, f0, e0⟩ := r0.fl q0
  have q1 : c1.flk = some .f32 := q1
  obtain ⟨y1, rfl, f1, e1⟩ := r1.fl q1
  simp only [szL, List.map_cons, List.map_nil, List.sum_cons, List.sum_nil] at hz
  obtain ⟨n2, x2, rfl, q2⟩ := q2
  have H2 := hid (fun (w' : World) (hl : le w w') => toU_Float32S B _ _ v2 w' (r2.le hl) q2 (by omega))
  have F := (((Frg.nil w).box 25 #[.float .f32 y0, .float .f32 y1, v2]).box 32 #[.float .f32 0, .float .f32 0, .slice none 0 0]).box 32 #[.float .f32 0, .float .f32 0, .slice none 0 0]
  simp only [World.size_alloc] at F
  clear hz
  go_enter Try.func22, Try.ntmps22
  go_wp2_with (first | ((with_reducible refine listN F ?_); clear F; intro wN F) | ((with_reducible refine at_load rfl ?_); first | (with_reducible refine wpList_load1 F rfl rfl rfl (by first | exact m0 | exact m1 | exact m2 | exact m3) (f := 0) (v := .float .f32 y0) rfl ukindFloat32 ?_) | (with_reducible refine wpList_load1 F rfl rfl rfl (by first | exact m0 | exact m1 | exact m2 | exact m3) (f := 1) (v := .float .f32 y1) rfl ukindFloat32 ?_) | (with_reducible refine wpList_load1 F rfl rfl rfl (by first | exact m0 | exact m1 | exact m2 | exact m3) (f := 2) (v := v2) rfl ukindFloat32S ?_)) | (with_reducible refine stop_store rfl ?_))
  show wpList _ _ _ _ _ _
  refine wpList_store1 rfl rfl (f := 0) rfl rfl (F.row m0) uinfo1Float32 (by simp) rfl #[.float .f32 y0, .float .f32 0, .slice none 0 0] rfl (fun w2 K => ?_)
  replace F := F.wrI0 (cs' := #[.float .f32 y0, .float .f32 0, .slice none 0 0]) K
  clear K
  go_wp2_with (first | ((with_reducible refine listN F ?_); clear F; intro wN F) | ((with_reducible refine at_load rfl ?_); first | (with_reducible refine wpList_load1 F rfl rfl rfl (by first | exact m0 | exact m1 | exact m2 | exact m3) (f := 0) (v := .float .f32 y0) rfl ukindFloat32 ?_) | (with_reducible refine wpList_load1 F rfl rfl rfl (by first | exact m0 | exact m1 | exact m2 | exact m3) (f := 1) (v := .float .f32 y1) rfl ukindFloat32 ?_) | (with_reducible refine wpList_load1 F rfl rfl rfl (by first | exact m0 | exact m1 | exact m2 | exact m3) (f := 2) (v := v2) rfl ukindFloat32S ?_)) | (with_reducible refine stop_store rfl ?_))
  show wpList _ _ _ _ _ _
  refine wpList_store1 rfl rfl (f := 1) rfl rfl (F.row m0) uinfo1Float32 (by simp) rfl #[.float .f32 y0, .float .f32 y1, .slice none 0 0] rfl (fun w2 K => ?_)
  replace F := F.wrI0 (cs' := #[.float .f32 y0, .float .f32 y1, .slice none 0 0]) K
  clear K
  go_wp2_with (first | ((with_reducible refine listN F ?_); clear F; intro wN F) | ((with_reducible refine at_load rfl ?_); first | (with_reducible refine wpList_load1 F rfl rfl rfl (by first | exact m0 | exact m1 | exact m2 | exact m3) (f := 0) (v := .float .f32 y0) rfl ukindFloat32 ?_) | (with_reducible refine wpList_load1 F rfl rfl rfl (by first | exact m0 | exact m1 | exact m2 | exact m3) (f := 1) (v := .float .f32 y1) rfl ukindFloat32 ?_) | (with_reducible refine wpList_load1 F rfl rfl rfl (by first | exact m0 | exact m1 | exact m2 | exact m3) (f := 2) (v := v2) rfl ukindFloat32S ?_)) | (go_at_call 41; ((with_reducible refine (H2.out _ F.below).mono ?_); rintro e w1 ⟨u2, rfl, ho, hl⟩; have O2 := hid ho.one; replace F := F.lay1 hl (LayL.cons ho (LayL.nil _ (fun _ => False)) (fun _ h => h) (fun _ h => h.elim) (fun _ _ h => h)); clear ho hl)) | (with_reducible refine stop_store rfl ?_))
  show wpList _ _ _ _ _ _
  refine wpList_store1 rfl rfl (f := 2) rfl rfl (F.row m1) uinfo1Float32S (by simp) O2.out #[.float .f32 y0, .float .f32 y1, u2] rfl (fun w2 K => ?_)
  replace F := F.wrI1 (cs' := #[.float .f32 y0, .float .f32 y1, u2]) K
  clear K
  go_wp2_with (first | ((with_reducible refine listN F ?_); clear F; intro wN F) | ((with_reducible refine at_load rfl ?_); (with_reducible refine wpList_loadG F rfl rfl rfl (by first | exact m0 | exact m1) Try.underlying32 rfl uinfoTuningI rfl ?_)) | (with_reducible refine stop_store rfl ?_))
  show wpList _ _ _ _ _ _
  refine wpList_storeD rfl rfl rfl (cells := #[.float .f32 y0, .float .f32 y1, u2]) rfl (F.row m2) uinfoTuningI rfl (by (simp only [List.all_toArray', List.all_cons, List.all_nil, Bool.and_true, Bool.true_and, O2.out]) <;> rfl) (fun w6 K => ?_)
  have R := hid K.row
  replace F := F.wrI2 K
  have E0 := Eaten.start F
  replace E0 := Eaten.eat F E0
  replace F := F.tl
  replace E0 := Eaten.leaf (c := CD.cp c1) (v := .float .f32 y1) E0 (r1.leafLay (flk_ne q1))
  replace E0 := Eaten.leaf (c := CD.cp c0) (v := .float .f32 y0) E0 (r0.leafLay (flk_ne q0))
  have L := hid (show LayL _ _ _ _ ∧ le w _ from ⟨E0.fin, F.below⟩)
  clear K F E0
  go_wp2
  exact bodyPost_ret (results_row1 rfl _ _ _ _ _ rfl R.out Try.underlying32 rfl uinfoTuningI) rfl ⟨[.float .f32 y0, .float .f32 y1, u2], rfl, L.out.1, L.out.2⟩
end Go.Proofs.Ytnkjmgadnejdlad

/- The laws' helpers for Instrument, over trees of data. -/
namespace Go.Proofs.Ytnkjmgadnejdlad
open Go.RowKit Go.Fk
set_option maxRecDepth 100000 in
set_option maxHeartbeats 4000000 in
theorem szU_Instrument (B : Nat) (cs : List CD) (vs : List Value) (m r : Int) (w : World) (h : RdL w B cs vs) (hsh : ShOkL shInstrument cs) (h0 : 0 ≤ m) (h1 : m ≤ 1048576) (hr : lessBy m (szL cs) = r) :
    Calls Try.prog 37 #[.agg vs.toArray, .int .i64 m] w (OutI r w) := by
  obtain ⟨c0, cs, rfl, q0, hsh⟩ := hsh.inv
  obtain ⟨c1, cs, rfl, q1, hsh⟩ := hsh.inv
  obtain ⟨c2, cs, rfl, q2, hsh⟩ := hsh.inv
  obtain ⟨c3, cs, rfl, q3, hsh⟩ := hsh.inv
  obtain ⟨c4, cs, rfl, q4, hsh⟩ := hsh.inv
  obtain rfl := hsh.inv0
  obtain ⟨v0, vs, rfl, r0, h⟩ := h.inv
  obtain ⟨v1, vs, rfl, r1, h⟩ := h.inv
  obtain ⟨v2, vs, rfl, r2, h⟩ := h.inv
  obtain ⟨v3, vs, rfl, r3, h⟩ := h.inv
  obtain ⟨v4, vs, rfl, r4, h⟩ := h.inv
  obtain rfl := h.inv0
  obtain ⟨t0, rfl⟩ := q0
  obtain ⟨rfl, wf0⟩ := r0
  obtain ⟨z1, rfl⟩ := q1
  obtain ⟨rfl, wf1⟩ := r1
  have q2 : c2.flk = some .f32 := q2
  obtain ⟨y2, rfl, f2, e2⟩ := r2.fl q2
  have q3 : c3.flk = some .f32 := q3
  obtain ⟨y3, rfl, f3, e3⟩ := r3.fl q3
  have q4 : c4.flk = some .f32 := q4
  obtain ⟨y4, rfl, f4, e4⟩ := r4.fl q4
  simp only [szL, List.map_cons, List.map_nil, List.sum_cons, List.sum_nil, CD.sz, CD.sz_fl q2, CD.sz_fl q3, CD.sz_fl q4] at hr
  have hsm := wf0
  unfold maxLen at hsm
  simp only [Nat.add_zero, Nat.zero_add] at hr
  have F := (Frg.nil w).box 66 #[.string t0, .int .i64 z1, .float .f32 y2, .float .f32 y3, .float .f32 y4]
  by_cases g : m - (t0.size : Int) < 0
  · have er : r = -1 := by rw [← hr]; exact lessBy_neg g
    subst er
    clear hr
    go_enter Try.func37, Try.ntmps37
    go_wp2_with (first | ((with_reducible refine listN F ?_); clear F; intro wN F) | ((with_reducible refine at_load rfl ?_); first | (with_reducible refine wpList_load1 F rfl rfl rfl (by first | exact m0) (f := 0) (v := .string t0) rfl ukindString ?_) | (with_reducible refine wpList_load1 F rfl rfl rfl (by first | exact m0) (f := 1) (v := .int .i64 z1) rfl ukindInt64 ?_) | (with_reducible refine wpList_load1 F rfl rfl rfl (by first | exact m0) (f := 2) (v := .float .f32 y2) rfl ukindFloat32 ?_) | (with_reducible refine wpList_load1 F rfl rfl rfl (by first | exact m0) (f := 3) (v := .float .f32 y3) rfl ukindFloat32 ?_) | (with_reducible refine wpList_load1 F rfl rfl rfl (by first | exact m0) (f := 4) (v := .float .f32 y4) rfl ukindFloat32 ?_)))
    go_ret
    exact ⟨rfl, F.below⟩
  · have er : r = m - (t0.size : Int) := by rw [← hr]; exact lessBy_pos g
    subst er
    clear hr
    go_enter Try.func37, Try.ntmps37
    go_wp2_with (first | ((with_reducible refine listN F ?_); clear F; intro wN F) | ((with_reducible refine at_load rfl ?_); first | (with_reducible refine wpList_load1 F rfl rfl rfl (by first | exact m0) (f := 0) (v := .string t0) rfl ukindString ?_) | (with_reducible refine wpList_load1 F rfl rfl rfl (by first | exact m0) (f := 1) (v := .int .i64 z1) rfl ukindInt64 ?_) | (with_reducible refine wpList_load1 F rfl rfl rfl (by first | exact m0) (f := 2) (v := .float .f32 y2) rfl ukindFloat32 ?_) | (with_reducible refine wpList_load1 F rfl rfl rfl (by first | exact m0) (f := 3) (v := .float .f32 y3) rfl ukindFloat32 ?_) | (with_reducible refine wpList_load1 F rfl rfl rfl (by first | exact m0) (f := 4) (v := .float .f32 y4) rfl ukindFloat32 ?_)))
    go_ret
    exact ⟨rfl, F.below⟩
set_option maxRecDepth 100000 in
set_option maxHeartbeats 4000000 in
theorem eqU_Instrument (B B' : Nat) (cs : List CD) (vs vs' : List Value) (w : World) (h : RdL w B cs vs) (h' : RdL w B' cs vs') (hsh : ShOkL shInstrument cs) (hz : szL cs ≤ 1048576) :
    Calls Try.prog 52 #[.agg vs.toArray, .agg vs'.toArray] w (OutT w) := by
  obtain ⟨c0, cs, rfl, q0, hsh⟩ := hsh.inv
  obtain ⟨c1, cs, rfl, q1, hsh⟩ := hsh.inv
  obtain ⟨c2, cs, rfl, q2, hsh⟩ := hsh.inv
  obtain ⟨c3, cs, rfl, q3, hsh⟩ := hsh.inv
  obtain ⟨c4, cs, rfl, q4, hsh⟩ := hsh.inv
  obtain rfl := hsh.inv0
  obtain ⟨v0, vs, rfl, r0, h⟩ := h.inv
  obtain ⟨v1, vs, rfl, r1, h⟩ := h.inv
  obtain ⟨v2, vs, rfl, r2, h⟩ := h.inv
  obtain ⟨v3, vs, rfl, r3, h⟩ := h.inv
  obtain ⟨v4, vs, rfl, r4, h⟩ := h.inv
  obtain rfl := h.inv0
  obtain ⟨v0', vs', rfl, r0', h'⟩ := h'.inv
  obtain ⟨v1', vs', rfl, r1', h'⟩ := h'.inv
  obtain ⟨v2', vs', rfl, r2', h'⟩ := h'.inv
  obtain ⟨v3', vs', rfl, r3', h'⟩ := h'.inv
  obtain ⟨v4', vs', rfl, r4', h'⟩ := h'.inv
  obtain rfl := h'.inv0
  obtain ⟨t0, rfl⟩ := q0
  obtain ⟨rfl, wf0⟩ := r0
  obtain ⟨rfl, wf0'⟩ := r0'
  obtain ⟨z1, rfl⟩ := q1
  obtain ⟨rfl, wf1⟩ := r1
  obtain ⟨rfl, wf1'⟩ := r1'
  have q2 : c2.flk = some .f32 := q2
  obtain ⟨y2, rfl, f2, e2⟩ := r2.fl q2
  obtain ⟨y2', rfl, f2', e2'⟩ := r2'.fl q2
  have q3 : c3.flk = some .f32 := q3
  obtain ⟨y3, rfl, f3, e3⟩ := r3.fl q3
  obtain ⟨y3', rfl, f3', e3'⟩ := r3'.fl q3
  have q4 : c4.flk = some .f32 := q4
  obtain ⟨y4, rfl, f4, e4⟩ := r4.fl q4
  obtain ⟨y4', rfl, f4', e4'⟩ := r4'.fl q4
  simp only [szL, List.map_cons, List.map_nil, List.sum_cons, List.sum_nil] at hz
  have E2 := hid (e2.trans e2'.symm)
  have E3 := hid (e3.trans e3'.symm)
  have E4 := hid (e4.trans e4'.symm)
  have F := ((Frg.nil w).box 69 #[.string t0, .int .i64 z1, .float .f32 y2, .float .f32 y3, .float .f32 y4]).box 69 #[.string t0, .int .i64 z1, .float .f32 y2', .float .f32 y3', .float .f32 y4']
  simp only [World.size_alloc] at F
  clear hz
  go_enter Try.func52, Try.ntmps52
  go_wp2_with (first | ((with_reducible refine listN F ?_); clear F; intro wN F) | ((with_reducible refine at_load rfl ?_); first | (with_reducible refine wpList_load1 F rfl rfl rfl (by first | exact m0 | exact m1) (f := 0) (v := .string t0) rfl ukindString ?_) | (with_reducible refine wpList_load1 F rfl rfl rfl (by first | exact m0 | exact m1) (f := 1) (v := .int .i64 z1) rfl ukindInt64 ?_) | (with_reducible refine wpList_load1 F rfl rfl rfl (by first | exact m0 | exact m1) (f := 2) (v := .float .f32 y2) rfl ukindFloat32 ?_) | (with_reducible refine wpList_load1 F rfl rfl rfl (by first | exact m0 | exact m1) (f := 3) (v := .float .f32 y3) rfl ukindFloat32 ?_) | (with_reducible refine wpList_load1 F rfl rfl rfl (by first | exact m0 | exact m1) (f := 4) (v := .float .f32 y4) rfl ukindFloat32 ?_) | (with_reducible refine wpList_load1 F rfl rfl rfl (by first | exact m0 | exact m1) (f := 0) (v := .string t0) rfl ukindString ?_) | (with_reducible refine wpList_load1 F rfl rfl rfl (by first | exact m0 | exact m1) (f := 1) (v := .int .i64 z1) rfl ukindInt64 ?_) | (with_reducible refine wpList_load1 F rfl rfl rfl (by first | exact m0 | exact m1) (f := 2) (v := .float .f32 y2') rfl ukindFloat32 ?_) | (with_reducible refine wpList_load1 F rfl rfl rfl (by first | exact m0 | exact m1) (f := 3) (v := .float .f32 y3') rfl ukindFloat32 ?_) | (with_reducible refine wpList_load1 F rfl rfl rfl (by first | exact m0 | exact m1) (f := 4) (v := .float .f32 y4') rfl ukindFloat32 ?_)) | ((with_reducible refine at_convert rfl ?_); (with_reducible refine wpList_widen rfl rfl rfl Try.underlying22 Try.underlying55 ?_; intro s1 n1 h1 f1)) | (go_at_call 29; ((with_reducible refine (sameFloat_yes _ _ _ (by first | exact (Hid.out ‹Hid (can .f64 _ = can .f64 (widen y2))›).trans ((congrArg (can .f64) (widen_congr E2.out)).trans (Hid.out ‹Hid (can .f64 _ = can .f64 (widen y2'))›).symm) | exact (Hid.out ‹Hid (can .f64 _ = can .f64 (widen y3))›).trans ((congrArg (can .f64) (widen_congr E3.out)).trans (Hid.out ‹Hid (can .f64 _ = can .f64 (widen y3'))›).symm) | exact (Hid.out ‹Hid (can .f64 _ = can .f64 (widen y4))›).trans ((congrArg (can .f64) (widen_congr E4.out)).trans (Hid.out ‹Hid (can .f64 _ = can .f64 (widen y4'))›).symm))).mono ?_); rintro e w7 ⟨rfl, dq7, rfl⟩; skip)))
  go_ret
  first | exact ⟨rfl, F.below⟩ | exact ⟨rfl, below_drewN F.below _⟩
set_option maxRecDepth 100000 in
set_option maxHeartbeats 4000000 in
theorem toU_Instrument (B : Nat) (cs : List CD) (vs : List Value) (w : World) (h : RdL w B cs vs) (hsh : ShOkL shInstrument cs) (hz : szL cs ≤ 1048576) :
    Calls Try.prog 42 #[.agg vs.toArray] w (OutA' (cs.map CD.cp) w) := by
  obtain ⟨c0, cs, rfl, q0, hsh⟩ := hsh.inv
  obtain ⟨c1, cs, rfl, q1, hsh⟩ := hsh.inv
  obtain ⟨c2, cs, rfl, q2, hsh⟩ := hsh.inv
  obtain ⟨c3, cs, rfl, q3, hsh⟩ := hsh.inv
  obtain ⟨c4, cs, rfl, q4, hsh⟩ := hsh.inv
  obtain rfl := hsh.inv0
  obtain ⟨v0, vs, rfl, r0, h⟩ := h.inv
  obtain ⟨v1, vs, rfl, r1, h⟩ := h.inv
  obtain ⟨v2, vs, rfl, r2, h⟩ := h.inv
  obtain ⟨v3, vs, rfl, r3, h⟩ := h.inv
  obtain ⟨v4, vs, rfl, r4, h⟩ := h.inv
  obtain rfl := h.inv0
  obtain ⟨t0, rfl⟩ := q0
  obtain ⟨rfl, wf0⟩ := r0
  obtain ⟨z1, rfl⟩ := q1
  obtain ⟨rfl, wf1⟩ := r1
  have q2 : c2.flk = some .f32 := q2
  obtain ⟨y2, rfl, f2, e2⟩ := r2.fl q2
  have q3 : c3.flk = some .f32 := q3
  obtain ⟨y3, rfl, f3, e3⟩ := r3.fl q3
  have q4 : c4.flk = some .f32 := q4
  obtain ⟨y4, rfl, f4, e4⟩ := r4.fl q4
  simp only [szL, List.map_cons, List.map_nil, List.sum_cons, List.sum_nil] at hz
  have F := (((Frg.nil w).box 66 #[.string t0, .int .i64 z1, .float .f32 y2, .float .f32 y3, .float .f32 y4]).box 69 #[.string ByteArray.empty, .int .i64 0, .float .f32 0, .float .f32 0, .float .f32 0]).box 69 #[.string ByteArray.empty, .int .i64 0, .float .f32 0, .float .f32 0, .float .f32 0]
  simp only [World.size_alloc] at F
  clear hz
  go_enter Try.func42, Try.ntmps42
  go_wp2_with (first | ((with_reducible refine listN F ?_); clear F; intro wN F) | ((with_reducible refine at_load rfl ?_); first | (with_reducible refine wpList_load1 F rfl rfl rfl (by first | exact m0 | exact m1 | exact m2 | exact m3) (f := 0) (v := .string t0) rfl ukindString ?_) | (with_reducible refine wpList_load1 F rfl rfl rfl (by first | exact m0 | exact m1 | exact m2 | exact m3) (f := 1) (v := .int .i64 z1) rfl ukindInt64 ?_) | (with_reducible refine wpList_load1 F rfl rfl rfl (by first | exact m0 | exact m1 | exact m2 | exact m3) (f := 2) (v := .float .f32 y2) rfl ukindFloat32 ?_) | (with_reducible refine wpList_load1 F rfl rfl rfl (by first | exact m0 | exact m1 | exact m2 | exact m3) (f := 3) (v := .float .f32 y3) rfl ukindFloat32 ?_) | (with_reducible refine wpList_load1 F rfl rfl rfl (by first | exact m0 | exact m1 | exact m2 | exact m3) (f := 4) (v := .float .f32 y4) rfl ukindFloat32 ?_)) | (with_reducible refine stop_store rfl ?_))
  show wpList _ _ _ _ _ _
  refine wpList_store1 rfl rfl (f := 0) rfl rfl (F.row m0) uinfo1String (by simp) rfl #[.string t0, .int .i64 0, .float .f32 0, .float .f32 0, .float .f32 0] rfl (fun w2 K => ?_)
  replace F := F.wrI0 (cs' := #[.string t0, .int .i64 0, .float .f32 0, .float .f32 0, .float .f32 0]) K
  clear K
  go_wp2_with (first | ((with_reducible refine listN F ?_); clear F; intro wN F) | ((with_reducible refine at_load rfl ?_); first | (with_reducible refine wpList_load1 F rfl rfl rfl (by first | exact m0 | exact m1 | exact m2 | exact m3) (f := 0) (v := .string t0) rfl ukindString ?_) | (with_reducible refine wpList_load1 F rfl rfl rfl (by first | exact m0 | exact m1 | exact m2 | exact m3) (f := 1) (v := .int .i64 z1) rfl ukindInt64 ?_) | (with_reducible refine wpList_load1 F rfl rfl rfl (by first | exact m0 | exact m1 | exact m2 | exact m3) (f := 2) (v := .float .f32 y2) rfl ukindFloat32 ?_) | (with_reducible refine wpList_load1 F rfl rfl rfl (by first | exact m0 | exact m1 | exact m2 | exact m3) (f := 3) (v := .float .f32 y3) rfl ukindFloat32 ?_) | (with_reducible refine wpList_load1 F rfl rfl rfl (by first | exact m0 | exact m1 | exact m2 | exact m3) (f := 4) (v := .float .f32 y4) rfl ukindFloat32 ?_)) | (with_reducible refine stop_store rfl ?_))
  show wpList _ _ _ _ _ _
  refine wpList_store1 rfl rfl (f := 1) rfl rfl (F.row m0) uinfo1Int64 (by simp) rfl #[.string t0, .int .i64 z1, .float .f32 0, .float .f32 0, .float .f32 0] rfl (fun w2 K => ?_)
  replace F := F.wrI0 (cs' := #[.string t0, .int .i64 z1, .float .f32 0, .float .f32 0, .float .f32 0]) K
  clear K
  go_wp2_with (first | ((with_reducible refine listN F ?_); clear F; intro wN F) | ((with_reducible refine at_load rfl ?_); first | (with_reducible refine wpList_load1 F rfl rfl rfl (by first | exact m0 | exact m1 | exact m2 | exact m3) (f := 0) (v := .string t0) rfl ukindString ?_) | (with_reducible refine wpList_load1 F rfl rfl rfl (by first | exact m0 | exact m1 | exact m2 | exact m3) (f := 1) (v := .int .i64 z1) rfl ukindInt64 ?_) | (with_reducible refine wpList_load1 F rfl rfl rfl (by first | exact m0 | exact m1 | exact m2 | exact m3) (f := 2) (v := .float .f32 y2) rfl ukindFloat32 ?_) | (with_reducible refine wpList_load1 F rfl rfl rfl (by first | exact m0 | exact m1 | exact m2 | exact m3) (f := 3) (v := .float .f32 y3) rfl ukindFloat32 ?_) | (with_reducible refine wpList_load1 F rfl rfl rfl (by first | exact m0 | exact m1 | exact m2 | exact m3) (f := 4) (v := .float .f32 y4) rfl ukindFloat32 ?_)) | (with_reducible refine stop_store rfl ?_))
  show wpList _ _ _ _ _ _
  refine wpList_store1 rfl rfl (f := 2) rfl rfl (F.row m0) uinfo1Float32 (by simp) rfl #[.string t0, .int .i64 z1, .float .f32 y2, .float .f32 0, .float .f32 0] rfl (fun w2 K => ?_)
  replace F := F.wrI0 (cs' := #[.string t0, .int .i64 z1, .float .f32 y2, .float .f32 0, .float .f32 0]) K
  clear K
  go_wp2_with (first | ((with_reducible refine listN F ?_); clear F; intro wN F) | ((with_reducible refine at_load rfl ?_); first | (with_reducible refine wpList_load1 F rfl rfl rfl (by first | exact m0 | exact m1 | exact m2 | exact m3) (f := 0) (v := .string t0) rfl ukindString ?_) | (with_reducible refine wpList_load1 F rfl rfl rfl (by first | exact m0 | exact m1 | exact m2 | exact m3) (f := 1) (v := .int .i64 z1) rfl ukindInt64 ?_) | (with_reducible refine wpList_load1 F rfl rfl rfl (by first | exact m0 | exact m1 | exact m2 | exact m3) (f := 2) (v := .float .f32 y2) rfl ukindFloat32 ?_) | (with_reducible refine wpList_load1 F rfl rfl rfl (by first | exact m0 | exact m1 | exact m2 | exact m3) (f := 3) (v := .float .f32 y3) rfl ukindFloat32 ?_) | (with_reducible refine wpList_load1 F rfl rfl rfl (by first | exact m0 | exact m1 | exact m2 | exact m3) (f := 4) (v := .float .f32 y4) rfl ukindFloat32 ?_)) | (with_reducible refine stop_store rfl ?_))
  show wpList _ _ _ _ _ _
  refine wpList_store1 rfl rfl (f := 3) rfl rfl (F.row m0) uinfo1Float32 (by simp) rfl #[.string t0, .int .i64 z1, .float .f32 y2, .float .f32 y3, .float .f32 0] rfl (fun w2 K => ?_)
  replace F := F.wrI0 (cs' := #[.string t0, .int .i64 z1, .float .f32 y2, .float .f32 y3, .float .f32 0]) K
  clear K
  go_wp2_with (first | ((with_reducible refine listN F ?_); clear F; intro wN F) | ((with_reducible refine at_load rfl ?_); first | (with_reducible refine wpList_load1 F rfl rfl rfl (by first | exact m0 | exact m1 | exact m2 | exact m3) (f := 0) (v := .string t0) rfl ukindString ?_) | (with_reducible refine wpList_load1 F rfl rfl rfl (by first | exact m0 | exact m1 | exact m2 | exact m3) (f := 1) (v := .int .i64 z1) rfl ukindInt64 ?_) | (with_reducible refine wpList_load1 F rfl rfl rfl (by first | exact m0 | exact m1 | exact m2 | exact m3) (f := 2) (v := .float .f32 y2) rfl ukindFloat32 ?_) | (with_reducible refine wpList_load1 F rfl rfl rfl (by first | exact m0 | exact m1 | exact m2 | exact m3) (f := 3) (v := .float .f32 y3) rfl ukindFloat32 ?_) | (with_reducible refine wpList_load1 F rfl rfl rfl (by first | exact m0 | exact m1 | exact m2 | exact m3) (f := 4) (v := .float .f32 y4) rfl ukindFloat32 ?_)) | (with_reducible refine stop_store rfl ?_))
  show wpList _ _ _ _ _ _
  refine wpList_store1 rfl rfl (f := 4) rfl rfl (F.row m0) uinfo1Float32 (by simp) rfl #[.string t0, .int .i64 z1, .float .f32 y2, .float .f32 y3, .float .f32 y4] rfl (fun w2 K => ?_)
  replace F := F.wrI0 (cs' := #[.string t0, .int .i64 z1, .float .f32 y2, .float .f32 y3, .float .f32 y4]) K
  clear K
  go_wp2_with (first | ((with_reducible refine listN F ?_); clear F; intro wN F) | ((with_reducible refine at_load rfl ?_); (with_reducible refine wpList_loadG F rfl rfl rfl (by first | exact m0) Try.underlying69 rfl uinfoInstrumentI rfl ?_)) | (with_reducible refine stop_store rfl ?_))
  show wpList _ _ _ _ _ _
  refine wpList_storeD rfl rfl rfl (cells := #[.string t0, .int .i64 z1, .float .f32 y2, .float .f32 y3, .float .f32 y4]) rfl (F.row m1) uinfoInstrumentI rfl (by (simp only [List.all_toArray', List.all_cons, List.all_nil, Bool.and_true, Bool.true_and]) <;> rfl) (fun w6 K => ?_)
  have R := hid K.row
  replace F := F.wrI1 K
  have E0 := Eaten.start F
  replace E0 := Eaten.leaf (c := CD.cp c4) (v := .float .f32 y4) E0 (r4.leafLay (flk_ne q4))
  replace E0 := Eaten.leaf (c := CD.cp c3) (v := .float .f32 y3) E0 (r3.leafLay (flk_ne q3))
  replace E0 := Eaten.leaf (c := CD.cp c2) (v := .float .f32 y2) E0 (r2.leafLay (flk_ne q2))
  replace E0 := Eaten.leaf (c := .int .i64 z1) (v := .int .i64 z1) E0 (show CD.Lay _ _ _ _ from ⟨rfl, wf1⟩)
  replace E0 := Eaten.leaf (c := .str t0) (v := .string t0) E0 (show CD.Lay _ _ _ _ from ⟨rfl, wf0⟩)
  have L := hid (show LayL _ _ _ _ ∧ le w _ from ⟨E0.fin, F.below⟩)
  clear K F E0
  go_wp2
  exact bodyPost_ret (results_row1 rfl _ _ _ _ _ rfl R.out Try.underlying69 rfl uinfoInstrumentI) rfl ⟨[.string t0, .int .i64 z1, .float .f32 y2, .float .f32 y3, .float .f32 y4], rfl, L.out.1, L.out.2⟩
end Go.Proofs.Ytnkjmgadnejdlad

/- The laws' helpers for []Instrument, over trees of data. -/
namespace Go.Proofs.Ytnkjmgadnejdlad
open Go.RowKit Go.Fk
theorem sz_elInstrument (x : Nat → CD) (k : Nat) : sumTo (fun i => (x i).sz) ((k + 1) * 5) = sumTo (fun i => (x i).sz) (k * 5) + szL ((List.range 5).map (fun j => x (k * 5 + j))) := by
  rw [Nat.succ_mul, sumTo_add]; (simp [szL, sumTo, List.range_succ, List.sum_append]) <;> omega
theorem sz_atInstrument {n : Nat} (x : Nat → CD) (k : Nat) (hk : k < n) : sumTo (fun i => (x i).sz) (k * 5) + szL ((List.range 5).map (fun j => x (k * 5 + j))) ≤ sumTo (fun i => (x i).sz) (n * 5) := by
  rw [← sz_elInstrument]; exact sumTo_le _ (Nat.mul_le_mul_right _ hk)
set_option maxRecDepth 100000 in
set_option maxHeartbeats 4000000 in
theorem szU_InstrumentS (B n : Nat) (x : Nat → CD) (s : Value) (m r : Int) (w : World) (h : (CD.sl 5 n x).Rd w B s) (hsh : ∀ i, i < n → ∀ j, j < 5 → ShOk (shInstrument.getD j .bool) (x (i * 5 + j))) (h0 : 0 ≤ m) (h1 : m ≤ 1048576) (hr : lessBy m (CD.sz (CD.sl 5 n x)) = r) :
    Calls Try.prog 19 #[s, .int .i64 m] w (OutI r w) := by
  have hsm := h.small
  have hrd := hid h
  simp only [CD.sz] at hr
  have hr := hid hr
  by_cases g0 : m - (n : Int) < 0
  · have er : r = -1 := by have := hr.out; rw [lessBy_neg (by omega)] at this; omega
    subst er
    clear hr h
    go_enter Try.func19, Try.ntmps19
    go_wp2_with ((with_reducible refine wpList_lenC rfl rfl rfl Try.underlying26 hrd.out ?_))
    go_ret
    exact ⟨rfl, le_refl _⟩
  have hn : n ≤ 1048576 := by omega
  rcases h.form with ⟨rfl, rfl⟩ | ⟨a, cap, rfl, hc, hm⟩
  · have er : r = m := by have := hr.out; simp [sumTo, lessBy] at this; omega
    subst er
    clear hr h hrd
    go_enter Try.func19, Try.ntmps19
    go_wp2
    go_loop [1, 5] (fun q i => q = .int .i64 r ∧ i = .int .i64 0) (fun _ _ => 0)
    case atStart => exact ⟨by simp, rfl⟩
    case round =>
      obtain ⟨rfl, rfl⟩ := hrel
      go_wp2
      go_ret
      exact ⟨rfl, le_refl _⟩
  · have HE := hid (fun k (hk : k < n) => h.elem hk)
    have HQ := hid hsh
    unfold maxLen at hm
    clear h hrd hsh
    go_enter Try.func19, Try.ntmps19
    go_wp2
    go_loopw [1, 5] (fun q i wr => ∃ k S : Nat, k ≤ n ∧ i = .int .i64 k ∧ q = .int .i64 (m - n - (S : Int)) ∧ Hid (S = sumTo (fun i => (x i).sz) (k * 5)) ∧ Hid (0 ≤ m - n - (S : Int)) ∧ Hid (le w wr)) (fun _ i _ => n - (intOf i).toNat)
    case atStart => exact ⟨0, 0, by omega, rfl, by simp, by simp [sumTo, Hid], by show (0 : Int) ≤ m - n - ((0 : Nat) : Int); omega, le_refl _⟩
    case round =>
      obtain ⟨k, S, hk, rfl, rfl, HS, HP, HL⟩ := hrel
      rename_i wr _
      have hp := HP.out
      by_cases hlt : k < n
      · obtain ⟨vs, hvl, hvc, hvr⟩ := HE.out k hlt
        have hvc' := hid (fun j v (hv : vs[j]? = some v) => (Below.cell HL.out (cell_lt' (hvc j v hv))).trans (hvc j v hv))
        obtain ⟨E, hE⟩ : ∃ E : Nat, E = szL ((List.range 5).map (fun j => x (k * 5 + j))) := ⟨_, rfl⟩
        have hel := sz_elInstrument x k
        have hat := sz_atInstrument x k hlt
        rw [← HS.out, ← hE] at hel hat
        have HZ := hid (fun (q r : Int) (w' : World) (hl : le wr w') (h0 : 0 ≤ q) (h1 : q ≤ 1048576) (hr : lessBy q E = r) => szU_Instrument B ((List.range 5).map (fun j => x (k * 5 + j))) vs q r w' (hvr.le (le_trans HL.out hl)) (ShOk.elem (l := shInstrument) HQ.out hlt) h0 h1 (hE ▸ hr))
        have hvl := hid hvl
        have Hel := hid hel
        clear hvc hvr hel hE
        by_cases g1 : m - n - (S : Int) - (E : Int) < 0
        · have er : r = -1 := by have := hr.out; rw [lessBy_neg (by omega)] at this; omega
          subst er
          clear hr hat
          go_wp2_with (first | (with_reducible refine wpList_indexW rfl rfl rfl rfl Try.underlying26 uinfoInstrumentL hlt ?_) | ((with_reducible refine at_load rfl ?_); (with_reducible refine wpList_loadW rfl rfl rfl vs hvc'.out Try.underlying66 rfl uinfoInstrumentL hvl.out ?_)) | (go_at_call 37; ((with_reducible refine (HZ.out (m - n - (S : Int)) (-1) _ (le_refl _) (by omega) (by omega) (lessBy_neg (by omega))).mono ?_); rintro e w1 ⟨rfl, hl⟩; have HL1 := hid (le_trans HL.out hl); clear hl)))
          go_ret
          exact ⟨rfl, HL1.out⟩
        · clear hr hat
          go_wp2_with (first | (with_reducible refine wpList_indexW rfl rfl rfl rfl Try.underlying26 uinfoInstrumentL hlt ?_) | ((with_reducible refine at_load rfl ?_); (with_reducible refine wpList_loadW rfl rfl rfl vs hvc'.out Try.underlying66 rfl uinfoInstrumentL hvl.out ?_)) | (go_at_call 37; ((with_reducible refine (HZ.out (m - n - (S : Int)) (m - n - (S : Int) - (E : Int)) _ (le_refl _) (by omega) (by omega) (lessBy_pos g1)).mono ?_); rintro e w1 ⟨rfl, hl⟩; have HL1 := hid (le_trans HL.out hl); clear hl)))
          go_roundw
          case rel => exact ⟨k + 1, S + E, by omega, by go_num, by go_num, Hel.out.symm, by show (0 : Int) ≤ m - n - ((S + E : Nat) : Int); omega, HL1.out⟩
          case measure => simp [intOf]; omega
      · obtain rfl : k = n := by omega
        have er : r = m - k - (S : Int) := by have := hr.out; have h2 := HS.out; rw [← h2, lessBy_pos (by omega)] at this; omega
        subst er
        clear hr
        go_wp2
        go_ret
        exact ⟨rfl, HL.out⟩
set_option maxRecDepth 100000 in
set_option maxHeartbeats 4000000 in
theorem toU_InstrumentS (B n : Nat) (x : Nat → CD) (s : Value) (w : World) (h : (CD.sl 5 n x).Rd w B s) (hsh : ∀ i, i < n → ∀ j, j < 5 → ShOk (shInstrument.getD j .bool) (x (i * 5 + j))) (hz : CD.sz (CD.sl 5 n x) ≤ 1048576) :
    Calls Try.prog 23 #[s] w (OutC (CD.sl 5 n x).cp w) := by
  simp only [CD.sz] at hz
  have hn : n ≤ 1048576 := by omega
  obtain ⟨cs0, hcs, HM⟩ := makeW_Instrument n hn
  have HP0 : Hid (Part (w.alloc (.cells cs0 69)) w.heap.size 69 5 n 0 (fun i => (x i).cn)) := Part.zero (Row.new w _ _) hcs
  have HL0 := hid (le_alloc w (.cells cs0 69))
  rcases h.form with ⟨rfl, rfl⟩ | ⟨a, cap, rfl, hc, hm⟩
  · simp only [Int.natCast_zero] at HM
    clear h hsh hz hcs
    go_enter Try.func23, Try.ntmps23
    go_wp2
    go_loopw [4] (fun i wr => i = .int .i64 0 ∧ wr = w.alloc (.cells cs0 69)) (fun i _ => 0)
    case atStart => exact ⟨rfl, rfl⟩
    case round =>
      obtain ⟨rfl, rfl⟩ := hrel
      go_wp2
      go_ret
      exact ⟨_, rfl, HP0.out.full (by decide) (fun j h1 h2 => ⟨h1, h2⟩), HL0.out⟩
  · have HE := hid (fun k (hk : k < n) => h.elem hk)
    have HQ := hid hsh
    have HZ := hid hz
    unfold maxLen at hm
    clear h hsh hz hcs
    go_enter Try.func23, Try.ntmps23
    go_wp2
    go_loopw [4] (fun i wr => ∃ k : Nat, k ≤ n ∧ i = .int .i64 k ∧ Hid (Part wr w.heap.size 69 5 n k (fun i => (x i).cn)) ∧ Hid (le w wr)) (fun i _ => n - (intOf i).toNat)
    case atStart => exact ⟨0, by omega, rfl, HP0.out, HL0.out⟩
    case round =>
      obtain ⟨k, hk, rfl, HP, HL⟩ := hrel
      rename_i wr _
      by_cases hlt : k < n
      · obtain ⟨vs, hvl, hvc, hvr⟩ := HE.out k hlt
        have hat := sz_atInstrument x k hlt
        have hvc' := hid (fun j v (hv : vs[j]? = some v) => (Below.cell HL.out (cell_lt' (hvc j v hv))).trans (hvc j v hv))
        have HT := hid (fun (w' : World) (hl : le wr w') => toU_Instrument B _ vs w' (hvr.le (le_trans HL.out hl)) (ShOk.elem (l := shInstrument) HQ.out hlt) (by have := HZ.out; omega))
        have hvl := hid hvl
        clear hvc hvr hat
        go_wp2_with (first | (with_reducible refine wpList_indexW0 rfl rfl rfl rfl Try.underlying33 uinfoInstrumentI hlt ?_) | (with_reducible refine wpList_indexW rfl rfl rfl rfl Try.underlying26 uinfoInstrumentL hlt ?_) | ((with_reducible refine at_load rfl ?_); (with_reducible refine wpList_loadW rfl rfl rfl vs hvc'.out Try.underlying66 rfl uinfoInstrumentL hvl.out ?_)) | (go_at_call 42; ((with_reducible refine (HT.out _ (le_refl _)).mono ?_); rintro e w1 ⟨us, rfl, ho, hl⟩; have HO := hid ho; have HL1 := hid hl; clear ho hl)) | (with_reducible refine stop_store rfl ?_))
        show wpList _ _ _ _ _ _
        obtain ⟨cs1, hr1, hs1⟩ := HP.out.row
        have hul : us.length = 5 := by have := HO.out.1; simpa using this
        have hend : k * 5 + 5 ≤ n * 5 := by rw [← Nat.succ_mul]; exact Nat.mul_le_mul_right _ hlt
        refine wpList_storeP rfl rfl rfl (f := k * 5) (cells := us) rfl (hr1.le HL1.out) (by rw [hul]; exact uinfoInstrumentI) (by omega) HO.out.all_one (fun w2 K => ?_)
        have HP2 := hid (HP.out.step hlt HL1.out (by have := HO.out.cn; simpa [List.map_map, Function.comp_def] using this) (hr1.le HL1.out) K)
        have HL2 := hid (K.below _ _ (le_trans HL.out HL1.out) (Nat.le_refl _))
        clear K hr1 hs1 hul hend
        go_wp2
        go_roundw
        case rel => exact ⟨k + 1, by omega, by go_num, HP2.out, HL2.out⟩
        case measure => simp [intOf]; omega
      · obtain rfl : k = n := by omega
        go_wp2
        go_ret
        exact ⟨_, rfl, HP.out.full (by unfold maxLen; omega) (fun j h1 h2 => ⟨h1, h2⟩), HL.out⟩
set_option maxRecDepth 100000 in
set_option maxHeartbeats 4000000 in
theorem eqU_InstrumentS (B B' n : Nat) (x : Nat → CD) (s s' : Value) (w : World) (h : (CD.sl 5 n x).Rd w B s) (h' : (CD.sl 5 n x).Rd w B' s') (hsh : ∀ i, i < n → ∀ j, j < 5 → ShOk (shInstrument.getD j .bool) (x (i * 5 + j))) (hz : CD.sz (CD.sl 5 n x) ≤ 1048576) :
    Calls Try.prog 31 #[s, s'] w (OutT w) := by
  have hzz := hid hz
  simp only [CD.sz] at hz
  by_cases h0 : n = 0
  · have hrd := hid h; have hrd' := hid h'
    subst h0
    clear h h' hz hzz hsh
    go_enter Try.func31, Try.ntmps31
    go_wp2_with (first | (with_reducible refine wpList_lenC rfl rfl rfl Try.underlying33 hrd.out ?_) | (with_reducible refine wpList_lenC rfl rfl rfl Try.underlying33 hrd'.out ?_))
    go_loop [5] (fun i => i = .int .i64 0) (fun _ => 0)
    case atStart => rfl
    case round =>
      obtain rfl := hrel
      go_wp2_with (first | (with_reducible refine wpList_lenC rfl rfl rfl Try.underlying33 hrd.out ?_) | (with_reducible refine wpList_lenC rfl rfl rfl Try.underlying33 hrd'.out ?_))
      go_ret
      exact ⟨rfl, le_refl _⟩
  have HE := hid (fun k (hk : k < n) a cap (e : s = .slice (some a) n cap) => (CD.Rd.elem (w := w) (B := B) (wd := 5) (x := x) (cap := cap) (a := a) (e ▸ h) hk))
  have HE' := hid (fun k (hk : k < n) a cap (e : s' = .slice (some a) n cap) => (CD.Rd.elem (w := w) (B := B') (wd := 5) (x := x) (cap := cap) (a := a) (e ▸ h') hk))
  rcases h.form with ⟨_, e0⟩ | ⟨a, cap, rfl, hc, hm⟩
  · exact absurd e0 h0
  rcases h'.form with ⟨_, e0⟩ | ⟨a', cap', rfl, hc', hm'⟩
  · exact absurd e0 h0
  have HQ := hid hsh
  unfold maxLen at hm hm'
  clear h h' hsh h0
  go_enter Try.func31, Try.ntmps31
  go_wp2
  go_loopw [5] (fun i wr => ∃ k : Nat, k ≤ n ∧ i = .int .i64 k ∧ Hid (le w wr)) (fun i _ => n - (intOf i).toNat)
  case atStart => exact ⟨0, by omega, rfl, le_refl _⟩
  case round =>
    obtain ⟨k, hk, rfl, HL⟩ := hrel
    rename_i wr _
    by_cases hlt : k < n
    · obtain ⟨vs, hvl, hvc, hvr⟩ := HE.out k hlt a cap rfl
      obtain ⟨vs', hvl', hvc', hvr'⟩ := HE'.out k hlt a' cap' rfl
      have hat := sz_atInstrument x k hlt
      have HQE := hid (fun (w' : World) (hl : le wr w') => eqU_Instrument B B' _ vs vs' w' (hvr.le (le_trans HL.out hl)) (hvr'.le (le_trans HL.out hl)) (ShOk.elem (l := shInstrument) HQ.out hlt) (by omega))
      have gvc := hid (fun (w' : World) (hl : le wr w') j v (hv : vs[j]? = some v) => (Below.cell (le_trans HL.out hl) (cell_lt' (hvc j v hv))).trans (hvc j v hv))
      have gvc' := hid (fun (w' : World) (hl : le wr w') j v (hv : vs'[j]? = some v) => (Below.cell (le_trans HL.out hl) (cell_lt' (hvc' j v hv))).trans (hvc' j v hv))
      have hvl := hid hvl; have hvl' := hid hvl'
      clear hvc hvr hvc' hvr' hat
      go_wp2_with fail
      refine region_freeD (E := leX) (fun f args w v => v = .bool true) (by kernel_rfl) (by kernel_rfl) ?_
      refine wpFreeD_one rfl (.slice (some a) n cap) (fun w1 _ => by kernel_rfl) ?_
      simp only [Act.put, List.setIfInBounds_toArray, List.set_cons_succ, List.set_cons_zero]
      refine wpFreeD_one rfl (.int .i64 k) (fun w1 _ => by kernel_rfl) ?_
      simp only [Act.put, List.setIfInBounds_toArray, List.set_cons_succ, List.set_cons_zero]
      refine wpFreeD_indexW rfl rfl rfl rfl Try.underlying33 uinfoInstrumentI hlt ?_
      simp only [Act.put, List.setIfInBounds_toArray, List.set_cons_succ, List.set_cons_zero]
      refine wpFreeD_loadW rfl rfl rfl vs (fun w1 h1 j v hv => gvc.out w1 (le_trans (le_drewN _ _) h1) j v hv) Try.underlying69 rfl uinfoInstrumentI hvl.out ?_
      simp only [Act.put, List.setIfInBounds_toArray, List.set_cons_succ, List.set_cons_zero]
      refine wpFreeD_one rfl (.slice (some a') n cap') (fun w1 _ => by kernel_rfl) ?_
      simp only [Act.put, List.setIfInBounds_toArray, List.set_cons_succ, List.set_cons_zero]
      refine wpFreeD_one rfl (.int .i64 k) (fun w1 _ => by kernel_rfl) ?_
      simp only [Act.put, List.setIfInBounds_toArray, List.set_cons_succ, List.set_cons_zero]
      refine wpFreeD_indexW rfl rfl rfl rfl Try.underlying33 uinfoInstrumentI hlt ?_
      simp only [Act.put, List.setIfInBounds_toArray, List.set_cons_succ, List.set_cons_zero]
      refine wpFreeD_loadW rfl rfl rfl vs' (fun w1 h1 j v hv => gvc'.out w1 (le_trans (le_drewN _ _) h1) j v hv) Try.underlying69 rfl uinfoInstrumentI hvl'.out ?_
      simp only [Act.put, List.setIfInBounds_toArray, List.set_cons_succ, List.set_cons_zero]
      refine wpFreeD_callB rfl rfl Try.func52 (by kernel_rfl) (by kernel_rfl) (args := #[.agg vs.toArray, .agg vs'.toArray]) (by simp [Act.eval]) (fun v w1 w2 hw hv => hv) (fun w1 hw1 _ => (HQE.out w1 (le_trans (le_drewN _ _) hw1)).mono ?_) ?_
      · rintro e w2 ⟨rfl, hl⟩
        exact ⟨_, rfl, hl, rfl⟩
      rintro v ⟨_, _, _, rfl⟩
      simp only [Act.put, List.setIfInBounds_toArray, List.set_cons_succ, List.set_cons_zero]
      refine wpFreeD_one rfl (.bool false) (fun w1 _ => by kernel_rfl) ?_
      simp only [Act.put, List.setIfInBounds_toArray, List.set_cons_succ, List.set_cons_zero]
      refine wpFreeD_nil (fun wR hwR _ => ?_)
      have HL1 := hid (le_trans HL.out (le_trans (le_drewN _ _) hwR))
      clear hwR
      go_wp2
      go_roundw
      case rel => exact ⟨k + 1, by omega, by go_num, HL1.out⟩
      case measure => simp [intOf]; omega
    · obtain rfl : k = n := by omega
      go_wp2
      go_ret
      exact ⟨rfl, HL.out⟩
end Go.Proofs.Ytnkjmgadnejdlad

/- The laws' helpers for Event, over trees of data. -/
namespace Go.Proofs.Ytnkjmgadnejdlad
open Go.RowKit Go.Fk
set_option maxRecDepth 100000 in
set_option maxHeartbeats 4000000 in
theorem eqU_Event (B B' : Nat) (cs : List CD) (vs vs' : List Value) (w : World) (h : RdL w B cs vs) (h' : RdL w B' cs vs') (hsh : ShOkL shEvent cs) (hz : szL cs ≤ 1048576) :
    Calls Try.prog 53 #[.agg vs.toArray, .agg vs'.toArray] w (OutT w) := by
  obtain ⟨c0, cs, rfl, q0, hsh⟩ := hsh.inv
  obtain ⟨c1, cs, rfl, q1, hsh⟩ := hsh.inv
  obtain ⟨c2, cs, rfl, q2, hsh⟩ := hsh.inv
  obtain ⟨c3, cs, rfl, q3, hsh⟩ := hsh.inv
  obtain ⟨c4, cs, rfl, q4, hsh⟩ := hsh.inv
  obtain ⟨c5, cs, rfl, q5, hsh⟩ := hsh.inv
  obtain rfl := hsh.inv0
  obtain ⟨v0, vs, rfl, r0, h⟩ := h.inv
  obtain ⟨v1, vs, rfl, r1, h⟩ := h.inv
  obtain ⟨v2, vs, rfl, r2, h⟩ := h.inv
  obtain ⟨v3, vs, rfl, r3, h⟩ := h.inv
  obtain ⟨v4, vs, rfl, r4, h⟩ := h.inv
  obtain ⟨v5, vs, rfl, r5, h⟩ := h.inv
  obtain rfl := h.inv0
  obtain ⟨v0', vs', rfl, r0', h'⟩ := h'.inv
  obtain ⟨v1', vs', rfl, r1', h'⟩ := h'.inv
  obtain ⟨v2', vs', rfl, r2', h'⟩ := h'.inv
  obtain ⟨v3', vs', rfl, r3', h'⟩ := h'.inv
  obtain ⟨v4', vs', rfl, r4', h'⟩ := h'.inv
  obtain ⟨v5', vs', rfl, r5', h'⟩ := h'.inv
  obtain rfl := h'.inv0
  obtain ⟨z0, rfl⟩ := q0
  obtain ⟨rfl, wf0⟩ := r0
  obtain ⟨rfl, wf0'⟩ := r0'
  obtain ⟨z1, rfl⟩ := q1
  obtain ⟨rfl, wf1⟩ := r1
  obtain ⟨rfl, wf1'⟩ := r1'
  obtain ⟨z2, rfl⟩ := q2
  obtain ⟨rfl, wf2⟩ := r2
  obtain ⟨rfl, wf2'⟩ := r2'
  obtain ⟨z3, rfl⟩ := q3
  obtain ⟨rfl, wf3⟩ := r3
  obtain ⟨rfl, wf3'⟩ := r3'
  obtain ⟨z4, rfl⟩ := q4
  obtain ⟨rfl, wf4⟩ := r4
  obtain ⟨rfl, wf4'⟩ := r4'
  have q5 : c5.flk = some .f32 := q5
  obtain ⟨y5, rfl, f5, e5⟩ := r5.fl q5
  obtain ⟨y5', rfl, f5', e5'⟩ := r5'.fl q5
  simp only [szL, List.map_cons, List.map_nil, List.sum_cons, List.sum_nil] at hz
  have E5 := hid (e5.trans e5'.symm)
  have F := ((Frg.nil w).box 61 #[.int .i64 z0, .int .i64 z1, .int .i64 z2, .int .i64 z3, .int .i64 z4, .float .f32 y5]).box 61 #[.int .i64 z0, .int .i64 z1, .int .i64 z2, .int .i64 z3, .int .i64 z4, .float .f32 y5']
  simp only [World.size_alloc] at F
  clear hz
  go_enter Try.func53, Try.ntmps53
  go_wp2_with (first | ((with_reducible refine listN F ?_); clear F; intro wN F) | ((with_reducible refine at_load rfl ?_); first | (with_reducible refine wpList_load1 F rfl rfl rfl (by first | exact m0 | exact m1) (f := 0) (v := .int .i64 z0) rfl ukindInt64 ?_) | (with_reducible refine wpList_load1 F rfl rfl rfl (by first | exact m0 | exact m1) (f := 1) (v := .int .i64 z1) rfl ukindInt64 ?_) | (with_reducible refine wpList_load1 F rfl rfl rfl (by first | exact m0 | exact m1) (f := 2) (v := .int .i64 z2) rfl ukindInt64 ?_) | (with_reducible refine wpList_load1 F rfl rfl rfl (by first | exact m0 | exact m1) (f := 3) (v := .int .i64 z3) rfl ukindInt64 ?_) | (with_reducible refine wpList_load1 F rfl rfl rfl (by first | exact m0 | exact m1) (f := 4) (v := .int .i64 z4) rfl ukindInt64 ?_) | (with_reducible refine wpList_load1 F rfl rfl rfl (by first | exact m0 | exact m1) (f := 5) (v := .float .f32 y5) rfl ukindFloat32 ?_) | (with_reducible refine wpList_load1 F rfl rfl rfl (by first | exact m0 | exact m1) (f := 0) (v := .int .i64 z0) rfl ukindInt64 ?_) | (with_reducible refine wpList_load1 F rfl rfl rfl (by first | exact m0 | exact m1) (f := 1) (v := .int .i64 z1) rfl ukindInt64 ?_) | (with_reducible refine wpList_load1 F rfl rfl rfl (by first | exact m0 | exact m1) (f := 2) (v := .int .i64 z2) rfl ukindInt64 ?_) | (with_reducible refine wpList_load1 F rfl rfl rfl (by first | exact m0 | exact m1) (f := 3) (v := .int .i64 z3) rfl ukindInt64 ?_) | (with_reducible refine wpList_load1 F rfl rfl rfl (by first | exact m0 | exact m1) (f := 4) (v := .int .i64 z4) rfl ukindInt64 ?_) | (with_reducible refine wpList_load1 F rfl rfl rfl (by first | exact m0 | exact m1) (f := 5) (v := .float .f32 y5') rfl ukindFloat32 ?_)) | ((with_reducible refine at_convert rfl ?_); (with_reducible refine wpList_widen rfl rfl rfl Try.underlying22 Try.underlying55 ?_; intro s1 n1 h1 f1)) | (go_at_call 29; ((with_reducible refine (sameFloat_yes _ _ _ (by first | exact (Hid.out ‹Hid (can .f64 _ = can .f64 (widen y5))›).trans ((congrArg (can .f64) (widen_congr E5.out)).trans (Hid.out ‹Hid (can .f64 _ = can .f64 (widen y5'))›).symm))).mono ?_); rintro e w7 ⟨rfl, dq7, rfl⟩; skip)))
  go_ret
  first | exact ⟨rfl, F.below⟩ | exact ⟨rfl, below_drewN F.below _⟩
set_option maxRecDepth 100000 in
set_option maxHeartbeats 4000000 in
theorem toU_Event (B : Nat) (cs : List CD) (vs : List Value) (w : World) (h : RdL w B cs vs) (hsh : ShOkL shEvent cs) (hz : szL cs ≤ 1048576) :
    Calls Try.prog 43 #[.agg vs.toArray] w (OutA' (cs.map CD.cp) w) := by
  obtain ⟨c0, cs, rfl, q0, hsh⟩ := hsh.inv
  obtain ⟨c1, cs, rfl, q1, hsh⟩ := hsh.inv
  obtain ⟨c2, cs, rfl, q2, hsh⟩ := hsh.inv
  obtain ⟨c3, cs, rfl, q3, hsh⟩ := hsh.inv
  obtain ⟨c4, cs, rfl, q4, hsh⟩ := hsh.inv
  obtain ⟨c5, cs, rfl, q5, hsh⟩ := hsh.inv
  obtain rfl := hsh.inv0
  obtain ⟨v0, vs, rfl, r0, h⟩ := h.inv
  obtain ⟨v1, vs, rfl, r1, h⟩ := h.inv
  obtain ⟨v2, vs, rfl, r2, h⟩ := h.inv
  obtain ⟨v3, vs, rfl, r3, h⟩ := h.inv
  obtain ⟨v4, vs, rfl, r4, h⟩ := h.inv
  obtain ⟨v5, vs, rfl, r5, h⟩ := h.inv
  obtain rfl := h.inv0
  obtain ⟨z0, rfl⟩ := q0
  obtain ⟨rfl, wf0⟩ := r0
  obtain ⟨z1, rfl⟩ := q1
  obtain ⟨rfl, wf1⟩ := r1
  obtain ⟨z2, rfl⟩ := q2
  obtain ⟨rfl, wf2⟩ := r2
  obtain ⟨z3, rfl⟩ := q3
  obtain ⟨rfl, wf3⟩ := r3
  obtain ⟨z4, rfl⟩ := q4
  obtain ⟨rfl, wf4⟩ := r4
  have q5 : c5.flk = some .f32 := q5
  obtain ⟨y5, rfl, f5, e5⟩ := r5.fl q5
  simp only [szL, List.map_cons, List.map_nil, List.sum_cons, List.sum_nil] at hz
  have F := (((Frg.nil w).box 74 #[.int .i64 z0, .int .i64 z1, .int .i64 z2, .int .i64 z3, .int .i64 z4, .float .f32 y5]).box 61 #[.int .i64 0, .int .i64 0, .int .i64 0, .int .i64 0, .int .i64 0, .float .f32 0]).box 61 #[.int .i64 0, .int .i64 0, .int .i64 0, .int .i64 0, .int .i64 0, .float .f32 0]
  simp only [World.size_alloc] at F
  clear hz
  go_enter Try.func43, Try.ntmps43
  go_wp2_with (first | ((with_reducible refine listN F ?_); clear F; intro wN F) | ((with_reducible refine at_load rfl ?_); first | (with_reducible refine wpList_load1 F rfl rfl rfl (by first | exact m0 | exact m1 | exact m2 | exact m3) (f := 0) (v := .int .i64 z0) rfl ukindInt64 ?_) | (with_reducible refine wpList_load1 F rfl rfl rfl (by first | exact m0 | exact m1 | exact m2 | exact m3) (f := 1) (v := .int .i64 z1) rfl ukindInt64 ?_) | (with_reducible refine wpList_load1 F rfl rfl rfl (by first | exact m0 | exact m1 | exact m2 | exact m3) (f := 2) (v := .int .i64 z2) rfl ukindInt64 ?_) | (with_reducible refine wpList_load1 F rfl rfl rfl (by first | exact m0 | exact m1 | exact m2 | exact m3) (f := 3) (v := .int .i64 z3) rfl ukindInt64 ?_) | (with_reducible refine wpList_load1 F rfl rfl rfl (by first | exact m0 | exact m1 | exact m2 | exact m3) (f := 4) (v := .int .i64 z4) rfl ukindInt64 ?_) | (with_reducible refine wpList_load1 F rfl rfl rfl (by first | exact m0 | exact m1 | exact m2 | exact m3) (f := 5) (v := .float .f32 y5) rfl ukindFloat32 ?_)) | (with_reducible refine stop_store rfl ?_))
  show wpList _ _ _ _ _ _
  refine wpList_store1 rfl rfl (f := 0) rfl rfl (F.row m0) uinfo1Int64 (by simp) rfl #[.int .i64 z0, .int .i64 0, .int .i64 0, .int .i64 0, .int .i64 0, .float .f32 0] rfl (fun w2 K => ?_)
  replace F := F.wrI0 (cs' := #[.int .i64 z0, .int .i64 0, .int .i64 0, .int .i64 0, .int .i64 0, .float .f32 0]) K
  clear K
  go_wp2_with (first | ((with_reducible refine listN F ?_); clear F; intro wN F) | ((with_reducible refine at_load rfl ?_); first | (with_reducible refine wpList_load1 F rfl rfl rfl (by first | exact m0 | exact m1 | exact m2 | exact m3) (f := 0) (v := .int .i64 z0) rfl ukindInt64 ?_) | (with_reducible refine wpList_load1 F rfl rfl rfl (by first | exact m0 | exact m1 | exact m2 | exact m3) (f := 1) (v := .int .i64 z1) rfl ukindInt64 ?_) | (with_reducible refine wpList_load1 F rfl rfl rfl (by first | exact m0 | exact m1 | exact m2 | exact m3) (f := 2) (v := .int .i64 z2) rfl ukindInt64 ?_) | (with_reducible refine wpList_load1 F rfl rfl rfl (by first | exact m0 | exact m1 | exact m2 | exact m3) (f := 3) (v := .int .i64 z3) rfl ukindInt64 ?_) | (with_reducible refine wpList_load1 F rfl rfl rfl (by first | exact m0 | exact m1 | exact m2 | exact m3) (f := 4) (v := .int .i64 z4) rfl ukindInt64 ?_) | (with_reducible refine wpList_load1 F rfl rfl rfl (by first | exact m0 | exact m1 | exact m2 | exact m3) (f := 5) (v := .float .f32 y5) rfl ukindFloat32 ?_)) | (with_reducible refine stop_store rfl ?_))
  show wpList _ _ _ _ _ _
  refine wpList_store1 rfl rfl (f := 1) rfl rfl (F.row m0) uinfo1Int64 (by simp) rfl #[.int .i64 z0, .int .i64 z1, .int .i64 0, .int .i64 0, .int .i64 0, .float .f32 0] rfl (fun w2 K => ?_)
  replace F := F.wrI0 (cs' := #[.int .i64 z0, .int .i64 z1, .int .i64 0, .int .i64 0, .int .i64 0, .float .f32 0]) K
  clear K
  go_wp2_with (first | ((with_reducible refine listN F ?_); clear F; intro wN F) | ((with_reducible refine at_load rfl ?_); first | (with_reducible refine wpList_load1 F rfl rfl rfl (by first | exact m0 | exact m1 | exact m2 | exact m3) (f := 0) (v := .int .i64 z0) rfl ukindInt64 ?_) | (with_reducible refine wpList_load1 F rfl rfl rfl (by first | exact m0 | exact m1 | exact m2 | exact m3) (f := 1) (v := .int .i64 z1) rfl ukindInt64 ?_) | (with_reducible refine wpList_load1 F rfl rfl rfl (by first | exact m0 | exact m1 | exact m2 | exact m3) (f := 2) (v := .int .i64 z2) rfl ukindInt64 ?_) | (with_reducible refine wpList_load1 F rfl rfl rfl (by first | exact m0 | exact m1 | exact m2 | exact m3) (f := 3) (v := .int .i64 z3) rfl ukindInt64 ?_) | (with_reducible refine wpList_load1 F rfl rfl rfl (by first | exact m0 | exact m1 | exact m2 | exact m3) (f := 4) (v := .int .i64 z4) rfl ukindInt64 ?_) | (with_reducible refine wpList_load1 F rfl rfl rfl (by first | exact m0 | exact m1 | exact m2 | exact m3) (f := 5) (v := .float .f32 y5) rfl ukindFloat32 ?_)) | (with_reducible refine stop_store rfl ?_))
  show wpList _ _ _ _ _ _
  refine wpList_store1 rfl rfl (f := 2) rfl rfl (F.row m0) uinfo1Int64 (by simp) rfl #[.int .i64 z0, .int .i64 z1, .int .i64 z2, .int .i64 0, .int .i64 0, .float .f32 0] rfl (fun w2 K => ?_)
  replace F := F.wrI0 (cs' := #[.int .i64 z0, .int .i64 z1, .int .i64 z2, .int .i64 0, .int .i64 0, .float .f32 0]) K
  clear K
  go_wp2_with (first | ((with_reducible refine listN F ?_); clear F; intro wN F) | ((with_reducible refine at_load rfl ?_); first | (with_reducible refine wpList_load1 F rfl rfl rfl (by first | exact m0 | exact m1 | exact m2 | exact m3) (f := 0) (v := .int .i64 z0) rfl ukindInt64 ?_) | (with_reducible refine wpList_load1 F rfl rfl rfl (by first | exact m0 | exact m1 | exact m2 | exact m3) (f := 1) (v := .int .i64 z1) rfl ukindInt64 ?_) | (with_reducible refine wpList_load1 F rfl rfl rfl (by first | exact m0 | exact m1 | exact m2 | exact m3) (f := 2) (v := .int .i64 z2) rfl ukindInt64 ?_) | (with_reducible refine wpList_load1 F rfl rfl rfl (by first | exact m0 | exact m1 | exact m2 | exact m3) (f := 3) (v := .int .i64 z3) rfl ukindInt64 ?_) | (with_reducible refine wpList_load1 F rfl rfl rfl (by first | exact m0 | exact m1 | exact m2 | exact m3) (f := 4) (v := .int .i64 z4) rfl ukindInt64 ?_) | (with_reducible refine wpList_load1 F rfl rfl rfl (by first | exact m0 | exact m1 | exact m2 | exact m3) (f := 5) (v := .float .f32 y5) rfl ukindFloat32 ?_)) | (with_reducible refine stop_store rfl ?_))
  show wpList _ _ _ _ _ _
  refine wpList_store1 rfl rfl (f := 3) rfl rfl (F.row m0) uinfo1Int64 (by simp) rfl #[.int .i64 z0, .int .i64 z1, .int .i64 z2, .int .i64 z3, .int .i64 0, .float .f32 0] rfl (fun w2 K => ?_)
  replace F := F.wrI0 (cs' := #[.int .i64 z0, .int .i64 z1, .int .i64 z2, .int .i64 z3, .int .i64 0, .float .f32 0]) K
  clear K
  go_wp2_with (first | ((with_reducible refine listN F ?_); clear F; intro wN F) | ((with_reducible refine at_load rfl ?_); first | (with_reducible refine wpList_load1 F rfl rfl rfl (by first | exact m0 | exact m1 | exact m2 | exact m3) (f := 0) (v := .int .i64 z0) rfl ukindInt64 ?_) | (with_reducible refine wpList_load1 F rfl rfl rfl (by first | exact m0 | exact m1 | exact m2 | exact m3) (f := 1) (v := .int .i64 z1) rfl ukindInt64 ?_) | (with_reducible refine wpList_load1 F rfl rfl rfl (by first | exact m0 | exact m1 | exact m2 | exact m3) (f := 2) (v := .int .i64 z2) rfl ukindInt64 ?_) | (with_reducible refine wpList_load1 F rfl rfl rfl (by first | exact m0 | exact m1 | exact m2 | exact m3) (f := 3) (v := .int .i64 z3) rfl ukindInt64 ?_) | (with_reducible refine wpList_load1 F rfl rfl rfl (by first | exact m0 | exact m1 | exact m2 | exact m3) (f := 4) (v := .int .i64 z4) rfl ukindInt64 ?_) | (with_reducible refine wpList_load1 F rfl rfl rfl (by first | exact m0 | exact m1 | exact m2 | exact m3) (f := 5) (v := .float .f32 y5) rfl ukindFloat32 ?_)) | (with_reducible refine stop_store rfl ?_))
  show wpList _ _ _ _ _ _
  refine wpList_store1 rfl rfl (f := 4) rfl rfl (F.row m0) uinfo1Int64 (by simp) rfl #[.int .i64 z0, .int .i64 z1, .int .i64 z2, .int .i64 z3, .int .i64 z4, .float .f32 0] rfl (fun w2 K => ?_)
  replace F := F.wrI0 (cs' := #[.int .i64 z0, .int .i64 z1, .int .i64 z2, .int .i64 z3, .int .i64 z4, .float .f32 0]) K
  clear K
  go_wp2_with (first | ((with_reducible refine listN F ?_); clear F; intro wN F) | ((with_reducible refine at_load rfl ?_); first | (with_reducible refine wpList_load1 F rfl rfl rfl (by first | exact m0 | exact m1 | exact m2 | exact m3) (f := 0) (v := .int .i64 z0) rfl ukindInt64 ?_) | (with_reducible refine wpList_load1 F rfl rfl rfl (by first | exact m0 | exact m1 | exact m2 | exact m3) (f := 1) (v := .int .i64 z1) rfl ukindInt64 ?_) | (with_reducible refine wpList_load1 F rfl rfl rfl (by first | exact m0 | exact m1 | exact m2 | exact m3) (f := 2) (v := .int .i64 z2) rfl ukindInt64 ?_) | (with_reducible refine wpList_load1 F rfl rfl rfl (by first | exact m0 | exact m1 | exact m2 | exact m3) (f := 3) (v := .int .i64 z3) rfl ukindInt64 ?_) | (with_reducible refine wpList_load1 F rfl rfl rfl (by first | exact m0 | exact m1 | exact m2 | exact m3) (f := 4) (v := .int .i64 z4) rfl ukindInt64 ?_) | (with_reducible refine wpList_load1 F rfl rfl rfl (by first | exact m0 | exact m1 | exact m2 | exact m3) (f := 5) (v := .float .f32 y5) rfl ukindFloat32 ?_)) | (with_reducible refine stop_store rfl ?_))
  show wpList _ _ _ _ _ _
  refine wpList_store1 rfl rfl (f := 5) rfl rfl (F.row m0) uinfo1Float32 (by simp) rfl #[.int .i64 z0, .int .i64 z1, .int .i64 z2, .int .i64 z3, .int .i64 z4, .float .f32 y5] rfl (fun w2 K => ?_)
  replace F := F.wrI0 (cs' := #[.int .i64 z0, .int .i64 z1, .int .i64 z2, .int .i64 z3, .int .i64 z4, .float .f32 y5]) K
  clear K
  go_wp2_with (first | ((with_reducible refine listN F ?_); clear F; intro wN F) | ((with_reducible refine at_load rfl ?_); (with_reducible refine wpList_loadG F rfl rfl rfl (by first | exact m0) Try.underlying61 rfl uinfoEventI rfl ?_)) | (with_reducible refine stop_store rfl ?_))
  show wpList _ _ _ _ _ _
  refine wpList_storeD rfl rfl rfl (cells := #[.int .i64 z0, .int .i64 z1, .int .i64 z2, .int .i64 z3, .int .i64 z4, .float .f32 y5]) rfl (F.row m1) uinfoEventI rfl (by (simp only [List.all_toArray', List.all_cons, List.all_nil, Bool.and_true, Bool.true_and]) <;> rfl) (fun w6 K => ?_)
  have R := hid K.row
  replace F := F.wrI1 K
  have E0 := Eaten.start F
  replace E0 := Eaten.leaf (c := CD.cp c5) (v := .float .f32 y5) E0 (r5.leafLay (flk_ne q5))
  replace E0 := Eaten.leaf (c := .int .i64 z4) (v := .int .i64 z4) E0 (show CD.Lay _ _ _ _ from ⟨rfl, wf4⟩)
  replace E0 := Eaten.leaf (c := .int .i64 z3) (v := .int .i64 z3) E0 (show CD.Lay _ _ _ _ from ⟨rfl, wf3⟩)
  replace E0 := Eaten.leaf (c := .int .i64 z2) (v := .int .i64 z2) E0 (show CD.Lay _ _ _ _ from ⟨rfl, wf2⟩)
  replace E0 := Eaten.leaf (c := .int .i64 z1) (v := .int .i64 z1) E0 (show CD.Lay _ _ _ _ from ⟨rfl, wf1⟩)
  replace E0 := Eaten.leaf (c := .int .i64 z0) (v := .int .i64 z0) E0 (show CD.Lay _ _ _ _ from ⟨rfl, wf0⟩)
  have L := hid (show LayL _ _ _ _ ∧ le w _ from ⟨E0.fin, F.below⟩)
  clear K F E0
  go_wp2
  exact bodyPost_ret (results_row1 rfl _ _ _ _ _ rfl R.out Try.underlying61 rfl uinfoEventI) rfl ⟨[.int .i64 z0, .int .i64 z1, .int .i64 z2, .int .i64 z3, .int .i64 z4, .float .f32 y5], rfl, L.out.1, L.out.2⟩
end Go.Proofs.Ytnkjmgadnejdlad

/- The laws' helpers for []Event, over trees of data. -/
namespace Go.Proofs.Ytnkjmgadnejdlad
open Go.RowKit Go.Fk
theorem sz_elEvent (x : Nat → CD) (k : Nat) : sumTo (fun i => (x i).sz) ((k + 1) * 6) = sumTo (fun i => (x i).sz) (k * 6) + szL ((List.range 6).map (fun j => x (k * 6 + j))) := by
  rw [Nat.succ_mul, sumTo_add]; (simp [szL, sumTo, List.range_succ, List.sum_append]) <;> omega
theorem sz_atEvent {n : Nat} (x : Nat → CD) (k : Nat) (hk : k < n) : sumTo (fun i => (x i).sz) (k * 6) + szL ((List.range 6).map (fun j => x (k * 6 + j))) ≤ sumTo (fun i => (x i).sz) (n * 6) := by
  rw [← sz_elEvent]; exact sumTo_le _ (Nat.mul_le_mul_right _ hk)
theorem sz_zEvent {n : Nat} {x : Nat → CD} (hsh : ∀ i, i < n → ∀ j, j < 6 → ShOk (shEvent.getD j .bool) (x (i * 6 + j))) : CD.sz (CD.sl 6 n x) = n := by
  have h0 : ∀ i, i < n * 6 → (x i).sz = 0 := fun i hi => by
    have hq : i / 6 < n := Nat.div_lt_of_lt_mul (by rwa [Nat.mul_comm] at hi)
    have hr : i % 6 < 6 := Nat.mod_lt _ (by decide)
    have h := hsh _ hq _ hr
    rw [show i / 6 * 6 + i % 6 = i by rw [Nat.mul_comm]; exact Nat.div_add_mod i 6] at h
    generalize i % 6 = j at h hr
    match j, hr, h with
    | 0, _, h => obtain ⟨z, e⟩ := h; rw [e]; rfl
    | 1, _, h => obtain ⟨z, e⟩ := h; rw [e]; rfl
    | 2, _, h => obtain ⟨z, e⟩ := h; rw [e]; rfl
    | 3, _, h => obtain ⟨z, e⟩ := h; rw [e]; rfl
    | 4, _, h => obtain ⟨z, e⟩ := h; rw [e]; rfl
    | 5, _, h => exact CD.sz_fl (show (x i).flk = some .f32 from h)
  simp only [CD.sz]
  rw [sumTo_zero h0, Nat.add_zero]
set_option maxRecDepth 100000 in
set_option maxHeartbeats 4000000 in
theorem szU_EventS (B n : Nat) (x : Nat → CD) (s : Value) (m r : Int) (w : World) (h : (CD.sl 6 n x).Rd w B s) (hsh : ∀ i, i < n → ∀ j, j < 6 → ShOk (shEvent.getD j .bool) (x (i * 6 + j))) (h0 : 0 ≤ m) (h1 : m ≤ 1048576) (hr : lessBy m (CD.sz (CD.sl 6 n x)) = r) :
    Calls Try.prog 20 #[s, .int .i64 m] w (OutI r w) := by
  rw [sz_zEvent hsh] at hr
  have hsm := h.small
  have hrd := hid h
  have hr := hid hr
  clear h hsh
  by_cases g : m - (n : Int) < 0
  · have er : r = -1 := by rw [← hr.out]; exact lessBy_neg g
    subst er
    clear hr
    go_enter Try.func20, Try.ntmps20
    go_wp2_with ((with_reducible refine wpList_lenC rfl rfl rfl Try.underlying27 hrd.out ?_))
    go_ret
    exact ⟨rfl, le_refl _⟩
  · have er : r = m - (n : Int) := by rw [← hr.out]; exact lessBy_pos g
    subst er
    clear hr
    go_enter Try.func20, Try.ntmps20
    go_wp2_with ((with_reducible refine wpList_lenC rfl rfl rfl Try.underlying27 hrd.out ?_))
    go_ret
    exact ⟨rfl, le_refl _⟩
set_option maxRecDepth 100000 in
set_option maxHeartbeats 4000000 in
theorem toU_EventS (B n : Nat) (x : Nat → CD) (s : Value) (w : World) (h : (CD.sl 6 n x).Rd w B s) (hsh : ∀ i, i < n → ∀ j, j < 6 → ShOk (shEvent.getD j .bool) (x (i * 6 + j))) (hz : CD.sz (CD.sl 6 n x) ≤ 1048576) :
    Calls Try.prog 24 #[s] w (OutC (CD.sl 6 n x).cp w) := by
  simp only [CD.sz] at hz
  have hn : n ≤ 1048576 := by omega
  obtain ⟨cs0, hcs, HM⟩ := makeW_Event n hn
  have HP0 : Hid (Part (w.alloc (.cells cs0 61)) w.heap.size 61 6 n 0 (fun i => (x i).cn)) := Part.zero (Row.new w _ _) hcs
  have HL0 := hid (le_alloc w (.cells cs0 61))
  rcases h.form with ⟨rfl, rfl⟩ | ⟨a, cap, rfl, hc, hm⟩
  · simp only [Int.natCast_zero] at HM
    clear h hsh hz hcs
    go_enter Try.func24, Try.ntmps24
    go_wp2
    go_loopw [4] (fun i wr => i = .int .i64 0 ∧ wr = w.alloc (.cells cs0 61)) (fun i _ => 0)
    case atStart => exact ⟨rfl, rfl⟩
    case round =>
      obtain ⟨rfl, rfl⟩ := hrel
      go_wp2
      go_ret
      exact ⟨_, rfl, HP0.out.full (by decide) (fun j h1 h2 => ⟨h1, h2⟩), HL0.out⟩
  · have HE := hid (fun k (hk : k < n) => h.elem hk)
    have HQ := hid hsh
    have HZ := hid hz
    unfold maxLen at hm
    clear h hsh hz hcs
    go_enter Try.func24, Try.ntmps24
    go_wp2
    go_loopw [4] (fun i wr => ∃ k : Nat, k ≤ n ∧ i = .int .i64 k ∧ Hid (Part wr w.heap.size 61 6 n k (fun i => (x i).cn)) ∧ Hid (le w wr)) (fun i _ => n - (intOf i).toNat)
    case atStart => exact ⟨0, by omega, rfl, HP0.out, HL0.out⟩
    case round =>
      obtain ⟨k, hk, rfl, HP, HL⟩ := hrel
      rename_i wr _
      by_cases hlt : k < n
      · obtain ⟨vs, hvl, hvc, hvr⟩ := HE.out k hlt
        have hat := sz_atEvent x k hlt
        have hvc' := hid (fun j v (hv : vs[j]? = some v) => (Below.cell HL.out (cell_lt' (hvc j v hv))).trans (hvc j v hv))
        have HT := hid (fun (w' : World) (hl : le wr w') => toU_Event B _ vs w' (hvr.le (le_trans HL.out hl)) (ShOk.elem (l := shEvent) HQ.out hlt) (by have := HZ.out; omega))
        have hvl := hid hvl
        clear hvc hvr hat
        go_wp2_with (first | (with_reducible refine wpList_indexW0 rfl rfl rfl rfl Try.underlying34 uinfoEventI hlt ?_) | (with_reducible refine wpList_indexW rfl rfl rfl rfl Try.underlying27 uinfoEventL hlt ?_) | ((with_reducible refine at_load rfl ?_); (with_reducible refine wpList_loadW rfl rfl rfl vs hvc'.out Try.underlying74 rfl uinfoEventL hvl.out ?_)) | (go_at_call 43; ((with_reducible refine (HT.out _ (le_refl _)).mono ?_); rintro e w1 ⟨us, rfl, ho, hl⟩; have HO := hid ho; have HL1 := hid hl; clear ho hl)) | (with_reducible refine stop_store rfl ?_))
        show wpList _ _ _ _ _ _
        obtain ⟨cs1, hr1, hs1⟩ := HP.out.row
        have hul : us.length = 6 := by have := HO.out.1; simpa using this
        have hend : k * 6 + 6 ≤ n * 6 := by rw [← Nat.succ_mul]; exact Nat.mul_le_mul_right _ hlt
        refine wpList_storeP rfl rfl rfl (f := k * 6) (cells := us) rfl (hr1.le HL1.out) (by rw [hul]; exact uinfoEventI) (by omega) HO.out.all_one (fun w2 K => ?_)
        have HP2 := hid (HP.out.step hlt HL1.out (by have := HO.out.cn; simpa [List.map_map, Function.comp_def] using this) (hr1.le HL1.out) K)
        have HL2 := hid (K.below _ _ (le_trans HL.out HL1.out) (Nat.le_refl _))
        clear K hr1 hs1 hul hend
        go_wp2
        go_roundw
        case rel => exact ⟨k + 1, by omega, by go_num, HP2.out, HL2.out⟩
        case measure => simp [intOf]; omega
      · obtain rfl : k = n := by omega
        go_wp2
        go_ret
        exact ⟨_, rfl, HP.out.full (by unfold maxLen; omega) (fun j h1 h2 => ⟨h1, h2⟩), HL.out⟩
set_option maxRecDepth 100000 in
set_option maxHeartbeats 4000000 in
theorem eqU_EventS (B B' n : Nat) (x : Nat → CD) (s s' : Value) (w : World) (h : (CD.sl 6 n x).Rd w B s) (h' : (CD.sl 6 n x).Rd w B' s') (hsh : ∀ i, i < n → ∀ j, j < 6 → ShOk (shEvent.getD j .bool) (x (i * 6 + j))) (hz : CD.sz (CD.sl 6 n x) ≤ 1048576) :
    Calls Try.prog 32 #[s, s'] w (OutT w) := by
  have hzz := hid hz
  simp only [CD.sz] at hz
  by_cases h0 : n = 0
  · have hrd := hid h; have hrd' := hid h'
    subst h0
    clear h h' hz hzz hsh
    go_enter Try.func32, Try.ntmps32
    go_wp2_with (first | (with_reducible refine wpList_lenC rfl rfl rfl Try.underlying34 hrd.out ?_) | (with_reducible refine wpList_lenC rfl rfl rfl Try.underlying34 hrd'.out ?_))
    go_loop [5] (fun i => i = .int .i64 0) (fun _ => 0)
    case atStart => rfl
    case round =>
      obtain rfl := hrel
      go_wp2_with (first | (with_reducible refine wpList_lenC rfl rfl rfl Try.underlying34 hrd.out ?_) | (with_reducible refine wpList_lenC rfl rfl rfl Try.underlying34 hrd'.out ?_))
      go_ret
      exact ⟨rfl, le_refl _⟩
  have HE := hid (fun k (hk : k < n) a cap (e : s = .slice (some a) n cap) => (CD.Rd.elem (w := w) (B := B) (wd := 6) (x := x) (cap := cap) (a := a) (e ▸ h) hk))
  have HE' := hid (fun k (hk : k < n) a cap (e : s' = .slice (some a) n cap) => (CD.Rd.elem (w := w) (B := B') (wd := 6) (x := x) (cap := cap) (a := a) (e ▸ h') hk))
  rcases h.form with ⟨_, e0⟩ | ⟨a, cap, rfl, hc, hm⟩
  · exact absurd e0 h0
  rcases h'.form with ⟨_, e0⟩ | ⟨a', cap', rfl, hc', hm'⟩
  · exact absurd e0 h0
  have HQ := hid hsh
  unfold maxLen at hm hm'
  clear h h' hsh h0
  go_enter Try.func32, Try.ntmps32
  go_wp2
  go_loopw [5] (fun i wr => ∃ k : Nat, k ≤ n ∧ i = .int .i64 k ∧ Hid (le w wr)) (fun i _ => n - (intOf i).toNat)
  case atStart => exact ⟨0, by omega, rfl, le_refl _⟩
  case round =>
    obtain ⟨k, hk, rfl, HL⟩ := hrel
    rename_i wr _
    by_cases hlt : k < n
    · obtain ⟨vs, hvl, hvc, hvr⟩ := HE.out k hlt a cap rfl
      obtain ⟨vs', hvl', hvc', hvr'⟩ := HE'.out k hlt a' cap' rfl
      have hat := sz_atEvent x k hlt
      have HQE := hid (fun (w' : World) (hl : le wr w') => eqU_Event B B' _ vs vs' w' (hvr.le (le_trans HL.out hl)) (hvr'.le (le_trans HL.out hl)) (ShOk.elem (l := shEvent) HQ.out hlt) (by omega))
      have gvc := hid (fun (w' : World) (hl : le wr w') j v (hv : vs[j]? = some v) => (Below.cell (le_trans HL.out hl) (cell_lt' (hvc j v hv))).trans (hvc j v hv))
      have gvc' := hid (fun (w' : World) (hl : le wr w') j v (hv : vs'[j]? = some v) => (Below.cell (le_trans HL.out hl) (cell_lt' (hvc' j v hv))).trans (hvc' j v hv))
      have hvl := hid hvl; have hvl' := hid hvl'
      clear hvc hvr hvc' hvr' hat
      go_wp2_with fail
      refine region_freeD (E := leX) (fun f args w v => v = .bool true) (by kernel_rfl) (by kernel_rfl) ?_
      refine wpFreeD_one rfl (.slice (some a) n cap) (fun w1 _ => by kernel_rfl) ?_
      simp only [Act.put, List.setIfInBounds_toArray, List.set_cons_succ, List.set_cons_zero]
      refine wpFreeD_one rfl (.int .i64 k) (fun w1 _ => by kernel_rfl) ?_
      simp only [Act.put, List.setIfInBounds_toArray, List.set_cons_succ, List.set_cons_zero]
      refine wpFreeD_indexW rfl rfl rfl rfl Try.underlying34 uinfoEventI hlt ?_
      simp only [Act.put, List.setIfInBounds_toArray, List.set_cons_succ, List.set_cons_zero]
      refine wpFreeD_loadW rfl rfl rfl vs (fun w1 h1 j v hv => gvc.out w1 (le_trans (le_drewN _ _) h1) j v hv) Try.underlying61 rfl uinfoEventI hvl.out ?_
      simp only [Act.put, List.setIfInBounds_toArray, List.set_cons_succ, List.set_cons_zero]
      refine wpFreeD_one rfl (.slice (some a') n cap') (fun w1 _ => by kernel_rfl) ?_
      simp only [Act.put, List.setIfInBounds_toArray, List.set_cons_succ, List.set_cons_zero]
      refine wpFreeD_one rfl (.int .i64 k) (fun w1 _ => by kernel_rfl) ?_
      simp only [Act.put, List.setIfInBounds_toArray, List.set_cons_succ, List.set_cons_zero]
      refine wpFreeD_indexW rfl rfl rfl rfl Try.underlying34 uinfoEventI hlt ?_
      simp only [Act.put, List.setIfInBounds_toArray, List.set_cons_succ, List.set_cons_zero]
      refine wpFreeD_loadW rfl rfl rfl vs' (fun w1 h1 j v hv => gvc'.out w1 (le_trans (le_drewN _ _) h1) j v hv) Try.underlying61 rfl uinfoEventI hvl'.out ?_
      simp only [Act.put, List.setIfInBounds_toArray, List.set_cons_succ, List.set_cons_zero]
      refine wpFreeD_callB rfl rfl Try.func53 (by kernel_rfl) (by kernel_rfl) (args := #[.agg vs.toArray, .agg vs'.toArray]) (by simp [Act.eval]) (fun v w1 w2 hw hv => hv) (fun w1 hw1 _ => (HQE.out w1 (le_trans (le_drewN _ _) hw1)).mono ?_) ?_
      · rintro e w2 ⟨rfl, hl⟩
        exact ⟨_, rfl, hl, rfl⟩
      rintro v ⟨_, _, _, rfl⟩
      simp only [Act.put, List.setIfInBounds_toArray, List.set_cons_succ, List.set_cons_zero]
      refine wpFreeD_one rfl (.bool false) (fun w1 _ => by kernel_rfl) ?_
      simp only [Act.put, List.setIfInBounds_toArray, List.set_cons_succ, List.set_cons_zero]
      refine wpFreeD_nil (fun wR hwR _ => ?_)
      have HL1 := hid (le_trans HL.out (le_trans (le_drewN _ _) hwR))
      clear hwR
      go_wp2
      go_roundw
      case rel => exact ⟨k + 1, by omega, by go_num, HL1.out⟩
      case measure => simp [intOf]; omega
    · obtain rfl : k = n := by omega
      go_wp2
      go_ret
      exact ⟨rfl, HL.out⟩
end Go.Proofs.Ytnkjmgadnejdlad

/- The laws' helpers for Score, over trees of data. -/
namespace Go.Proofs.Ytnkjmgadnejdlad
open Go.RowKit Go.Fk
set_option maxRecDepth 100000 in
set_option maxHeartbeats 4000000 in
theorem szU_Score (B : Nat) (cs : List CD) (vs : List Value) (m r : Int) (w : World) (h : RdL w B cs vs) (hsh : ShOkL shScore cs) (h0 : 0 ≤ m) (h1 : m ≤ 1048576) (hr : lessBy m (szL cs) = r) :
    Calls Try.prog 7 #[.agg vs.toArray, .int .i64 m] w (OutI r w) := by
  obtain ⟨c0, cs, rfl, q0, hsh⟩ := hsh.inv
  obtain ⟨c1, cs, rfl, q1, hsh⟩ := hsh.inv
  obtain ⟨c2, cs, rfl, q2, hsh⟩ := hsh.inv
  obtain ⟨c3, cs, rfl, q3, hsh⟩ := hsh.inv
  obtain ⟨c4, cs, rfl, q4, hsh⟩ := hsh.inv
  obtain ⟨c5, cs, rfl, q5, hsh⟩ := hsh.inv
  obtain rfl := hsh.inv0
  obtain ⟨v0, vs, rfl, r0, h⟩ := h.inv
  obtain ⟨v1, vs, rfl, r1, h⟩ := h.inv
  obtain ⟨v2, vs, rfl, r2, h⟩ := h.inv
  obtain ⟨v3, vs, rfl, r3, h⟩ := h.inv
  obtain ⟨v4, vs, rfl, r4, h⟩ := h.inv
  obtain ⟨v5, vs, rfl, r5, h⟩ := h.inv
  obtain rfl := h.inv0
  have q0 : c0.flk = some .f32 := q0
  obtain ⟨y0, rfl, f0, e0⟩ := r0.fl q0
  have q1 : c1.flk = some .f32 := q1
  obtain ⟨y1, rfl, f1, e1⟩ := r1.fl q1
  have q2 : c2.flk = some .f32 := q2
  obtain ⟨y2, rfl, f2, e2⟩ := r2.fl q2
  obtain ⟨a0, ha0⟩ : ∃ a : Nat, a = szL [c1, c2, c3] := ⟨_, rfl⟩
  have H0 := hid (fun (m r : Int) (w' : World) (hl : le w w') (h0 : 0 ≤ m) (h1 : m ≤ 1048576) (hr : lessBy m a0 = r) => szU_Tuning B _ [.float .f32 y1, .float .f32 y2, v3] m r w' (RdL.cons (c := c1) (r1.le hl) (RdL.cons (c := c2) (r2.le hl) (RdL.cons (c := c3) (r3.le hl) (RdL.nil _ _)))) (ShOkL.cons q1 (ShOkL.cons q2 (ShOkL.cons q3 (ShOkL.nil)))) h0 h1 (ha0 ▸ hr))
  obtain ⟨n4, x4, rfl, q4⟩ := q4
  obtain ⟨a1, ha1⟩ : ∃ a : Nat, a = CD.sz (.sl 5 n4 x4) := ⟨_, rfl⟩
  have H1 := hid (fun (m r : Int) (w' : World) (hl : le w w') (h0 : 0 ≤ m) (h1 : m ≤ 1048576) (hr : lessBy m a1 = r) => szU_InstrumentS B _ _ v4 m r w' (r4.le hl) q4 h0 h1 (ha1 ▸ hr))
  obtain ⟨n5, x5, rfl, q5⟩ := q5
  obtain ⟨a2, ha2⟩ : ∃ a : Nat, a = CD.sz (.sl 6 n5 x5) := ⟨_, rfl⟩
  have H2 := hid (fun (m r : Int) (w' : World) (hl : le w w') (h0 : 0 ≤ m) (h1 : m ≤ 1048576) (hr : lessBy m a2 = r) => szU_EventS B _ _ v5 m r w' (r5.le hl) q5 h0 h1 (ha2 ▸ hr))
  replace hr : Hid (lessBy m (a0 + a1 + a2) = r) := by rw [← hr]; congr 1; try (first | (simp only [szL, List.map_cons, List.map_nil, List.sum_cons, List.sum_nil, CD.sz, ha0, ha1, ha2, CD.sz_fl q0, CD.sz_fl q1, CD.sz_fl q2]; done) | (simp only [szL, List.map_cons, List.map_nil, List.sum_cons, List.sum_nil, CD.sz, ha0, ha1, ha2, CD.sz_fl q0, CD.sz_fl q1, CD.sz_fl q2]; omega))
  clear ha0 ha1 ha2
  have F := (Frg.nil w).box 29 #[.float .f32 y0, .float .f32 y1, .float .f32 y2, v3, v4, v5]
  by_cases g0 : m - (a0 : Int) < 0
  · have er : r = -1 := by have := hr.out; rw [lessBy_neg (by omega)] at this; omega
    subst er
    clear hr
    go_enter Try.func7, Try.ntmps7
    go_wp2_with (first | ((with_reducible refine at_load rfl ?_); first | (with_reducible refine wpList_load1 F rfl rfl rfl (by first | exact m0) (f := 0) (v := .float .f32 y0) rfl ukindFloat32 ?_) | (with_reducible refine wpList_loadGP F rfl rfl rfl (by first | exact m0) Try.underlying25 rfl [.float .f32 y1, .float .f32 y2, v3] (partScore_Tuning (.float .f32 y0) (.float .f32 y1) (.float .f32 y2) (v3) (v4) (v5)) uinfoTuningL rfl ?_) | (with_reducible refine wpList_load1 F rfl rfl rfl (by first | exact m0) (f := 4) (v := v4) rfl ukindInstrumentSL ?_) | (with_reducible refine wpList_load1 F rfl rfl rfl (by first | exact m0) (f := 5) (v := v5) rfl ukindEventSL ?_)) | (go_at_call 18; ((with_reducible refine (H0.out m (-1 : Int) _ F.below (by omega) (by omega) (by exact lessBy_neg (by omega))).mono ?_); rintro e w1 ⟨rfl, hl⟩; replace F := F.le hl; clear hl)))
    go_ret
    exact ⟨rfl, F.below⟩
  · skip
    by_cases g1 : (m - (a0 : Int)) - (a1 : Int) < 0
    · have er : r = -1 := by have := hr.out; rw [lessBy_neg (by omega)] at this; omega
      subst er
      clear hr
      go_enter Try.func7, Try.ntmps7
      go_wp2_with (first | ((with_reducible refine at_load rfl ?_); first | (with_reducible refine wpList_load1 F rfl rfl rfl (by first | exact m0) (f := 0) (v := .float .f32 y0) rfl ukindFloat32 ?_) | (with_reducible refine wpList_loadGP F rfl rfl rfl (by first | exact m0) Try.underlying25 rfl [.float .f32 y1, .float .f32 y2, v3] (partScore_Tuning (.float .f32 y0) (.float .f32 y1) (.float .f32 y2) (v3) (v4) (v5)) uinfoTuningL rfl ?_) | (with_reducible refine wpList_load1 F rfl rfl rfl (by first | exact m0) (f := 4) (v := v4) rfl ukindInstrumentSL ?_) | (with_reducible refine wpList_load1 F rfl rfl rfl (by first | exact m0) (f := 5) (v := v5) rfl ukindEventSL ?_)) | (go_at_call 18; ((with_reducible refine (H0.out m (m - (a0 : Int)) _ F.below (by omega) (by omega) (by exact lessBy_pos (by omega))).mono ?_); rintro e w1 ⟨rfl, hl⟩; replace F := F.le hl; clear hl)) | (go_at_call 19; ((with_reducible refine (H1.out (m - (a0 : Int)) (-1 : Int) _ F.below (by omega) (by omega) (by exact lessBy_neg (by omega))).mono ?_); rintro e w1 ⟨rfl, hl⟩; replace F := F.le hl; clear hl)))
      go_ret
      exact ⟨rfl, F.below⟩
    · skip
      by_cases g2 : ((m - (a0 : Int)) - (a1 : Int)) - (a2 : Int) < 0
      · have er : r = -1 := by have := hr.out; rw [lessBy_neg (by omega)] at this; omega
        subst er
        clear hr
        go_enter Try.func7, Try.ntmps7
        go_wp2_with (first | ((with_reducible refine at_load rfl ?_); first | (with_reducible refine wpList_load1 F rfl rfl rfl (by first | exact m0) (f := 0) (v := .float .f32 y0) rfl ukindFloat32 ?_) | (with_reducible refine wpList_loadGP F rfl rfl rfl (by first | exact m0) Try.underlying25 rfl [.float .f32 y1, .float .f32 y2, v3] (partScore_Tuning (.float .f32 y0) (.float .f32 y1) (.float .f32 y2) (v3) (v4) (v5)) uinfoTuningL rfl ?_) | (with_reducible refine wpList_load1 F rfl rfl rfl (by first | exact m0) (f := 4) (v := v4) rfl ukindInstrumentSL ?_) | (with_reducible refine wpList_load1 F rfl rfl rfl (by first | exact m0) (f := 5) (v := v5) rfl ukindEventSL ?_)) | (go_at_call 18; ((with_reducible refine (H0.out m (m - (a0 : Int)) _ F.below (by omega) (by omega) (by exact lessBy_pos (by omega))).mono ?_); rintro e w1 ⟨rfl, hl⟩; replace F := F.le hl; clear hl)) | (go_at_call 19; ((with_reducible refine (H1.out (m - (a0 : Int)) ((m - (a0 : Int)) - (a1 : Int)) _ F.below (by omega) (by omega) (by exact lessBy_pos (by omega))).mono ?_); rintro e w1 ⟨rfl, hl⟩; replace F := F.le hl; clear hl)) | (go_at_call 20; ((with_reducible refine (H2.out ((m - (a0 : Int)) - (a1 : Int)) (-1 : Int) _ F.below (by omega) (by omega) (by exact lessBy_neg (by omega))).mono ?_); rintro e w1 ⟨rfl, hl⟩; replace F := F.le hl; clear hl)))
        go_ret
        exact ⟨rfl, F.below⟩
      · skip
        have er : r = (((m - (a0 : Int)) - (a1 : Int)) - (a2 : Int)) := by have := hr.out; rw [lessBy_pos (by omega)] at this; omega
        subst er
        clear hr
        go_enter Try.func7, Try.ntmps7
        go_wp2_with (first | ((with_reducible refine at_load rfl ?_); first | (with_reducible refine wpList_load1 F rfl rfl rfl (by first | exact m0) (f := 0) (v := .float .f32 y0) rfl ukindFloat32 ?_) | (with_reducible refine wpList_loadGP F rfl rfl rfl (by first | exact m0) Try.underlying25 rfl [.float .f32 y1, .float .f32 y2, v3] (partScore_Tuning (.float .f32 y0) (.float .f32 y1) (.float .f32 y2) (v3) (v4) (v5)) uinfoTuningL rfl ?_) | (with_reducible refine wpList_load1 F rfl rfl rfl (by first | exact m0) (f := 4) (v := v4) rfl ukindInstrumentSL ?_) | (with_reducible refine wpList_load1 F rfl rfl rfl (by first | exact m0) (f := 5) (v := v5) rfl ukindEventSL ?_)) | (go_at_call 18; ((with_reducible refine (H0.out m (m - (a0 : Int)) _ F.below (by omega) (by omega) (by exact lessBy_pos (by omega))).mono ?_); rintro e w1 ⟨rfl, hl⟩; replace F := F.le hl; clear hl)) | (go_at_call 19; ((with_reducible refine (H1.out (m - (a0 : Int)) ((m - (a0 : Int)) - (a1 : Int)) _ F.below (by omega) (by omega) (by exact lessBy_pos (by omega))).mono ?_); rintro e w1 ⟨rfl, hl⟩; replace F := F.le hl; clear hl)) | (go_at_call 20; ((with_reducible refine (H2.out ((m - (a0 : Int)) - (a1 : Int)) (((m - (a0 : Int)) - (a1 : Int)) - (a2 : Int)) _ F.below (by omega) (by omega) (by exact lessBy_pos (by omega))).mono ?_); rintro e w1 ⟨rfl, hl⟩; replace F := F.le hl; clear hl)))
        go_ret
        exact ⟨rfl, F.below⟩
set_option maxRecDepth 100000 in
set_option maxHeartbeats 4000000 in
theorem eqU_Score (B B' : Nat) (cs : List CD) (vs vs' : List Value) (w : World) (h : RdL w B cs vs) (h' : RdL w B' cs vs') (hsh : ShOkL shScore cs) (hz : szL cs ≤ 1048576) :
    Calls Try.prog 11 #[.agg vs.toArray, .agg vs'.toArray] w (OutT w) := by
  obtain ⟨c0, cs, rfl, q0, hsh⟩ := hsh.inv
  obtain ⟨c1, cs, rfl, q1, hsh⟩ := hsh.inv
  obtain ⟨c2, cs, rfl, q2, hsh⟩ := hsh.inv
  obtain ⟨c3, cs, rfl, q3, hsh⟩ := hsh.inv
  obtain ⟨c4, cs, rfl, q4, hsh⟩ := hsh.inv
  obtain ⟨c5, cs, rfl, q5, hsh⟩ := hsh.inv
  obtain rfl := hsh.inv0
  obtain ⟨v0, vs, rfl, r0, h⟩ := h.inv
  obtain ⟨v1, vs, rfl, r1, h⟩ := h.inv
  obtain ⟨v2, vs, rfl, r2, h⟩ := h.inv
  obtain ⟨v3, vs, rfl, r3, h⟩ := h.inv
  obtain ⟨v4, vs, rfl, r4, h⟩ := h.inv
  obtain ⟨v5, vs, rfl, r5, h⟩ := h.inv
  obtain rfl := h.inv0
  obtain ⟨v0', vs', rfl, r0', h'⟩ := h'.inv
  obtain ⟨v1', vs', rfl, r1', h'⟩ := h'.inv
  obtain ⟨v2', vs', rfl, r2', h'⟩ := h'.inv
  obtain ⟨v3', vs', rfl, r3', h'⟩ := h'.inv
  obtain ⟨v4', vs', rfl, r4', h'⟩ := h'.inv
  obtain ⟨v5', vs', rfl, r5', h'⟩ := h'.inv
  obtain rfl := h'.inv0
  have q0 : c0.flk = some .f32 := q0
  obtain ⟨y0, rfl, f0, e0⟩ := r0.fl q0
  obtain ⟨y0', rfl, f0', e0'⟩ := r0'.fl q0
  have q1 : c1.flk = some .f32 := q1
  obtain ⟨y1, rfl, f1, e1⟩ := r1.fl q1
  obtain ⟨y1', rfl, f1', e1'⟩ := r1'.fl q1
  have q2 : c2.flk = some .f32 := q2
  obtain ⟨y2, rfl, f2, e2⟩ := r2.fl q2
  obtain ⟨y2', rfl, f2', e2'⟩ := r2'.fl q2
  simp only [szL, List.map_cons, List.map_nil, List.sum_cons, List.sum_nil] at hz
  have E0 := hid (e0.trans e0'.symm)
  have H1 := hid (fun (w' : World) (hl : le w w') => eqU_Tuning B B' [c1, c2, c3] [.float .f32 y1, .float .f32 y2, v3] [.float .f32 y1', .float .f32 y2', v3'] w' (RdL.cons (c := c1) (r1.le hl) (RdL.cons (c := c2) (r2.le hl) (RdL.cons (c := c3) (r3.le hl) (RdL.nil _ _)))) (RdL.cons (c := c1) (r1'.le hl) (RdL.cons (c := c2) (r2'.le hl) (RdL.cons (c := c3) (r3'.le hl) (RdL.nil _ _)))) (ShOkL.cons q1 (ShOkL.cons q2 (ShOkL.cons q3 (ShOkL.nil)))) (by simp only [szL, List.map_cons, List.map_nil, List.sum_cons, List.sum_nil]; first | omega | (simp only [CD.sz] at hz ⊢; omega)))
  obtain ⟨n4, x4, rfl, q4⟩ := q4
  have H2 := hid (fun (w' : World) (hl : le w w') => eqU_InstrumentS B B' _ _ v4 v4' w' (r4.le hl) (r4'.le hl) q4 (by omega))
  obtain ⟨n5, x5, rfl, q5⟩ := q5
  have H3 := hid (fun (w' : World) (hl : le w w') => eqU_EventS B B' _ _ v5 v5' w' (r5.le hl) (r5'.le hl) q5 (by omega))
  have F := ((Frg.nil w).box 36 #[.float .f32 y0, .float .f32 y1, .float .f32 y2, v3, v4, v5]).box 36 #[.float .f32 y0', .float .f32 y1', .float .f32 y2', v3', v4', v5']
  simp only [World.size_alloc] at F
  clear hz
  go_enter Try.func11, Try.ntmps11
  go_wp2_with (first | ((with_reducible refine listN F ?_); clear F; intro wN F) | ((with_reducible refine at_load rfl ?_); first | (with_reducible refine wpList_load1 F rfl rfl rfl (by first | exact m0 | exact m1) (f := 0) (v := .float .f32 y0) rfl ukindFloat32 ?_) | (with_reducible refine wpList_loadGP F rfl rfl rfl (by first | exact m0 | exact m1) Try.underlying32 rfl [.float .f32 y1, .float .f32 y2, v3] (partScore_Tuning (.float .f32 y0) (.float .f32 y1) (.float .f32 y2) (v3) (v4) (v5)) uinfoTuningI rfl ?_) | (with_reducible refine wpList_load1 F rfl rfl rfl (by first | exact m0 | exact m1) (f := 4) (v := v4) rfl ukindInstrumentSI ?_) | (with_reducible refine wpList_load1 F rfl rfl rfl (by first | exact m0 | exact m1) (f := 5) (v := v5) rfl ukindEventSI ?_) | (with_reducible refine wpList_load1 F rfl rfl rfl (by first | exact m0 | exact m1) (f := 0) (v := .float .f32 y0') rfl ukindFloat32 ?_) | (with_reducible refine wpList_loadGP F rfl rfl rfl (by first | exact m0 | exact m1) Try.underlying32 rfl [.float .f32 y1', .float .f32 y2', v3'] (partScore_Tuning (.float .f32 y0') (.float .f32 y1') (.float .f32 y2') (v3') (v4') (v5')) uinfoTuningI rfl ?_) | (with_reducible refine wpList_load1 F rfl rfl rfl (by first | exact m0 | exact m1) (f := 4) (v := v4') rfl ukindInstrumentSI ?_) | (with_reducible refine wpList_load1 F rfl rfl rfl (by first | exact m0 | exact m1) (f := 5) (v := v5') rfl ukindEventSI ?_)) | (go_at_call 30; ((with_reducible refine (H1.out _ F.below).mono ?_); rintro e w1 ⟨rfl, hl⟩; replace F := F.le hl; clear hl)) | (go_at_call 31; ((with_reducible refine (H2.out _ F.below).mono ?_); rintro e w1 ⟨rfl, hl⟩; replace F := F.le hl; clear hl)) | (go_at_call 32; ((with_reducible refine (H3.out _ F.below).mono ?_); rintro e w1 ⟨rfl, hl⟩; replace F := F.le hl; clear hl)) | ((with_reducible refine at_convert rfl ?_); (with_reducible refine wpList_widen rfl rfl rfl Try.underlying22 Try.underlying55 ?_; intro s1 n1 h1 f1)) | (go_at_call 29; ((with_reducible refine (sameFloat_yes _ _ _ (by first | exact (Hid.out ‹Hid (can .f64 _ = can .f64 (widen y0))›).trans ((congrArg (can .f64) (widen_congr E0.out)).trans (Hid.out ‹Hid (can .f64 _ = can .f64 (widen y0'))›).symm))).mono ?_); rintro e w7 ⟨rfl, dq7, rfl⟩; skip)))
  go_ret
  first | exact ⟨rfl, F.below⟩ | exact ⟨rfl, below_drewN F.below _⟩
set_option maxRecDepth 100000 in
set_option maxHeartbeats 4000000 in
theorem toU_Score (B : Nat) (cs : List CD) (vs : List Value) (w : World) (h : RdL w B cs vs) (hsh : ShOkL shScore cs) (hz : szL cs ≤ 1048576) :
    Calls Try.prog 9 #[.agg vs.toArray] w (OutA' (cs.map CD.cp) w) := by
  obtain ⟨c0, cs, rfl, q0, hsh⟩ := hsh.inv
  obtain ⟨c1, cs, rfl, q1, hsh⟩ := hsh.inv
  obtain ⟨c2, cs, rfl, q2, hsh⟩ := hsh.inv
  obtain ⟨c3, cs, rfl, q3, hsh⟩ := hsh.inv
  obtain ⟨c4, cs, rfl, q4, hsh⟩ := hsh.inv
  obtain ⟨c5, cs, rfl, q5, hsh⟩ := hsh.inv
  obtain rfl := hsh.inv0
  obtain ⟨v0, vs, rfl, r0, h⟩ := h.inv
  obtain ⟨v1, vs, rfl, r1, h⟩ := h.inv
  obtain ⟨v2, vs, rfl, r2, h⟩ := h.inv
  obtain ⟨v3, vs, rfl, r3, h⟩ := h.inv
  obtain ⟨v4, vs, rfl, r4, h⟩ := h.inv
  obtain ⟨v5, vs, rfl, r5, h⟩ := h.inv
  obtain rfl := h.inv0
  have q0 : c0.flk = some .f32 := q0
  obtain ⟨y0, rfl, f0, e0⟩ := r0.fl q0
  have q1 : c1.flk = some .f32 := q1
  obtain ⟨y1, rfl, f1, e1⟩ := r1.fl q1
  have q2 : c2.flk = some .f32 := q2
  obtain ⟨y2, rfl, f2, e2⟩ := r2.fl q2
  simp only [szL, List.map_cons, List.map_nil, List.sum_cons, List.sum_nil] at hz
  have H1 := hid (fun (w' : World) (hl : le w w') => toU_Tuning B [c1, c2, c3] [.float .f32 y1, .float .f32 y2, v3] w' (RdL.cons (c := c1) (r1.le hl) (RdL.cons (c := c2) (r2.le hl) (RdL.cons (c := c3) (r3.le hl) (RdL.nil _ _)))) (ShOkL.cons q1 (ShOkL.cons q2 (ShOkL.cons q3 (ShOkL.nil)))) (by simp only [szL, List.map_cons, List.map_nil, List.sum_cons, List.sum_nil]; first | omega | (simp only [CD.sz] at hz ⊢; omega)))
  obtain ⟨n4, x4, rfl, q4⟩ := q4
  have H2 := hid (fun (w' : World) (hl : le w w') => toU_InstrumentS B _ _ v4 w' (r4.le hl) q4 (by omega))
  obtain ⟨n5, x5, rfl, q5⟩ := q5
  have H3 := hid (fun (w' : World) (hl : le w w') => toU_EventS B _ _ v5 w' (r5.le hl) q5 (by omega))
  obtain ⟨n3, x3, rfl, -⟩ := q3
  have F := (((Frg.nil w).box 29 #[.float .f32 y0, .float .f32 y1, .float .f32 y2, v3, v4, v5]).box 36 #[.float .f32 0, .float .f32 0, .float .f32 0, .slice none 0 0, .slice none 0 0, .slice none 0 0]).box 36 #[.float .f32 0, .float .f32 0, .float .f32 0, .slice none 0 0, .slice none 0 0, .slice none 0 0]
  simp only [World.size_alloc] at F
  clear hz
  go_enter Try.func9, Try.ntmps9
  go_wp2_with (first | ((with_reducible refine listN F ?_); clear F; intro wN F) | ((with_reducible refine at_load rfl ?_); first | (with_reducible refine wpList_load1 F rfl rfl rfl (by first | exact m0 | exact m1 | exact m2 | exact m3) (f := 0) (v := .float .f32 y0) rfl ukindFloat32 ?_) | (with_reducible refine wpList_loadGP F rfl rfl rfl (by first | exact m0 | exact m1 | exact m2 | exact m3) Try.underlying25 rfl [.float .f32 y1, .float .f32 y2, v3] (partScore_Tuning (.float .f32 y0) (.float .f32 y1) (.float .f32 y2) (v3) (v4) (v5)) uinfoTuningL rfl ?_) | (with_reducible refine wpList_load1 F rfl rfl rfl (by first | exact m0 | exact m1 | exact m2 | exact m3) (f := 4) (v := v4) rfl ukindInstrumentSL ?_) | (with_reducible refine wpList_load1 F rfl rfl rfl (by first | exact m0 | exact m1 | exact m2 | exact m3) (f := 5) (v := v5) rfl ukindEventSL ?_)) | (with_reducible refine stop_store rfl ?_))
  show wpList _ _ _ _ _ _
  refine wpList_store1 rfl rfl (f := 0) rfl rfl (F.row m0) uinfo1Float32 (by simp) rfl #[.float .f32 y0, .float .f32 0, .float .f32 0, .slice none 0 0, .slice none 0 0, .slice none 0 0] rfl (fun w2 K => ?_)
  replace F := F.wrI0 (cs' := #[.float .f32 y0, .float .f32 0, .float .f32 0, .slice none 0 0, .slice none 0 0, .slice none 0 0]) K
  clear K
  go_wp2_with (first | ((with_reducible refine listN F ?_); clear F; intro wN F) | ((with_reducible refine at_load rfl ?_); first | (with_reducible refine wpList_load1 F rfl rfl rfl (by first | exact m0 | exact m1 | exact m2 | exact m3) (f := 0) (v := .float .f32 y0) rfl ukindFloat32 ?_) | (with_reducible refine wpList_loadGP F rfl rfl rfl (by first | exact m0 | exact m1 | exact m2 | exact m3) Try.underlying25 rfl [.float .f32 y1, .float .f32 y2, v3] (partScore_Tuning (.float .f32 y0) (.float .f32 y1) (.float .f32 y2) (v3) (v4) (v5)) uinfoTuningL rfl ?_) | (with_reducible refine wpList_load1 F rfl rfl rfl (by first | exact m0 | exact m1 | exact m2 | exact m3) (f := 4) (v := v4) rfl ukindInstrumentSL ?_) | (with_reducible refine wpList_load1 F rfl rfl rfl (by first | exact m0 | exact m1 | exact m2 | exact m3) (f := 5) (v := v5) rfl ukindEventSL ?_)) | (go_at_call 22; ((with_reducible refine (H1.out _ F.below).mono ?_); rintro e w1 ⟨us, rfl, ho, hl⟩; obtain ⟨g1, g2, u3, O3, rfl, ho⟩ := invf_Tuning _ _ _ _ q1 q2 ho; have O3 := hid O3; replace F := F.lay1 hl ho; clear ho hl)) | (with_reducible refine stop_store rfl ?_))
  show wpList _ _ _ _ _ _
  refine wpList_storeP rfl rfl rfl (f := 1) (cells := [.float .f32 g1, .float .f32 g2, u3]) rfl (F.row m1) uinfoTuningI (by simp) (by (simp only [List.all_toArray', List.all_cons, List.all_nil, Bool.and_true, Bool.true_and, O3.out]) <;> rfl) (fun w2 K => ?_)
  replace F := F.wrI1 (cs' := #[.float .f32 y0, .float .f32 g1, .float .f32 g2, u3, .slice none 0 0, .slice none 0 0]) K
  clear K
  go_wp2_with (first | ((with_reducible refine listN F ?_); clear F; intro wN F) | ((with_reducible refine at_load rfl ?_); first | (with_reducible refine wpList_load1 F rfl rfl rfl (by first | exact m0 | exact m1 | exact m2 | exact m3 | exact m4) (f := 0) (v := .float .f32 y0) rfl ukindFloat32 ?_) | (with_reducible refine wpList_loadGP F rfl rfl rfl (by first | exact m0 | exact m1 | exact m2 | exact m3 | exact m4) Try.underlying25 rfl [.float .f32 y1, .float .f32 y2, v3] (partScore_Tuning (.float .f32 y0) (.float .f32 y1) (.float .f32 y2) (v3) (v4) (v5)) uinfoTuningL rfl ?_) | (with_reducible refine wpList_load1 F rfl rfl rfl (by first | exact m0 | exact m1 | exact m2 | exact m3 | exact m4) (f := 4) (v := v4) rfl ukindInstrumentSL ?_) | (with_reducible refine wpList_load1 F rfl rfl rfl (by first | exact m0 | exact m1 | exact m2 | exact m3 | exact m4) (f := 5) (v := v5) rfl ukindEventSL ?_)) | (go_at_call 23; ((with_reducible refine (H2.out _ F.below).mono ?_); rintro e w1 ⟨u4, rfl, ho, hl⟩; have O4 := hid ho.one; replace F := F.lay1 hl (LayL.cons ho (LayL.nil _ (fun _ => False)) (fun _ h => h) (fun _ h => h.elim) (fun _ _ h => h)); clear ho hl)) | (with_reducible refine stop_store rfl ?_))
  show wpList _ _ _ _ _ _
  refine wpList_store1 rfl rfl (f := 4) rfl rfl (F.row m2) uinfo1InstrumentSI (by simp) O4.out #[.float .f32 y0, .float .f32 g1, .float .f32 g2, u3, u4, .slice none 0 0] rfl (fun w2 K => ?_)
  replace F := F.wrI2 (cs' := #[.float .f32 y0, .float .f32 g1, .float .f32 g2, u3, u4, .slice none 0 0]) K
  clear K
  go_wp2_with (first | ((with_reducible refine listN F ?_); clear F; intro wN F) | ((with_reducible refine at_load rfl ?_); first | (with_reducible refine wpList_load1 F rfl rfl rfl (by first | exact m0 | exact m1 | exact m2 | exact m3 | exact m4 | exact m5) (f := 0) (v := .float .f32 y0) rfl ukindFloat32 ?_) | (with_reducible refine wpList_loadGP F rfl rfl rfl (by first | exact m0 | exact m1 | exact m2 | exact m3 | exact m4 | exact m5) Try.underlying25 rfl [.float .f32 y1, .float .f32 y2, v3] (partScore_Tuning (.float .f32 y0) (.float .f32 y1) (.float .f32 y2) (v3) (v4) (v5)) uinfoTuningL rfl ?_) | (with_reducible refine wpList_load1 F rfl rfl rfl (by first | exact m0 | exact m1 | exact m2 | exact m3 | exact m4 | exact m5) (f := 4) (v := v4) rfl ukindInstrumentSL ?_) | (with_reducible refine wpList_load1 F rfl rfl rfl (by first | exact m0 | exact m1 | exact m2 | exact m3 | exact m4 | exact m5) (f := 5) (v := v5) rfl ukindEventSL ?_)) | (go_at_call 24; ((with_reducible refine (H3.out _ F.below).mono ?_); rintro e w1 ⟨u5, rfl, ho, hl⟩; have O5 := hid ho.one; replace F := F.lay1 hl (LayL.cons ho (LayL.nil _ (fun _ => False)) (fun _ h => h) (fun _ h => h.elim) (fun _ _ h => h)); clear ho hl)) | (with_reducible refine stop_store rfl ?_))
  show wpList _ _ _ _ _ _
  refine wpList_store1 rfl rfl (f := 5) rfl rfl (F.row m3) uinfo1EventSI (by simp) O5.out #[.float .f32 y0, .float .f32 g1, .float .f32 g2, u3, u4, u5] rfl (fun w2 K => ?_)
  replace F := F.wrI3 (cs' := #[.float .f32 y0, .float .f32 g1, .float .f32 g2, u3, u4, u5]) K
  clear K
  go_wp2_with (first | ((with_reducible refine listN F ?_); clear F; intro wN F) | ((with_reducible refine at_load rfl ?_); (with_reducible refine wpList_loadG F rfl rfl rfl (by first | exact m0 | exact m1 | exact m2 | exact m3) Try.underlying36 rfl uinfoScoreI rfl ?_)) | (with_reducible refine stop_store rfl ?_))
  show wpList _ _ _ _ _ _
  refine wpList_storeD rfl rfl rfl (cells := #[.float .f32 y0, .float .f32 g1, .float .f32 g2, u3, u4, u5]) rfl (F.row m4) uinfoScoreI rfl (by (simp only [List.all_toArray', List.all_cons, List.all_nil, Bool.and_true, Bool.true_and, O3.out, O4.out, O5.out]) <;> rfl) (fun w6 K => ?_)
  have R := hid K.row
  replace F := F.wrI4 K
  have E0 := Eaten.start F
  replace E0 := Eaten.eat F E0
  replace F := F.tl
  replace E0 := Eaten.eat F E0
  replace F := F.tl
  replace E0 := Eaten.eat F E0
  replace F := F.tl
  replace E0 := Eaten.leaf (c := CD.cp c0) (v := .float .f32 y0) E0 (r0.leafLay (flk_ne q0))
  have L := hid (show LayL _ _ _ _ ∧ le w _ from ⟨E0.fin, F.below⟩)
  clear K F E0
  go_wp2
  exact bodyPost_ret (results_row1 rfl _ _ _ _ _ rfl R.out Try.underlying36 rfl uinfoScoreI) rfl ⟨[.float .f32 y0, .float .f32 g1, .float .f32 g2, u3, u4, u5], rfl, L.out.1, L.out.2⟩
end Go.Proofs.Ytnkjmgadnejdlad

/- 'toRing' of the laws. -/
namespace Go.Fk
open Go Go.RowKit
theorem SlIn.le {w w' : World} {v : Value} {x : Nat → Nat} {n : Nat} (h : SlIn w v x n) (hl : Fk.le w w') : SlIn w' v x n := by
  rcases h with h | ⟨a, cap, h1, h2, h3, h4⟩
  · exact .inl h
  · exact .inr ⟨a, cap, h1, h2, h3, fun i hi => ⟨(Below.cell hl (cell_lt (h4 i hi).1)).trans (h4 i hi).1, (h4 i hi).2⟩⟩
theorem SlIn.small {w : World} {v : Value} {x : Nat → Nat} {n : Nat} (h : SlIn w v x n) : n ≤ 9223372036854775807 := by
  rcases h with ⟨_, rfl⟩ | ⟨a, cap, h1, h2, h3, h4⟩
  · omega
  · unfold maxLen at h3; omega
end Go.Fk
namespace Go.Proofs.Ytnkjmgadnejdlad
open Go.RowKit Go.Fk
end Go.Proofs.Ytnkjmgadnejdlad

/- 'szRing' and 'ValidRing' of both. -/
namespace Go.Fk
open Go Go.RowKit
def okRing (n : Nat) (k : Int) : Bool := (decide (1 ≤ (n : Int)) && decide ((n : Int) ≤ 1024)) && (decide (0 ≤ k) && decide (k < (n : Int)))
end Go.Fk
namespace Go.Proofs.Ytnkjmgadnejdlad
open Go.RowKit Go.Fk
end Go.Proofs.Ytnkjmgadnejdlad

/- What math.Float32bits and math.Float32frombits give. -/
namespace Go.Proofs.Ytnkjmgadnejdlad
open Go.RowKit Go.Fk

@[go_sem] theorem run_f32bits (x : Nat) (w : World) : (callFunc 75 #[.float .f32 x]).run Try.prog w = .ok (.value (.int .u32 x)) w := by
  rw [run_callFunc_extern (e := Extern.MathFloatBits.float32bits) Try.func75 (by kernel_rfl) (by kernel_rfl) (by kernel_rfl) (by kernel_rfl)]; rfl
end Go.Proofs.Ytnkjmgadnejdlad

/- What math.Float32frombits gives. -/
namespace Go.Proofs.Ytnkjmgadnejdlad
open Go.RowKit Go.Fk

end Go.Proofs.Ytnkjmgadnejdlad

/- Flushing: the plain function, the bits that it looks at, and the contracts of 'FlushSample' and 'l01Flush'. -/
namespace Go.Fk
open Go Go.RowKit

def flush (b : Nat) : Nat := if b % 2147483648 < 8388608 then 0 else b

theorem fits_flush {b : Nat} (h : fits .f32 b) : fits .f32 (flush b) := by
  unfold flush; split
  · simp [fits, Lit.wf]
  · exact h
theorem fits32 {b : Nat} (h : fits .f32 b) : b < 4294967296 := by
  simp only [fits, Lit.wf, decide_eq_true_eq] at h; omega

theorem and_low (x : Nat) : x &&& 2147483647 = x % 2147483648 := Nat.and_two_pow_sub_one_eq_mod x 31
theorem and_exp (x : Nat) (hx : x < 4294967296) : ((x &&& 2139095040) = 0) ↔ x % 2147483648 < 8388608 := by
  have e : x &&& 2139095040 = (x >>> 23 &&& 255) <<< 23 := by
    rw [Nat.shiftLeft_and_distrib]
    apply Nat.eq_of_testBit_eq
    intro i
    simp only [Nat.testBit_and, Nat.testBit_shiftLeft, Nat.testBit_shiftRight]
    by_cases hi : 23 ≤ i
    · simp only [hi, decide_true, Bool.true_and, show 23 + (i - 23) = i by omega]
      congr 1
      rw [show (2139095040 : Nat) = 255 <<< 23 by decide, Nat.testBit_shiftLeft]
      simp [hi]
    · simp only [hi, decide_false, Bool.false_and]
      rw [show (2139095040 : Nat) = 255 <<< 23 by decide, Nat.testBit_shiftLeft]
      simp [hi]
  rw [e, show (255 : Nat) = 2 ^ 8 - 1 by decide, Nat.and_two_pow_sub_one_eq_mod, Nat.shiftLeft_eq, Nat.shiftRight_eq_div_pow]
  omega

theorem bits_and_exp (x : Nat) (hx : x < 4294967296) : bits .and .u32 (x : Int) 2139095040 = ((x &&& 2139095040 : Nat) : Int) :=
  (bits_nat .u32 32 (by decide) (fun n h0 h1 => by rw [IntKind.wrap_u32]; omega) x 2139095040 (by omega) (by omega)).1
theorem bits_and_low (x : Nat) (hx : x < 4294967296) : bits .and .u32 (x : Int) 2147483647 = ((x % 2147483648 : Nat) : Int) := by
  rw [← and_low]
  exact (bits_nat .u32 32 (by decide) (fun n h0 h1 => by rw [IntKind.wrap_u32]; omega) x 2147483647 (by omega) (by omega)).1
theorem exp_zero {x : Nat} (hx : x < 4294967296) (h : x % 2147483648 < 8388608) : (bits .and .u32 (x : Int) 2139095040 == 0) = true := by
  rw [bits_and_exp x hx, (and_exp x hx).2 h]; rfl
theorem exp_pos {x : Nat} (hx : x < 4294967296) (h : ¬ x % 2147483648 < 8388608) : (bits .and .u32 (x : Int) 2139095040 == 0) = false := by
  rw [bits_and_exp x hx, beq_eq_false_iff_ne]
  intro e
  exact h ((and_exp x hx).1 (by exact_mod_cast e))

theorem order_min (r : Nat) (h : r < 2147483648) : (FloatKind.f32.format.order r 8388608 == some .lt) = decide (r < 8388608) := by
  have e1 : Ieee.single.signWeight = 2147483648 := by decide
  have e2 : Ieee.single.infRung = 2139095040 := by decide
  have e3 : Ieee.single.binade = 8388608 := by decide
  have e4 : Ieee.single.leastPlace = -149 := by decide
  have e5 : Ieee.single.read 8388608 = .number false 8388608 (-149) := by decide
  have e6 : r % 2147483648 = r := Nat.mod_eq_of_lt h
  have e7 : r / 2147483648 = 0 := by omega
  simp only [FloatKind.format, Ieee.Format.order, e5]
  simp only [Ieee.Format.read, e1, e2, e3, e4, e6, e7]
  split
  · rename_i h1
    have h0 : decide (r < 8388608) = true := by simpa using h1
    rw [h0]
    simp only [Ieee.Datum.order, Ieee.signed, beq_iff_eq, Option.some.injEq]
    refine Int.compare_eq_lt.2 ?_
    simp [Nat.shiftLeft_eq]
    omega
  · have h0 : decide (r < 8388608) = false := by simp; omega
    rw [h0, beq_eq_false_iff_ne]
    split
    · simp only [Ieee.Datum.order, Ieee.signed]
      intro h
      simp only [Option.some.injEq] at h
      have h := Int.compare_eq_lt.1 h
      rw [show min (-149 + ((r / 8388608 - 1 : Nat) : Int)) (-149) = -149 by omega] at h
      simp [Nat.shiftLeft_eq] at h
      have h3 : 0 < 2 ^ (r / 8388608 - 1) := Nat.two_pow_pos _
      have h4 : (8388608 + r % 8388608) * 1 ≤ (8388608 + r % 8388608) * 2 ^ (r / 8388608 - 1) := Nat.mul_le_mul_left _ h3
      rw [show (-149 + ((r / 8388608 - 1 : Nat) : Int) + 149).toNat = r / 8388608 - 1 by omega] at h
      generalize r / 8388608 - 1 = u at *
      have e : (((8388608 + r % 8388608) * 2 ^ u : Nat) : Int) = (8388608 + (r : Int) % 8388608) * 2 ^ u := by rw [Int.natCast_mul, Int.natCast_add, Int.natCast_emod, Int.natCast_pow]; rfl
      omega
    · split
      · simp [Ieee.Datum.order]
      · simp [Ieee.Datum.order]
end Go.Fk

namespace Go.Proofs.Ytnkjmgadnejdlad
open Go.RowKit Go.Fk
end Go.Proofs.Ytnkjmgadnejdlad

/- 'isNaN', 'bitsOf', 'SameSample' and their like in the model. -/
namespace Go.Proofs.Ytnkjmgadnejdlad
open Go.RowKit Go.Fk

theorem i_isNaN (x : Nat) (w : World) : Calls Try.prog 78 #[.float .f32 x] w fun e w' => e = .returned (.bool (isNan .f32 x)) ∧ w = w' := by
  go_enter Try.func78, Try.ntmps78
  go_wp2
  go_ret
  exact ⟨rfl, rfl⟩
theorem s_l01NaN (x : Nat) (w : World) : Calls Try.prog 74 #[.float .f32 x] w fun e w' => e = .returned (.bool (isNan .f32 x)) ∧ w = w' := by
  go_enter Try.func74, Try.ntmps74
  go_wp2
  go_ret
  exact ⟨rfl, rfl⟩
theorem i_bitsOf (x : Nat) (w : World) : Calls Try.prog 76 #[.float .f32 x] w fun e w' => e = .returned (.int .u32 (can .f32 x)) ∧ w = w' := by
  cases h : isNan .f32 x
  all_goals
    go_enter Try.func76, Try.ntmps76
    go_wp2_with (go_at_call 78; refine (i_isNaN _ _).mono ?_; rintro e w' ⟨rfl, rfl⟩)
    go_ret
  · exact ⟨ret_i (by rw [can_of_not h]), rfl⟩
  · exact ⟨ret_i (by rw [can_of_nan h]; rfl), rfl⟩
theorem i_SameSample (x y : Nat) (w : World) : Calls Try.prog 63 #[.float .f32 x, .float .f32 y] w fun e w' => e = .returned (.bool (sameB x y)) ∧ w = w' := by
  go_enter Try.func63, Try.ntmps63
  go_wp2_with (go_at_call 76; refine (i_bitsOf _ _).mono ?_; rintro e w' ⟨rfl, rfl⟩)
  go_ret
  exact ⟨rfl, rfl⟩
theorem s_l01Same (x y : Nat) (w : World) : Calls Try.prog 59 #[.float .f32 x, .float .f32 y] w fun e w' => e = .returned (.bool (sameB x y)) ∧ w = w' := by
  cases h : isNan .f32 x <;> cases h2 : isNan .f32 y
  all_goals
    go_enter Try.func59, Try.ntmps59
    go_wp2_with (go_at_call 74; refine (s_l01NaN _ _).mono ?_; rintro e w' ⟨rfl, rfl⟩)
    go_ret
  · exact ⟨ret_b (sameB_num h h2).symm, rfl⟩
  · exact ⟨ret_b (sameB_mix (by rw [h, h2]; simp)).symm, rfl⟩
  · exact ⟨ret_b (sameB_mix (by rw [h, h2]; simp)).symm, rfl⟩
  · exact ⟨ret_b (sameB_nan h h2).symm, rfl⟩
end Go.Proofs.Ytnkjmgadnejdlad

/- Is a sample finite? -/
namespace Go.Fk
open Go Go.RowKit
/-- Is a sample finite? -/
def fin (x : Nat) : Bool := match FloatKind.f32.format.read x with | .number _ _ _ => true | _ => false
theorem fin_sub (x : Nat) : (FloatKind.f32.format.order (fop .sub .f32 x x) 0 == some .eq) = fin x := by
  cases hr : FloatKind.f32.format.read x with
  | nan s t =>
    have h : isNan .f32 x = true := by simp [isNan, hr, Ieee.Datum.isNaN]
    simp only [fin, hr, fop]
    rw [floatBits_nan_l h]
    decide
  | infinity s =>
    simp only [fin, hr, fop, floatBits, Ieee.Format.sub, Ieee.Datum.opposite, Ieee.Datum.sum]
    cases s <;> decide
  | number s m e =>
    simp only [fin, hr, fop, floatBits, Ieee.Format.sub, Ieee.Datum.opposite, Ieee.Datum.sum, Int.sub_self]
    have h1 : Ieee.signed s m (e - min e e).toNat + Ieee.signed (!s) m (e - min e e).toNat = 0 := by
      unfold Ieee.signed; cases s <;> simp <;> omega
    rw [h1]
    simp only [if_true, Option.map_some, Int.natAbs_zero, Ieee.Format.write, Ieee.Format.nearest]
    cases s <;> decide
end Go.Fk
namespace Go.Proofs.Ytnkjmgadnejdlad
open Go.RowKit Go.Fk
theorem s_l01Finite (x : Nat) (w : World) : Calls Try.prog 57 #[.float .f32 x] w fun e w' => e = .returned (.bool (fin x)) ∧ ∃ n, w' = w.drewN n := by
  go_enter Try.func57, Try.ntmps57
  go_wp2_with (with_reducible refine wpList_farith rfl rfl rfl rfl rfl ?_; intro r n hr hf)
  go_ret
  refine ⟨ret_b ?_, n, rfl⟩
  rw [← fin_sub, order_congr (hr.out.trans (can_fop _ _ _ _).symm) rfl]
end Go.Proofs.Ytnkjmgadnejdlad

/- What a state keeps of a number; is a number finite? -/
namespace Go.Fk
open Go Go.RowKit
theorem fin_bits (x : Nat) : fin x = decide (x % 2147483648 < 2139095040) := by
  have e1 : Ieee.single.signWeight = 2147483648 := by decide
  have e2 : Ieee.single.infRung = 2139095040 := by decide
  have e3 : Ieee.single.binade = 8388608 := by decide
  have e4 : Ieee.single.leastPlace = -149 := by decide
  simp only [fin, FloatKind.format, Ieee.Format.read, e1, e2, e3, e4]
  split
  · rename_i s m e h
    split at h
    · simp; omega
    · split at h
      · simp; omega
      · split at h <;> cases h
  · rename_i h
    split at h
    · exact absurd rfl (h _ _ _)
    · split at h
      · exact absurd rfl (h _ _ _)
      · simp; omega
theorem and_exp255 (x : Nat) (hx : x < 4294967296) : ((x &&& 2139095040) = 2139095040) ↔ ¬ x % 2147483648 < 2139095040 := by
  have e : x &&& 2139095040 = (x >>> 23 &&& 255) <<< 23 := by
    rw [Nat.shiftLeft_and_distrib]
    apply Nat.eq_of_testBit_eq
    intro i
    simp only [Nat.testBit_and, Nat.testBit_shiftLeft, Nat.testBit_shiftRight]
    by_cases hi : 23 ≤ i
    · simp only [hi, decide_true, Bool.true_and, show 23 + (i - 23) = i by omega]
      congr 1
      rw [show (2139095040 : Nat) = 255 <<< 23 by decide, Nat.testBit_shiftLeft]
      simp [hi]
    · simp only [hi, decide_false, Bool.false_and]
      rw [show (2139095040 : Nat) = 255 <<< 23 by decide, Nat.testBit_shiftLeft]
      simp [hi]
  rw [e, show (255 : Nat) = 2 ^ 8 - 1 by decide, Nat.and_two_pow_sub_one_eq_mod, Nat.shiftLeft_eq, Nat.shiftRight_eq_div_pow]
  omega
theorem exp_full {x : Nat} (hx : x < 4294967296) : (bits .and .u32 (x : Int) 2139095040 == 2139095040) = !fin x := by
  rw [bits_and_exp x hx, fin_bits]
  have h := and_exp255 x hx
  by_cases c : x % 2147483648 < 2139095040
  · have : ¬ (x &&& 2139095040) = 2139095040 := fun e => (h.1 e) c
    simp only [c, decide_true, Bool.not_true, beq_eq_false_iff_ne]
    intro e
    exact this (Int.ofNat_inj.1 e)
  · simp only [c, decide_false, Bool.not_false, beq_iff_eq]
    rw [h.2 c]; rfl
/-- What a state keeps. -/
def kept (v : Nat) : Nat := if fin v = true then flush v else 0
theorem fin_can {a b : Nat} (h : can .f32 a = can .f32 b) : fin a = fin b := by
  cases hn : isNan .f32 a
  · rw [eq_of_can h hn]
  · have hm := (isNan_of_can h).symm.trans hn
    obtain ⟨s, t, h1⟩ := read_nan hn
    obtain ⟨s', t', h2⟩ := read_nan hm
    simp [fin, h1, h2]
theorem fin_num {a : Nat} (h : fin a = true) : isNan .f32 a = false := by
  cases hr : FloatKind.f32.format.read a with
  | nan s t => simp [fin, hr] at h
  | infinity s => simp [fin, hr] at h
  | number s m e => simp [isNan, hr, Ieee.Datum.isNaN]
theorem kept_can {a b : Nat} (h : can .f32 a = can .f32 b) : kept a = kept b := by
  unfold kept
  rw [← fin_can h]
  split
  · rename_i hf
    rw [eq_of_can h (fin_num hf)]
  · rfl
theorem fits_kept {b : Nat} (h : fits .f32 b) : fits .f32 (kept b) := by
  unfold kept; split
  · exact fits_flush h
  · simp [fits, Lit.wf]
theorem same0_fin {v : Nat} (h : sameB v 0 = true) : fin v = true := by
  have e : can .f32 v = can .f32 0 := by
    simp only [sameB, beq_iff_eq] at h
    exact_mod_cast h
  rw [fin_can e]; decide
end Go.Fk
namespace Go.Proofs.Ytnkjmgadnejdlad
open Go.RowKit Go.Fk
theorem i_isFinite (x : Nat) (w : World) (hx : fits .f32 x) : Calls Try.prog 66 #[.float .f32 x] w fun e w' => e = .returned (.bool (fin x)) ∧ w = w' := by
  have hz := exp_full (fits32 hx)
  go_enter Try.func66, Try.ntmps66
  go_wp2
  go_ret
  refine ⟨ret_b ?_, rfl⟩
  rw [bne, hz, Bool.not_not]
end Go.Proofs.Ytnkjmgadnejdlad

/- 'areUsed': the first numbers are finite, the others 0. -/
namespace Go.Fk
open Go Go.RowKit
def usedB (f : Nat → Nat) (n u : Nat) : Bool := (List.range n).all fun i => if i < u then fin (f i) else sameB (f i) 0
theorem usedB_fin {f : Nat → Nat} {n u i : Nat} (hi : i < u) (hu : u ≤ n) (h : fin (f i) = false) : usedB f n u = false := by
  simp only [usedB, List.all_eq_false, List.mem_range]
  exact ⟨i, by omega, by simp [hi, h]⟩
theorem usedB_zero {f : Nat → Nat} {n u i : Nat} (hi : u ≤ i) (hn : i < n) (h : sameB (f i) 0 = false) : usedB f n u = false := by
  simp only [usedB, List.all_eq_false, List.mem_range]
  exact ⟨i, hn, by simp [show ¬ i < u by omega, h]⟩
theorem usedB_yes {f : Nat → Nat} {n u : Nat} (h1 : ∀ i, i < u → fin (f i) = true) (h2 : ∀ i, u ≤ i → i < n → sameB (f i) 0 = true) : usedB f n u = true := by
  simp only [usedB, List.all_eq_true, List.mem_range]
  intro i hi
  by_cases c : i < u
  · simp [c, h1 i c]
  · simp [c, h2 i (by omega) hi]
/-- Are all finite? -/
def finB (f : Nat → Nat) (n : Nat) : Bool := (List.range n).all fun i => fin (f i)
theorem finB_no {f : Nat → Nat} {n i : Nat} (hi : i < n) (h : fin (f i) = false) : finB f n = false := by
  rw [Bool.eq_false_iff]; intro hh
  have := List.all_eq_true.1 hh i (List.mem_range.2 hi)
  rw [h] at this; cases this
theorem finB_yes {f : Nat → Nat} {n : Nat} (h : ∀ i, i < n → fin (f i) = true) : finB f n = true := List.all_eq_true.2 (fun i hi => h i (List.mem_range.1 hi))
theorem finB_all {f : Nat → Nat} {n : Nat} (h : finB f n = true) : ∀ i, i < n → fin (f i) = true := fun i hi => List.all_eq_true.1 h i (List.mem_range.2 hi)
theorem finB_ex {f : Nat → Nat} {n : Nat} (h : finB f n = false) : ∃ i, i < n ∧ fin (f i) = false := by
  apply Classical.byContradiction
  intro hn
  have : finB f n = true := finB_yes (fun i hi => by
    cases hb : fin (f i)
    · exact absurd ⟨i, hi, hb⟩ hn
    · rfl)
  rw [h] at this; cases this
end Go.Fk
namespace Go.Proofs.Ytnkjmgadnejdlad
open Go.RowKit Go.Fk
end Go.Proofs.Ytnkjmgadnejdlad

/- Values that lead to blocks' cells (never into the midst of a word): what one owns is read so. Lists of rings. Nothing here names a program. -/
namespace Go.Fk
open Go Go.RowKit
def CD.RdN (w : World) (B : Nat) : CD → Value → Prop
  | .int k z, v => CD.leaf (.int k z) v
  | .flt k x, v => CD.leaf (.flt k x) v
  | .fcn k x, v => CD.leaf (.fcn k x) v
  | .bool b, v => CD.leaf (.bool b) v
  | .str s, v => CD.leaf (.str s) v
  | .sl wd n x, v => (v = .slice none 0 0 ∧ n = 0) ∨ ∃ b o cap, v = .slice (some ⟨b, o, none⟩) n cap ∧ n ≤ cap ∧ cap ≤ maxLen ∧ ∀ i, i < n * wd → b < B ∧ ∃ u, w.cell? ⟨b, o + i, none⟩ = some u ∧ CD.RdN w B (x i) u
theorem CD.RdN.rd {w : World} {B : Nat} : ∀ {c : CD} {v : Value}, c.RdN w B v → c.Rd w B v := by
  intro c
  induction c with
  | sl wd n x ih =>
    intro v h
    rcases h with h | ⟨b, o, cap, h1, h2, h3, h4⟩
    · exact .inl h
    · exact .inr ⟨⟨b, o, none⟩, cap, h1, h2, h3, fun i hi => by obtain ⟨h5, u, h6, h7⟩ := h4 i hi; exact ⟨h5, u, by rw [add_none]; exact h6, ih i h7⟩⟩
  | _ => intro v h; exact h
theorem CD.RdN.le {w w' : World} {B : Nat} (hl : Fk.le w w') : ∀ {c : CD} {v : Value}, c.RdN w B v → c.RdN w' B v := by
  intro c
  induction c with
  | sl wd n x ih =>
    intro v h
    rcases h with h | ⟨b, o, cap, h1, h2, h3, h4⟩
    · exact .inl h
    · exact .inr ⟨b, o, cap, h1, h2, h3, fun i hi => by obtain ⟨h5, u, h6, h7⟩ := h4 i hi; exact ⟨h5, u, (Below.cell hl (cell_lt' h6)).trans h6, ih i h7⟩⟩
  | _ => intro v h; exact h
theorem CD.Lay.rdN {w : World} {B : Nat} : ∀ {c : CD} {S : Nat → Prop} {v : Value}, c.Lay w S v → (∀ j, S j → j < B) → c.RdN w B v := by
  intro c
  induction c with
  | sl wd n x ih =>
    intro S v h hS
    rcases h with h | ⟨b, o, cap, t, cs, h1, h2, h3, h4, h5, T, t1, t2, t3⟩
    · exact .inl h
    · refine .inr ⟨b, o, cap, h1, h2, h3, fun i hi => ?_⟩
      obtain ⟨u, hu, hl⟩ := t3 i hi
      exact ⟨hS b h4, u, (h5.cell? (o + i)).trans hu, ih i hl (fun j hj => hS j (t1 i j hj).1)⟩
  | _ => intro S v h _; exact h
theorem CD.RdN.form {w : World} {B wd n : Nat} {x : Nat → CD} {s : Value} (h : (CD.sl wd n x).RdN w B s) : (s = .slice none 0 0 ∧ n = 0) ∨ ∃ b o cap, s = .slice (some ⟨b, o, none⟩) n cap ∧ n ≤ cap ∧ cap ≤ maxLen := by
  rcases h with h | ⟨b, o, cap, h1, h2, h3, _⟩
  · exact .inl h
  · exact .inr ⟨b, o, cap, h1, h2, h3⟩
theorem CD.RdN.cell {w : World} {B wd n b o cap : Nat} {x : Nat → CD} (h : (CD.sl wd n x).RdN w B (.slice (some ⟨b, o, none⟩) n cap)) {i : Nat} (hi : i < n * wd) : ∃ u, w.cell? ⟨b, o + i, none⟩ = some u ∧ (x i).RdN w B u := by
  rcases h with ⟨h, _⟩ | ⟨b', o', cap', h1, _, _, h4⟩
  · cases h
  · simp only [Value.slice.injEq, Option.some.injEq, Addr.mk.injEq, and_true, true_and] at h1
    obtain ⟨⟨rfl, rfl⟩, rfl⟩ := h1
    obtain ⟨_, u, h5, h6⟩ := h4 i hi
    exact ⟨u, h5, h6⟩
def RdLN (w : World) (B : Nat) (cs : List CD) (vs : List Value) : Prop := vs.length = cs.length ∧ ∀ (i : Nat) (v : Value) (c : CD), vs[i]? = some v → cs[i]? = some c → c.RdN w B v
theorem RdLN.inv {w : World} {B : Nat} {c : CD} {cs : List CD} {vs : List Value} (h : RdLN w B (c :: cs) vs) : ∃ v vs', vs = v :: vs' ∧ c.RdN w B v ∧ RdLN w B cs vs' := by
  obtain ⟨h0, h1⟩ := h
  cases vs with
  | nil => simp at h0
  | cons v vs => exact ⟨v, vs, rfl, h1 0 v c rfl rfl, by simpa using h0, fun i v' c' hv hc => h1 (i + 1) v' c' (by simpa using hv) (by simpa using hc)⟩
theorem RdLN.inv0 {w : World} {B : Nat} {vs : List Value} (h : RdLN w B [] vs) : vs = [] := by
  have := h.1
  cases vs with
  | nil => rfl
  | cons => simp at this
theorem LayL.rdN {w : World} {B : Nat} {S : Nat → Prop} {cs : List CD} {vs : List Value} (h : LayL w S cs vs) (hS : ∀ j, S j → j < B) : RdLN w B cs vs := by
  obtain ⟨h0, T, t1, t2, t3⟩ := h
  exact ⟨h0, fun i v c hv hc => (t3 i v c hv hc).rdN (fun j hj => hS j (t1 i j hj))⟩
theorem RdLN.le {w w' : World} {B : Nat} {cs : List CD} {vs : List Value} (h : RdLN w B cs vs) (hl : Fk.le w w') : RdLN w' B cs vs := ⟨h.1, fun i v c hv hc => (h.2 i v c hv hc).le hl⟩
theorem RdLN.rd {w : World} {B : Nat} {cs : List CD} {vs : List Value} (h : RdLN w B cs vs) : RdL w B cs vs := ⟨h.1, fun i v c hv hc => (h.2 i v c hv hc).rd⟩
theorem Frg.layN {w0 w : World} {L : List Fact} (h : Frg w0 w L) {lo hi : Nat} {cs : List CD} {vs : List Value} (hm : layF lo hi cs vs ∈ L) : RdLN w hi cs vs := (h.lay hm).rdN (fun _ hj => hj.2)
/-- Do all hold? -/
def allB (p : Nat → Bool) (n : Nat) : Bool := (List.range n).all p
theorem allB_no {p : Nat → Bool} {n i : Nat} (hi : i < n) (h : p i = false) : allB p n = false := by
  rw [Bool.eq_false_iff]; intro hh
  have := List.all_eq_true.1 hh i (List.mem_range.2 hi)
  rw [h] at this; cases this
theorem allB_yes {p : Nat → Bool} {n : Nat} (h : ∀ i, i < n → p i = true) : allB p n = true := List.all_eq_true.2 (fun i hi => h i (List.mem_range.1 hi))
theorem allB_all {p : Nat → Bool} {n : Nat} (h : allB p n = true) : ∀ i, i < n → p i = true := fun i hi => List.all_eq_true.1 h i (List.mem_range.2 hi)
theorem allB_ex {p : Nat → Bool} {n : Nat} (h : allB p n = false) : ∃ i, i < n ∧ p i = false := by
  apply Classical.byContradiction
  intro hn
  have : allB p n = true := allB_yes (fun i hi => by
    cases hb : p i
    · exact absurd ⟨i, hi, hb⟩ hn
    · rfl)
  rw [h] at this; cases this
theorem finB_allB (f : Nat → Nat) (n : Nat) : finB f n = allB (fun i => fin (f i)) n := rfl
/-- The ring with an index in a list. -/
def rgN (x : Nat → CD) (k : Nat) : Nat := match x (k * 2) with | .sl _ n _ => n | _ => 0
def rgX (x : Nat → CD) (k : Nat) : Nat → Nat := match x (k * 2) with | .sl _ _ y => fun i => (y i).fx | _ => fun _ => 0
def rgK (x : Nat → CD) (k : Nat) : Int := match x (k * 2 + 1) with | .int _ z => z | _ => 0
def rgOk (x : Nat → CD) (k : Nat) : Bool := okRing (rgN x k) (rgK x k) && finB (rgX x k) (rgN x k)
/-- A list of rings. -/
def RgsOk (x : Nat → CD) (n : Nat) : Prop := ∀ k, k < n → (∃ y, x (k * 2) = .sl 1 (rgN x k) y ∧ (∀ i, i < rgN x k → (y i).flk = some .f32) ∧ rgX x k = fun i => (y i).fx) ∧ x (k * 2 + 1) = .int .i64 (rgK x k)
theorem rgs_ok {x : Nat → CD} {n : Nat} {e : Nat → Sh} (h : ∀ i, i < n → ∀ j, j < 2 → ShOk (e j) (x (i * 2 + j))) (h0 : ∃ f, e 0 = .sl 1 f ∧ f 0 = .flt .f32) (h1 : e 1 = .int .i64) : RgsOk x n := fun k hk => by
  obtain ⟨f, f0, f1⟩ := h0
  have a := h k hk 0 (by omega)
  have b := h k hk 1 (by omega)
  rw [f0] at a
  rw [h1] at b
  obtain ⟨m, y, e1, e2⟩ := a
  obtain ⟨z, e3⟩ := b
  have e1' : x (k * 2) = .sl 1 m y := by simpa using e1
  have n1 : rgN x k = m := by unfold rgN; rw [e1']
  refine ⟨⟨y, by rw [n1]; exact e1', ?_, by unfold rgX; rw [e1']⟩, ?_⟩
  · rw [n1]; exact ShOk.flts e2 f1
  · unfold rgK; rw [e3]
theorem RgsOk.rds {x : Nat → CD} {n k B : Nat} {w : World} {u : Value} (h : RgsOk x n) (hk : k < n) (hr : (x (k * 2)).Rd w B u) : RdS w B u (rgX x k) (rgN x k) := by
  obtain ⟨⟨y, e1, e2, e3⟩, _⟩ := h k hk
  rw [e1] at hr
  rw [e3]
  exact hr.rdf e2
theorem RgsOk.int {x : Nat → CD} {n k B : Nat} {w : World} {u : Value} (h : RgsOk x n) (hk : k < n) (hr : (x (k * 2 + 1)).Rd w B u) : u = .int .i64 (rgK x k) ∧ (Lit.int .i64 (rgK x k)).wf = true := by
  rw [(h k hk).2] at hr
  exact hr
/-- The rings of a list, where it lies. -/
theorem RgsOk.at {x : Nat → CD} {n k B b o cap : Nat} {w : World} (h : RgsOk x n) (hr : (CD.sl 2 n x).RdN w B (.slice (some ⟨b, o, none⟩) n cap)) (hk : k < n) : ∃ u, w.cell? ⟨b, o + k * 2, none⟩ = some u ∧ w.cell? ⟨b, o + k * 2 + 1, none⟩ = some (.int .i64 (rgK x k)) ∧ (Lit.int .i64 (rgK x k)).wf = true ∧ RdS w B u (rgX x k) (rgN x k) := by
  obtain ⟨u, h1, h2⟩ := hr.cell (i := k * 2) (by omega)
  obtain ⟨v, h3, h4⟩ := hr.cell (i := k * 2 + 1) (by omega)
  obtain ⟨rfl, h5⟩ := h.int hk h4.rd
  exact ⟨u, h1, by rw [Nat.add_assoc]; exact h3, h5, h.rds hk h2.rd⟩
end Go.Fk

/- Events: what a valid list of them is, as the program and as the model see it. Nothing here names a program. -/
namespace Go.Fk
open Go Go.RowKit
def intC : CD → Int | .int _ z => z | _ => 0
def evA (x : Nat → CD) (k : Nat) : Int := intC (x (k * 6))
def evK (x : Nat → CD) (k : Nat) : Int := intC (x (k * 6 + 1))
def evN (x : Nat → CD) (k : Nat) : Int := intC (x (k * 6 + 2))
def evI (x : Nat → CD) (k : Nat) : Int := intC (x (k * 6 + 3))
def evY (x : Nat → CD) (k : Nat) : Int := intC (x (k * 6 + 4))
def evF (x : Nat → CD) (k : Nat) : Nat := (x (k * 6 + 5)).fx
/-- May an event stand in a score of m notes and I instruments? -/
def plB (m I a k n i y : Int) (f : Nat) : Bool := decide (0 ≤ a) && decide (a ≤ 100000) && decide (0 ≤ n) && decide (n < m) &&
  (if k = 2 then decide (0 ≤ i) && decide (i < I) && (decide (-100 ≤ y) && decide (y ≤ 100)) && fin f else if k = 1 then decide (i = 0) && decide (y = 0) && sameB f 0 else false)
def plE (m I : Int) (x : Nat → CD) (j : Nat) : Bool := plB m I (evA x j) (evK x j) (evN x j) (evI x j) (evY x j) (evF x j)
/-- What has happened last to a note, ahead of an event. -/
def laE (x : Nat → CD) : Nat → Int → Int
  | 0, _ => 0
  | j + 1, v => if evN x j = v then evK x j else laE x j v
def befK (k : Int) : Int := if k = 1 then 2 else 0
def stE (m I : Int) (x : Nat → CD) (j : Nat) : Bool := plE m I x j && decide (laE x j (evN x j) = befK (evK x j))
/-- When a note has started last, ahead of an event. -/
def saE (x : Nat → CD) : Nat → Int → Int
  | 0, _ => 0
  | j + 1, v => if evK x j = 2 ∧ evN x j = v then evA x j else saE x j v
/-- The four numbers of an event whose note starts at s. -/
def keyE (a k n s : Int) : List Int := if k = 2 then [a, 1, n, 0] else if s < a then [a, 0, n, 1] else [a, 1, n, 1]
def keyJ (x : Nat → CD) (n j : Nat) : List Int := keyE (evA x j) (evK x j) (evN x j) (saE x n (evN x j))
/-- The order of lists of numbers. -/
def ltL : List Int → List Int → Bool
  | a :: s, b :: t => if a = b then ltL s t else decide (a < b)
  | _, _ => false
def okE (m I : Int) (x : Nat → CD) (n : Nat) : Bool := decide (n % 2 = 0) && decide (n / 2 ≤ 64) && allB (stE m I x) n && allB (fun i => ltL (keyJ x n i) (keyJ x n (i + 1))) (n - 1)
theorem stE_kind {m I : Int} {x : Nat → CD} {j : Nat} (h : stE m I x j = true) : evK x j = 1 ∨ evK x j = 2 := by
  unfold stE plE plB at h
  simp only [Bool.and_eq_true] at h
  by_cases h2 : evK x j = 2
  · exact .inr h2
  · by_cases h1 : evK x j = 1
    · exact .inl h1
    · rw [if_neg h2, if_neg h1] at h; simp at h
theorem stE_last {m I : Int} {x : Nat → CD} {j : Nat} (h : stE m I x j = true) : laE x j (evN x j) = befK (evK x j) := by
  unfold stE at h
  simp only [Bool.and_eq_true, decide_eq_true_eq] at h
  exact h.2
theorem stE_note {m I : Int} {x : Nat → CD} {j : Nat} (h : stE m I x j = true) : 0 ≤ evN x j ∧ evN x j < m ∧ 0 ≤ evA x j ∧ evA x j ≤ 100000 := by
  unfold stE plE plB at h
  simp only [Bool.and_eq_true, decide_eq_true_eq] at h
  exact ⟨h.1.1.1.2, h.1.1.2, h.1.1.1.1.1, h.1.1.1.1.2⟩
/-- The last kind of a note is none, or one of both. -/
theorem laE_vals {m I : Int} {x : Nat → CD} {n : Nat} (h : ∀ j, j < n → stE m I x j = true) (v : Int) : ∀ j, j ≤ n → laE x j v = 0 ∨ laE x j v = 1 ∨ laE x j v = 2 := by
  intro j
  induction j with
  | zero => intro _; exact .inl rfl
  | succ j ih =>
    intro hj
    simp only [laE]
    split
    · rcases stE_kind (h j (by omega)) with e | e <;> simp [e]
    · exact ih (by omega)
/-- What has happened does not go away. -/
theorem laE_on {m I : Int} {x : Nat → CD} {n : Nat} (h : ∀ j, j < n → stE m I x j = true) {i : Nat} : ∀ j, i < j → j ≤ n → laE x j (evN x i) ≠ 0 ∧ (evK x i = 1 → laE x j (evN x i) = 1) := by
  intro j
  induction j with
  | zero => intro hi; omega
  | succ j ih =>
    intro hi hj
    have hk := stE_kind (h j (by omega))
    by_cases e : i = j
    · subst e
      simp only [laE, if_true]
      exact ⟨by omega, fun h => h⟩
    · obtain ⟨h1, h2⟩ := ih (by omega) (by omega)
      simp only [laE]
      split
      · rename_i hv
        have hl := stE_last (h j (by omega))
        rw [hv] at hl
        refine ⟨by omega, fun k1 => ?_⟩
        rw [h2 k1] at hl
        unfold befK at hl
        split at hl <;> omega
      · exact ⟨h1, h2⟩
/-- Two events of one note and of one kind are one event. -/
theorem ev_uniq {m I : Int} {x : Nat → CD} {n : Nat} (h : ∀ j, j < n → stE m I x j = true) {i j : Nat} (hij : i < j) (hj : j < n) (hv : evN x i = evN x j) (hk : evK x i = evK x j) : False := by
  obtain ⟨h1, h2⟩ := laE_on h j hij (by omega)
  have hl := stE_last (h j hj)
  rw [← hv] at hl
  rcases stE_kind (h j hj) with e | e
  · rw [h2 (by omega)] at hl
    rw [e] at hl
    simp [befK] at hl
  · rw [e] at hl
    simp [befK] at hl
    exact h1 hl
theorem ev_uniq' {m I : Int} {x : Nat → CD} {n : Nat} (h : ∀ j, j < n → stE m I x j = true) {i j : Nat} (hi : i < n) (hj : j < n) (hv : evN x i = evN x j) (hk : evK x i = evK x j) : i = j := by
  rcases Nat.lt_trichotomy i j with h1 | h1 | h1
  · exact (ev_uniq h h1 hj hv hk).elim
  · exact h1
  · exact (ev_uniq h h1 hi hv.symm hk.symm).elim
theorem saE_of {x : Nat → CD} {n : Nat} {v a : Int} (hu : ∀ i, i < n → evK x i = 2 → evN x i = v → evA x i = a) {i : Nat} (hi : i < n) (hk : evK x i = 2) (hv : evN x i = v) : saE x n v = a := by
  induction n with
  | zero => omega
  | succ n ih =>
    simp only [saE]
    split
    · rename_i hh; exact hu n (by omega) hh.1 hh.2
    · rename_i hh
      by_cases e : i = n
      · subst e; exact absurd ⟨hk, hv⟩ hh
      · exact ih (fun i hi => hu i (by omega)) (by omega)
/-- The note of an event has started with it or ahead of it. -/
theorem ev_start {m I : Int} {x : Nat → CD} {n : Nat} (h : ∀ j, j < n → stE m I x j = true) {j : Nat} (hj : j < n) : ∃ i, i ≤ j ∧ evK x i = 2 ∧ evN x i = evN x j := by
  rcases stE_kind (h j hj) with e | e
  · have hl := stE_last (h j hj)
    rw [e, show befK 1 = 2 from rfl] at hl
    have key : ∀ k v, laE x k v = 2 → ∃ i, i < k ∧ evK x i = 2 ∧ evN x i = v := by
      intro k v
      induction k with
      | zero => intro hh; simp [laE] at hh
      | succ k ih =>
        intro hh
        simp only [laE] at hh
        split at hh
        · rename_i hv; exact ⟨k, by omega, hh, hv⟩
        · obtain ⟨i, a, b⟩ := ih hh; exact ⟨i, by omega, b⟩
    obtain ⟨i, a, b, c⟩ := key j _ hl
    exact ⟨i, by omega, b, c⟩
  · exact ⟨j, Nat.le_refl _, e, rfl⟩
/-- The first start of a note is its only one. -/
theorem sa_first {m I : Int} {x : Nat → CD} {n : Nat} (h : ∀ j, j < n → stE m I x j = true) {i : Nat} (hi : i < n) (hk : evK x i = 2) : saE x n (evN x i) = evA x i :=
  saE_of (fun q hq k2 hv => by rw [ev_uniq' h hq hi hv (k2.trans hk.symm)]) hi hk rfl
theorem ltL_asymm : ∀ {s t : List Int}, ltL s t = true → ltL t s = false := by
  intro s
  induction s with
  | nil => intro t h; cases t <;> simp [ltL] at h
  | cons a s ih =>
    intro t h
    cases t with
    | nil => simp [ltL] at h
    | cons b t =>
      simp only [ltL] at h ⊢
      by_cases e : a = b
      · subst e; simp at h ⊢; exact ih h
      · rw [if_neg e] at h; rw [if_neg (fun e2 => e e2.symm)]
        simp at h ⊢; omega
theorem ltL_total : ∀ {s t : List Int}, s.length = t.length → ltL s t = false → ltL t s = false → s = t := by
  intro s
  induction s with
  | nil => intro t h _ _; cases t with
    | nil => rfl
    | cons => simp at h
  | cons a s ih =>
    intro t h h1 h2
    cases t with
    | nil => simp at h
    | cons b t =>
      simp only [ltL] at h1 h2
      by_cases e : a = b
      · subst e; simp at h1 h2 h; rw [ih h h1 h2]
      · rw [if_neg e] at h1; rw [if_neg (fun e2 => e e2.symm)] at h2
        simp at h1 h2; omega
theorem keyE_len (a k n s : Int) : (keyE a k n s).length = 4 := by unfold keyE; split <;> (try split) <;> rfl
theorem keyE_eq {a k n s a' k' n' s' : Int} (h : keyE a k n s = keyE a' k' n' s') (hk : k = 1 ∨ k = 2) (hk' : k' = 1 ∨ k' = 2) : n = n' ∧ k = k' := by
  unfold keyE at h
  rcases hk with rfl | rfl <;> rcases hk' with rfl | rfl <;> simp at h <;> (try split at h) <;> (try split at h) <;> simp_all
/-- In order, or strictly in order, is one where the events are those of notes. -/
theorem ok_strict {m I : Int} {x : Nat → CD} {n : Nat} (h : allB (stE m I x) n = true) : allB (fun i => ltL (keyJ x n i) (keyJ x n (i + 1))) (n - 1) = allB (fun i => !ltL (keyJ x n (i + 1)) (keyJ x n i)) (n - 1) := by
  have hs := allB_all h
  rw [Bool.eq_iff_iff]
  constructor
  · intro h1; exact allB_yes (fun i hi => by rw [ltL_asymm (allB_all h1 i hi)]; rfl)
  · intro h1
    refine allB_yes (fun i hi => ?_)
    have h2 := allB_all h1 i hi
    simp only [Bool.not_eq_true'] at h2
    cases h3 : ltL (keyJ x n i) (keyJ x n (i + 1))
    · have e := ltL_total ((keyE_len ..).trans (keyE_len ..).symm) h3 h2
      obtain ⟨e1, e2⟩ := keyE_eq e (stE_kind (hs i (by omega))) (stE_kind (hs (i + 1) (by omega)))
      exact (ev_uniq hs (Nat.lt_succ_self i) (by omega) e1 e2).elim
    · rfl
/-- A list of events. -/
def EvsOk (x : Nat → CD) (n : Nat) : Prop := ∀ k, k < n → x (k * 6) = .int .i64 (evA x k) ∧ x (k * 6 + 1) = .int .i64 (evK x k) ∧ x (k * 6 + 2) = .int .i64 (evN x k) ∧ x (k * 6 + 3) = .int .i64 (evI x k) ∧ x (k * 6 + 4) = .int .i64 (evY x k) ∧ (x (k * 6 + 5)).flk = some .f32
/-- The cells of an event in a list. -/
theorem EvsOk.vals {x : Nat → CD} {n k B b o cap : Nat} {w : World} (h : EvsOk x n) (hr : (CD.sl 6 n x).RdN w B (.slice (some ⟨b, o, none⟩) n cap)) (hk : k < n) : ∃ y, fits .f32 y ∧ can .f32 y = evF x k ∧
    ((Lit.int .i64 (evA x k)).wf = true ∧ (Lit.int .i64 (evK x k)).wf = true ∧ (Lit.int .i64 (evN x k)).wf = true ∧ (Lit.int .i64 (evI x k)).wf = true ∧ (Lit.int .i64 (evY x k)).wf = true) ∧
    (∀ j v, [Value.int .i64 (evA x k), .int .i64 (evK x k), .int .i64 (evN x k), .int .i64 (evI x k), .int .i64 (evY x k), .float .f32 y][j]? = some v → w.cell? ((⟨b, o + k * 6, none⟩ : Addr).add j) = some v) := by
  obtain ⟨e0, e1, e2, e3, e4, e5⟩ := h k hk
  obtain ⟨u0, c0, r0⟩ := hr.cell (i := k * 6) (by omega)
  obtain ⟨u1, c1, r1⟩ := hr.cell (i := k * 6 + 1) (by omega)
  obtain ⟨u2, c2, r2⟩ := hr.cell (i := k * 6 + 2) (by omega)
  obtain ⟨u3, c3, r3⟩ := hr.cell (i := k * 6 + 3) (by omega)
  obtain ⟨u4, c4, r4⟩ := hr.cell (i := k * 6 + 4) (by omega)
  obtain ⟨u5, c5, r5⟩ := hr.cell (i := k * 6 + 5) (by omega)
  rw [e0] at r0; rw [e1] at r1; rw [e2] at r2; rw [e3] at r3; rw [e4] at r4
  obtain ⟨rfl, w0⟩ := r0; obtain ⟨rfl, w1⟩ := r1; obtain ⟨rfl, w2⟩ := r2; obtain ⟨rfl, w3⟩ := r3; obtain ⟨rfl, w4⟩ := r4
  obtain ⟨y, rfl, f1, f2⟩ := r5.rd.fl e5
  refine ⟨y, f1, f2, ⟨w0, w1, w2, w3, w4⟩, fun j v hv => ?_⟩
  rw [add_none]
  match j, hv with
  | 0, hv => simp at hv; subst hv; exact c0
  | 1, hv => simp at hv; subst hv; rw [Nat.add_assoc]; exact c1
  | 2, hv => simp at hv; subst hv; rw [Nat.add_assoc]; exact c2
  | 3, hv => simp at hv; subst hv; rw [Nat.add_assoc]; exact c3
  | 4, hv => simp at hv; subst hv; rw [Nat.add_assoc]; exact c4
  | 5, hv => simp at hv; subst hv; rw [Nat.add_assoc]; exact c5
theorem evs_ok {x : Nat → CD} {n : Nat} {e : Nat → Sh} (h : ∀ i, i < n → ∀ j, j < 6 → ShOk (e j) (x (i * 6 + j))) (h0 : e 0 = .int .i64) (h1 : e 1 = .int .i64) (h2 : e 2 = .int .i64) (h3 : e 3 = .int .i64) (h4 : e 4 = .int .i64) (h5 : e 5 = .flt .f32) : EvsOk x n := fun k hk => by
  have a0 := h k hk 0 (by omega); have a1 := h k hk 1 (by omega); have a2 := h k hk 2 (by omega); have a3 := h k hk 3 (by omega); have a4 := h k hk 4 (by omega); have a5 := h k hk 5 (by omega)
  rw [h0] at a0; rw [h1] at a1; rw [h2] at a2; rw [h3] at a3; rw [h4] at a4; rw [h5] at a5
  obtain ⟨z0, e0⟩ := a0; obtain ⟨z1, e1⟩ := a1; obtain ⟨z2, e2⟩ := a2; obtain ⟨z3, e3⟩ := a3; obtain ⟨z4, e4⟩ := a4
  rw [Nat.add_zero] at e0
  refine ⟨?_, ?_, ?_, ?_, ?_, a5⟩
  · unfold evA; rw [e0]; rfl
  · unfold evK; rw [e1]; rfl
  · unfold evN; rw [e2]; rfl
  · unfold evI; rw [e3]; rfl
  · unfold evY; rw [e4]; rfl
end Go.Fk

/- As FreeD, where it is known besides that no two operations of a region run at one time: what one has made is there when the other starts, or the other way round. So what they make lies apart. Nothing here names a program. -/
namespace Go.Fk
open Go Go.RowKit

/-- What is known of each operation's value: 'z' is the number of blocks where it started. -/
abbrev FactsZ := Nat → Nat → World → Prop
def FactsZ.with (F : FactsZ) (k : Nat) (V : Nat → World → Prop) : FactsZ := fun e z w => F e z w ∧ (e = k → V z w)

section
variable (E : Ext) (P : Program) (ops : Array Oper) (md : Region.Mode) (W : World) (K : FuncId → Array Value → Nat → World → Value → Prop)
/-- One operation was over where the other started. -/
def beforeZ (zs : Nat → Nat) (F : FactsZ) (w : World) (p q : Nat) : Prop := ∃ w', E.R W w' ∧ E.R w' w ∧ w'.heap.size = zs q ∧ F p (zs p) w'
def crossZ (zs : Nat → Nat) (F : FactsZ) (w : World) : Prop := ∀ p q, p ≠ q → beforeZ E W zs F w p q ∨ beforeZ E W zs F w q p
/-- What is known where an operation starts: of those that it comes behind, and of their order. -/
def behindZ (o : Oper) (F : FactsZ) (w : World) : Prop := ∃ zs : Nat → Nat, (∀ e ∈ o.after, Region.binds md e = true → F e.on (zs e.on) w) ∧
  ∀ p ∈ o.after, Region.binds md p = true → ∀ q ∈ o.after, Region.binds md q = true → p.on ≠ q.on → beforeZ E W zs F w p.on q.on ∨ beforeZ E W zs F w q.on p.on
def MonoZ (V : Nat → World → Value → Prop) : Prop := ∀ z v w w', E.R w w' → V z w v → V z w' v
def YieldsZ (o : Oper) (a : Act) (F : FactsZ) (V : Nat → World → Value → Prop) : Prop :=
  MonoZ E V ∧ ((Region.wanted o (yielded ops a.tmps) = true ∧ ∀ w, E.R W w → behindZ E md W o F w → insideT E P (fun f args => K f args w.heap.size) w (V w.heap.size) ((execOp a.eval o).run P w)) ∨ (Region.wanted o (yielded ops a.tmps) = false ∧ ∀ w, E.R W w → behindZ E md W o F w → V w.heap.size w undef))
def metZ (F : FactsZ) : Prop := ∃ w zs, E.R W w ∧ (∀ e, F e (zs e) w) ∧ crossZ E W zs F w
def wpFreeZ (Q : Act → World → Prop) : List Oper → Nat → Act → FactsZ → Prop
  | [], _, a, F => ∀ w zs, E.R W w → (∀ e, F e (zs e) w) → crossZ E W zs F w → Q a w
  | o :: rest, k, a, F => ∃ V, YieldsZ E P ops md W K o a F V ∧ ∀ v, metZ E W (F.with k (fun z w => V z w v)) → wpFreeZ Q rest (k + 1) (a.put o.dst v) (F.with k (fun z w => V z w v))
def anyFreeZ (n : Nat) (L : Array Bool → Act → FactsZ → Prop) : Nat → Array Bool → Act → FactsZ → Prop
  | 0, listed, a, F => L listed a F
  | f + 1, listed, a, F => Region.ready md ops listed ≠ [] ∧
      ∀ i ∈ Region.ready md ops listed, i < n ∧ ∀ o, ops[i]? = some o → ∃ V, YieldsZ E P ops md W K o a F V ∧ ∀ v, metZ E W (F.with i (fun z w => V z w v)) → anyFreeZ n L f (listed.setIfInBounds i true) (a.put o.dst v) (F.with i (fun z w => V z w v))
def FMonoZ (F : FactsZ) : Prop := ∀ w w', E.R w w' → ∀ e z, F e z w → F e z w'
/-- Of what is not listed, nothing is told. -/
def TrivZ (listed : Array Bool) (F : FactsZ) : Prop := ∀ i, listed.getD i true = false → ∀ z w, F i z w
end

section
variable {E : Ext} {P : Program} {ops : Array Oper} {md : Region.Mode} {W : World} {K : FuncId → Array Value → Nat → World → Value → Prop}
theorem FMonoZ.with {F : FactsZ} (h : FMonoZ E F) {V : Nat → World → Value → Prop} (hV : MonoZ E V) (k : Nat) (v : Value) : FMonoZ E (F.with k (fun z w => V z w v)) := fun w w' hw e z hF =>
  ⟨h w w' hw e z hF.1, fun he => hV z v w w' hw (hF.2 he)⟩
theorem beforeZ.weaken {F F' : FactsZ} (h : ∀ e z w, F' e z w → F e z w) {zs : Nat → Nat} {w : World} {p q : Nat} (hb : beforeZ E W zs F' w p q) : beforeZ E W zs F w p q := by
  obtain ⟨w', b1, b2, b3, b4⟩ := hb; exact ⟨w', b1, b2, b3, h _ _ _ b4⟩
theorem crossZ.weaken {F F' : FactsZ} (h : ∀ e z w, F' e z w → F e z w) {zs : Nat → Nat} {w : World} (hc : crossZ E W zs F' w) : crossZ E W zs F w := fun p q hpq => (hc p q hpq).imp (·.weaken h) (·.weaken h)
theorem metZ.weaken {F F' : FactsZ} (h : ∀ e z w, F' e z w → F e z w) (hx : metZ E W F') : metZ E W F := by
  obtain ⟨w, zs, hw, hF, hc⟩ := hx; exact ⟨w, zs, hw, fun e => h _ _ _ (hF e), hc.weaken h⟩
theorem behindZ.of {F : FactsZ} {w : World} {zs : Nat → Nat} (hF : ∀ e, F e (zs e) w) (hc : crossZ E W zs F w) (o : Oper) : behindZ E md W o F w := ⟨zs, fun e _ _ => hF e.on, fun p _ _ q _ _ hpq => hc _ _ hpq⟩
theorem crossZ.step {F : FactsZ} {zs : Nat → Nat} {w w' : World} {i : Nat} {V : Nat → World → Prop} (hw : E.R W w) (hl : E.R w w') (h1 : ∀ e, F e (zs e) w) (h2 : crossZ E W zs F w) :
    crossZ E W (fun e => if e = i then w.heap.size else zs e) (F.with i V) w' := by
  intro p q hpq
  by_cases hp : p = i
  · subst hp
    right
    refine ⟨w, hw, hl, by simp, ?_⟩
    simp only [if_neg (Ne.symm hpq)]
    exact ⟨h1 q, fun h => absurd h (Ne.symm hpq)⟩
  · by_cases hq : q = i
    · subst hq
      left
      refine ⟨w, hw, hl, by simp, ?_⟩
      simp only [if_neg hpq]
      exact ⟨h1 p, fun h => absurd h hpq⟩
    · simp only [beforeZ, if_neg hp, if_neg hq]
      rcases h2 p q hpq with ⟨w2, a1, a2, a3, a4⟩ | ⟨w2, a1, a2, a3, a4⟩
      · exact .inl ⟨w2, a1, E.trans a2 hl, a3, a4, fun h => absurd h hp⟩
      · exact .inr ⟨w2, a1, E.trans a2 hl, a3, a4, fun h => absurd h hq⟩
theorem metZ.step {F : FactsZ} {w w' : World} {zs : Nat → Nat} {i : Nat} {V : Nat → World → Prop} (hm : FMonoZ E F) (ht : ∀ z w, F i z w) (hw : E.R W w) (hl : E.R w w') (h1 : ∀ e, F e (zs e) w) (h2 : crossZ E W zs F w) (hv : V w.heap.size w') : metZ E W (F.with i V) := by
  refine ⟨w', fun e => if e = i then w.heap.size else zs e, E.trans hw hl, fun e => ?_, h2.step hw hl h1⟩
  by_cases he : e = i
  · subst he
    simp only [if_true]
    exact ⟨ht _ _, fun _ => hv⟩
  · simp only [if_neg he]
    exact ⟨hm w w' hl e _ (h1 e), fun h => absurd h he⟩
theorem YieldsZ.some {o : Oper} {a : Act} {F : FactsZ} {V : Nat → World → Value → Prop} {i : Nat} (hm : FMonoZ E F) (ht : ∀ z w, F i z w) (hx : metZ E W F) (h : YieldsZ E P ops md W K o a F V) : ∃ v, metZ E W (F.with i (fun z w => V z w v)) := by
  obtain ⟨w, zs, hw, hF, hc⟩ := hx
  rcases h.2 with ⟨_, h⟩ | ⟨_, h⟩
  · obtain ⟨v, w', hl, hv⟩ := insideT_some (h w hw (.of hF hc o))
    exact ⟨v, metZ.step hm ht hw hl hF hc hv⟩
  · exact ⟨undef, metZ.step hm ht hw (E.refl w) hF hc (h w hw (.of hF hc o))⟩
theorem YieldsZ.same {o : Oper} {a a' : Act} {F : FactsZ} {V : Nat → World → Value → Prop} (he : execOp a'.eval o = execOp a.eval o) (hw : Region.wanted o (yielded ops a'.tmps) = Region.wanted o (yielded ops a.tmps))
    (h : YieldsZ E P ops md W K o a F V) : YieldsZ E P ops md W K o a' F V := by
  unfold YieldsZ at *; rw [he, hw]; exact h
theorem YieldsZ.stronger {o : Oper} {a : Act} {F F' : FactsZ} {V : Nat → World → Value → Prop} (hF : ∀ e z w, F' e z w → F e z w) (h : YieldsZ E P ops md W K o a F V) : YieldsZ E P ops md W K o a F' V := by
  have key : ∀ w, behindZ E md W o F' w → behindZ E md W o F w := fun w ⟨zs, h1, h2⟩ => ⟨zs, fun e he hb => hF _ _ _ (h1 e he hb), fun p hp hbp q hq hbq hne => (h2 p hp hbp q hq hbq hne).imp (·.weaken hF) (·.weaken hF)⟩
  refine ⟨h.1, ?_⟩
  rcases h.2 with ⟨h1, h2⟩ | ⟨h1, h2⟩
  · exact .inl ⟨h1, fun w hw hb => h2 w hw (key w hb)⟩
  · exact .inr ⟨h1, fun w hw hb => h2 w hw (key w hb)⟩
theorem YieldsZ.less {o : Oper} {a : Act} {F : FactsZ} {i : Nat} {X : Nat → World → Prop} {V : Nat → World → Value → Prop} (hn : ∀ e ∈ o.after, Region.binds md e = true → e.on ≠ i) (h : YieldsZ E P ops md W K o a (F.with i X) V) : YieldsZ E P ops md W K o a F V := by
  have key : ∀ w, behindZ E md W o F w → behindZ E md W o (F.with i X) w := fun w ⟨zs, h1, h2⟩ => ⟨zs, fun e he hb => ⟨h1 e he hb, fun h => absurd h (hn e he hb)⟩, fun p hp hbp q hq hbq hne => by
    have lift : ∀ (p q : Edge), p ∈ o.after → Region.binds md p = true → beforeZ E W zs F w p.on q.on → beforeZ E W zs (F.with i X) w p.on q.on := fun p q hp hbp ⟨w', b1, b2, b3, b4⟩ => ⟨w', b1, b2, b3, b4, fun h => absurd h (hn p hp hbp)⟩
    exact (h2 p hp hbp q hq hbq hne).imp (lift p q hp hbp) (lift q p hq hbq)⟩
  refine ⟨h.1, ?_⟩
  rcases h.2 with ⟨h1, h2⟩ | ⟨h1, h2⟩
  · exact .inl ⟨h1, fun w hw hb => h2 w hw (key w hb)⟩
  · exact .inr ⟨h1, fun w hw hb => h2 w hw (key w hb)⟩
theorem YieldsZ.more {o : Oper} {a : Act} {F : FactsZ} {i : Nat} {X : Nat → World → Prop} {V : Nat → World → Value → Prop} (h : YieldsZ E P ops md W K o a F V) : YieldsZ E P ops md W K o a (F.with i X) V := h.stronger (fun _ _ _ h => h.1)
theorem wpOp_yieldsZ {i : Nat} {o : Oper} {a : Act} {w : World} {F : FactsZ} {V : Nat → World → Value → Prop} {next : Act → World → Prop} {Q' : Exit → Act → World → Prop} (ho : ops[i]? = some o) (hw : E.R W w) (hB : behindZ E md W o F w) (hg : YieldsZ E P ops md W K o a F V)
    (hn : ∀ v w', E.R w w' → V w.heap.size w' v → next (a.put o.dst v) w') : wpOp P ops Q' i next a w := by
  unfold wpOp
  simp only [ho]
  rcases hg.2 with ⟨hwant, hv⟩ | ⟨hwant, hv⟩
  · rw [if_pos hwant]
    left
    have h3 := hv w hw hB
    unfold Oper.wp
    generalize (execOp a.eval o).run P w = r at h3
    cases r with
    | ok x w' =>
      cases x <;> simp only [insideT] at h3 <;> simp only [Oper.upon]
      case value u => exact hn u _ h3.1 h3.2
      case skip => exact hn undef _ h3.1 h3.2
      case enter f args =>
        refine h3.2.1.mono fun e w'' he => ?_
        obtain ⟨v, rfl, hl, hk⟩ := he
        exact hn v _ (E.trans h3.1 hl) (h3.2.2 w'' v hk)
    | halt x w' => simp only [insideT] at h3
  · rw [if_neg (by simp [hwant])]
    exact hn undef _ (E.refl w) (hv w hw hB)
theorem TrivZ.with {listed : Array Bool} {F : FactsZ} (h : TrivZ listed F) (i : Nat) (V : Nat → World → Prop) (hi : i < listed.size) : TrivZ (listed.setIfInBounds i true) (F.with i V) := fun j hj z w => by
  have hne : j ≠ i := fun e => by
    subst e
    rw [Array.getD_eq_getD_getElem?, Array.getElem?_setIfInBounds_self_of_lt hi] at hj
    simp at hj
  refine ⟨h j ?_ z w, fun e => absurd e hne⟩
  rw [Array.getD_eq_getD_getElem?, Array.getElem?_setIfInBounds_ne (Ne.symm hne)] at hj
  rwa [Array.getD_eq_getD_getElem?]
theorem anyFreeZ_sound {n g : Nat} {L : Array Bool → Act → FactsZ → Prop} {Q' : Exit → Act → World → Prop} (hL : ∀ listed a F w zs, E.R W w → (∀ e, F e (zs e) w) → crossZ E W zs F w → L listed a F → wpAny P md ops Q' g listed a w) :
    ∀ (f : Nat) (listed : Array Bool) (a : Act) (F : FactsZ) (w : World) (zs : Nat → Nat), FMonoZ E F → TrivZ listed F → E.R W w → (∀ e, F e (zs e) w) → crossZ E W zs F w → anyFreeZ E P ops md W K n L f listed a F → wpAny P md ops Q' (f + g) listed a w := by
  intro f
  induction f with
  | zero => intro listed a F w zs _ _ hw hF hc h; rw [Nat.zero_add]; exact hL _ _ _ _ zs hw hF hc h
  | succ f ih =>
    intro listed a F w zs hm ht hw hF hc h
    rw [show f + 1 + g = (f + g) + 1 by omega]
    refine ⟨fun h0 => absurd h0 h.1, fun i hi => ?_⟩
    obtain ⟨hun, o, ho, _⟩ := mem_ready.1 hi
    have hlt : i < listed.size := by
      rcases Nat.lt_or_ge i listed.size with h' | h'
      · exact h'
      · simp [Array.getElem?_eq_none h'] at hun
    obtain ⟨V, hg, hn⟩ := (h.2 i hi).2 o ho
    refine wpOp_yieldsZ ho hw (.of hF hc o) hg (fun v w' hl hv => ?_)
    refine ih _ _ _ _ (fun e => if e = i then w.heap.size else zs e) (hm.with hg.1 i v) (ht.with i _ hlt) (E.trans hw hl) (fun e => ?_) (hc.step hw hl hF) (hn v (metZ.step hm (ht i hun) hw hl hF hc hv))
    by_cases he : e = i
    · subst he
      simp only [if_true]
      exact ⟨ht e hun _ _, fun _ => hv⟩
    · simp only [if_neg he]
      exact ⟨hm w w' hl e _ (hF e), fun h => absurd h he⟩
theorem withZ_comm (F : FactsZ) (i j : Nat) (X Y : Nat → World → Prop) : (F.with i X).with j Y = (F.with j Y).with i X := by
  funext e z w
  unfold FactsZ.with
  exact propext ⟨fun h => ⟨⟨h.1.1, h.2⟩, h.1.2⟩, fun h => ⟨⟨h.1.1, h.2⟩, h.1.2⟩⟩
theorem anyFreeZ_weaken {n : Nat} {L : Array Bool → Act → FactsZ → Prop} (hLm : ∀ listed a F F', (∀ e z w, F' e z w → F e z w) → L listed a F → L listed a F') :
    ∀ (f : Nat) (listed : Array Bool) (a : Act) (F F' : FactsZ), (∀ e z w, F' e z w → F e z w) → anyFreeZ E P ops md W K n L f listed a F → anyFreeZ E P ops md W K n L f listed a F' := by
  intro f
  induction f with
  | zero => intro listed a F F' h hh; exact hLm _ _ _ _ h hh
  | succ f ih =>
    intro listed a F F' h hh
    refine ⟨hh.1, fun i hi => ⟨(hh.2 i hi).1, fun o ho => ?_⟩⟩
    obtain ⟨V, hg, hn⟩ := (hh.2 i hi).2 o ho
    exact ⟨V, hg.stronger h, fun v hv => ih _ _ _ _ (fun e z w hw => ⟨h e z w hw.1, hw.2⟩) (hn v (hv.weaken (fun e z w hw => ⟨h e z w hw.1, hw.2⟩)))⟩
theorem anyFreeZ_first {n i : Nat} {oi : Oper} {V : Nat → World → Value → Prop} {L : Array Bool → Act → FactsZ → Prop} (hi : ops[i]? = some oi) (hsel : ∀ (j : Nat) (o : Oper) cs b, ops[j]? = some o → o.op ≠ .select cs b)
    (hbound : ∀ listed i, HeadInv md ops n listed → i < n → listed.getD i true = false → ∀ j ∈ Region.ready md ops listed, j < n) (hin : i < n)
    (hdone : ∀ listed a F, L listed a F → ∀ j ∈ Region.ready md ops listed, n ≤ j) (hLm : ∀ listed a F F', (∀ e z w, F' e z w → F e z w) → L listed a F → L listed a F') :
    ∀ (f : Nat) (listed : Array Bool) (a : Act) (F : FactsZ), HeadInv md ops n listed →
      (∀ j oj, ops[j]? = some oj → j ≠ i → listed.getD j true = false → (∀ e ∈ oj.after, Region.binds md e = true → e.on ≠ i) → oi.apart ops oj = true) →
      i ∈ Region.ready md ops listed → FMonoZ E F → TrivZ listed F → metZ E W F → YieldsZ E P ops md W K oi a F V →
      (∀ v, metZ E W (F.with i (fun z w => V z w v)) → anyFreeZ E P ops md W K n L f (listed.setIfInBounds i true) (a.put oi.dst v) (F.with i (fun z w => V z w v))) → anyFreeZ E P ops md W K n L (f + 1) listed a F := by
  intro f
  induction f with
  | zero =>
    intro listed a F inv _ hr hm ht hx hg H
    have hun := (mem_ready.1 hr).1
    refine ⟨fun h => (by rw [h] at hr; cases hr), fun j hj => ?_⟩
    have hjn := hbound listed i inv hin hun j hj
    refine ⟨hjn, fun o ho => ?_⟩
    by_cases hji : j = i
    · subst hji
      rw [hi] at ho; cases ho
      exact ⟨V, hg, H⟩
    · obtain ⟨v, hv⟩ := hg.some (i := i) hm (ht i hun) hx
      have := hdone _ _ _ (H v hv) j (ready_mono hj hji)
      omega
  | succ f ih =>
    intro listed a F inv hfree hr hm ht hx hg H
    have hun := (mem_ready.1 hr).1
    refine ⟨fun h => (by rw [h] at hr; cases hr), fun j hj => ?_⟩
    have hjn := hbound listed i inv hin hun j hj
    refine ⟨hjn, fun o ho => ?_⟩
    by_cases hji : j = i
    · subst hji
      rw [hi] at ho; cases ho
      exact ⟨V, hg, H⟩
    · obtain ⟨hjun, oj, hoj, hall⟩ := mem_ready.1 hj
      rw [ho] at hoj; cases hoj
      have hnot : ∀ e ∈ o.after, Region.binds md e = true → e.on ≠ i := fun e he hb heq => by
        have h1 := hall e he hb
        rw [heq, getD_both hun] at h1
        cases h1
      have hap := hfree j o ho hji hjun hnot
      obtain ⟨a1, a2, a3⟩ := Oper.apart_spec hap
      have hsi := fun cs b => hsel i oi cs b hi
      have hsj := fun cs b => hsel j o cs b ho
      have hU : ∀ v : {v // metZ E W (F.with i (fun z w => V z w v))}, ∃ U, YieldsZ E P ops md W K o (a.put oi.dst v.1) (F.with i (fun z w => V z w v.1)) U ∧ ∀ u, metZ E W ((F.with i (fun z w => V z w v.1)).with j (fun z w => U z w u)) →
          anyFreeZ E P ops md W K n L f ((listed.setIfInBounds i true).setIfInBounds j true) ((a.put oi.dst v.1).put o.dst u) ((F.with i (fun z w => V z w v.1)).with j (fun z w => U z w u)) :=
        fun v => ((H v.1 v.2).2 j (ready_mono hj hji)).2 o ho
      obtain ⟨U, hU⟩ := Classical.skolem.1 hU
      obtain ⟨v0, hv0⟩ := hg.some (i := i) hm (ht i hun) hx
      have hone : ∀ v, YieldsZ E P ops md W K o a F (U v) := fun v => ((hU v).1.same (execOp_put o hsj a oi.dst v.1 a1).symm (wanted_put o a oi.dst v.1 a1).symm).less hnot
      have hgood : YieldsZ E P ops md W K o a F (fun z w u => ∀ v, U v z w u) := by
        refine ⟨fun z u w w' hl h v => (hone v).1 z u w w' hl (h v), ?_⟩
        by_cases hw : Region.wanted o (yielded ops a.tmps) = true
        · refine .inl ⟨hw, fun w hw' hb => inside_allT ⟨⟨v0, hv0⟩, trivial⟩ (fun v => ?_)⟩
          rcases (hone v).2 with ⟨_, h3⟩ | ⟨h3, _⟩
          · exact h3 w hw' hb
          · rw [hw] at h3; cases h3
        · refine .inr ⟨by simpa using hw, fun w hw' hb v => ?_⟩
          rcases (hone v).2 with ⟨h3, _⟩ | ⟨_, h3⟩
          · exact absurd h3 hw
          · exact h3 w hw' hb
      refine ⟨_, hgood, ?_⟩
      intro u hu
      have hfree' : ∀ k ok, ops[k]? = some ok → k ≠ i → (listed.setIfInBounds j true).getD k true = false →
          (∀ e ∈ ok.after, Region.binds md e = true → e.on ≠ i) → oi.apart ops ok = true := fun k ok hk hki hun hno => by
        refine hfree k ok hk hki ?_ hno
        by_cases hjk : j = k
        · subst hjk; exact hjun
        · rw [getD_set_ne true hjk] at hun; exact hun
      have hjlt : j < listed.size := by
        rcases Nat.lt_or_ge j listed.size with h' | h'
        · exact h'
        · simp [Array.getElem?_eq_none h'] at hjun
      have hx' : metZ E W (F.with j (fun z w => ∀ v, U v z w u)) := hu
      refine ih (listed.setIfInBounds j true) (a.put o.dst u) (F.with j (fun z w => ∀ v, U v z w u)) (inv.set hj hjn) hfree' (ready_mono hr (Ne.symm hji)) (hm.with hgood.1 j u) (ht.with j _ hjlt) hx' ((hg.same (execOp_put oi hsi a o.dst u a3) (wanted_put oi a o.dst u a3)).more) (fun v hv => ?_)
      rw [Array.setIfInBounds_comm _ _ hji, ← Act.put_comm a v u a2]
      have mv : metZ E W (F.with i (fun z w => V z w v)) := hv.weaken (fun e z w' h' => ⟨h'.1.1, h'.2⟩)
      have mu : metZ E W ((F.with i (fun z w => V z w v)).with j (fun z w => U ⟨v, mv⟩ z w u)) := hv.weaken (fun e z w' h' => ⟨⟨h'.1.1, h'.2⟩, fun he => h'.1.2 he ⟨v, mv⟩⟩)
      exact anyFreeZ_weaken hLm _ _ _ _ _ (fun e z w' h' => ⟨⟨h'.1.1, h'.2⟩, fun he => h'.1.2 he ⟨v, mv⟩⟩) ((hU ⟨v, mv⟩).2 u mu)
theorem anyFreeZ_lex {n g : Nat} {R : Act → World → Prop} (hsel : Region.noSelect ops = true)
    (hbound : ∀ listed i, HeadInv md ops n listed → i < n → listed.getD i true = false → ∀ j ∈ Region.ready md ops listed, j < n) :
    ∀ (l : List Oper) (k : Nat) (listed : Array Bool) (a : Act) (F : FactsZ), (∀ j, j < l.length → l[j]? = ops[k + j]?) → k + l.length = n → HeadInv md ops n listed →
    Region.lexHead md ops g l.length k listed = true → FMonoZ E F → TrivZ listed F → metZ E W F → wpFreeZ E P ops md W K R l k a F →
    anyFreeZ E P ops md W K n (fun listed' a' F' => Region.seqB md ops g n listed' = true ∧ ∀ w zs, E.R W w → (∀ e, F' e (zs e) w) → crossZ E W zs F' w → R a' w) l.length listed a F := by
  intro l
  induction l with
  | nil =>
    intro k listed a F _ hk _ hB _ _ _ h
    have : k = n := by simpa using hk
    subst this
    exact ⟨by simpa [Region.lexHead] using hB, h⟩
  | cons o l ih =>
    intro k listed a F hl hk inv hB hm ht hx h
    have h0 : ops[k]? = some o := by simpa using (hl 0 (by simp)).symm
    simp only [List.length_cons, Region.lexHead, Bool.and_eq_true] at hB
    obtain ⟨⟨hr, hf⟩, hB'⟩ := hB
    have hkn : k < n := by simp only [List.length_cons] at hk; omega
    have hr' : k ∈ Region.ready md ops listed := by simpa using hr
    have hun := (mem_ready.1 hr').1
    have hklt : k < listed.size := by
      rcases Nat.lt_or_ge k listed.size with h' | h'
      · exact h'
      · simp [Array.getElem?_eq_none h'] at hun
    obtain ⟨V, hg, hnext⟩ := h
    exact anyFreeZ_first h0 (Region.noSelect_spec hsel) hbound hkn (fun listed' a' F' hL => seqB_ready hL.1)
      (fun _ _ _ _ hF hL => ⟨hL.1, fun w zs hw h' hc => hL.2 w zs hw (fun e => hF e _ w (h' e)) (fun p q hpq => (hc p q hpq).imp (fun ⟨w', b1, b2, b3, b4⟩ => ⟨w', b1, b2, b3, hF _ _ _ b4⟩) (fun ⟨w', b1, b2, b3, b4⟩ => ⟨w', b1, b2, b3, hF _ _ _ b4⟩))⟩) l.length listed a F inv (Region.free_spec h0 hf) hr' hm ht hx hg
      (fun v hv => ih (k + 1) _ _ _ (fun j hj => by have := hl (j + 1) (by simp; omega); simpa [Nat.add_assoc, Nat.add_comm 1 j] using this) (by simp only [List.length_cons] at hk; omega) (inv.set hr' hkn) hB' (hm.with hg.1 k v) (ht.with k _ hklt)
        hv (hnext v hv))
def noFactsZ : FactsZ := fun _ _ _ => True
/-- A REGION THAT DRAWS ITS ORDER. -/
theorem region_freeZ (K : FuncId → Array Value → Nat → World → Value → Prop) {id : Nat} {Q : Exit → Act → World → Prop} {a : Act} {w : World} {l : List Oper} (hm : P.follows .mixedOrders = true)
    (hB : (Region.noSelect l.toArray && Region.lexHead .any l.toArray 0 l.length 0 (Array.replicate l.toArray.size false)) = true)
    (h : wpFreeZ E P l.toArray .any (w.drewN 1) K (fun a' w' => Q .normal a' w') l 0 a noFactsZ) : (Code.region id l.toArray true).wp P Q a w := by
  simp only [Bool.and_eq_true] at hB
  obtain ⟨hsel, hlex⟩ := hB
  have hbound : ∀ listed i, HeadInv .any l.toArray l.length listed → i < l.length → listed.getD i true = false → ∀ j ∈ Region.ready .any l.toArray listed, j < l.length := by
    intro listed i _ _ _ j hj
    obtain ⟨_, oj, hoj, _⟩ := mem_ready.1 hj
    simpa using (Array.getElem?_eq_some_iff.1 hoj).1
  have H := anyFreeZ_lex (md := .any) (g := 0) hsel hbound l 0 _ a noFactsZ (fun j hj => by simp) (by simp) (head_start _ l.length) hlex (fun _ _ _ _ _ h => h) (fun _ _ _ _ => trivial) ⟨w.drewN 1, fun _ => (w.drewN 1).heap.size, E.refl _, fun _ => trivial, fun p q _ => .inl ⟨_, E.refl _, E.refl _, rfl, trivial⟩⟩ h
  refine wp_region_any hm ?_
  have := anyFreeZ_sound (Q' := Q) (W := w.drewN 1) (g := 0) (fun listed a' F w' zs hw' hF hc hL => ⟨by simpa [Region.seqB] using hL.1, hL.2 w' zs hw' hF hc⟩) _ _ _ _ _ (fun _ => (w.drewN 1).heap.size) (fun _ _ _ _ _ h => h) (fun _ _ _ _ => trivial) (E.refl _) (fun _ => trivial) (fun p q _ => .inl ⟨_, E.refl _, E.refl _, rfl, trivial⟩) H
  rw [Nat.add_zero] at this
  exact this
/-- The same for a region whose last operations are forced to come last, and may write. -/
theorem region_tailZ (K : FuncId → Array Value → Nat → World → Value → Prop) {id : Nat} {Q : Exit → Act → World → Prop} {a : Act} {w : World} {l : List Oper} (n : Nat) (hm : P.follows .mixedOrders = true) (hB : Region.lexTailB .any l.toArray n = true)
    (h : wpFreeZ E P l.toArray .any (w.drewN 1) K (fun a' w' => wpList P l.toArray Q (l.drop n) a' w') (l.take n) 0 a noFactsZ) : (Code.region id l.toArray true).wp P Q a w := by
  simp only [Region.lexTailB, Bool.and_eq_true, decide_eq_true_eq] at hB
  obtain ⟨⟨⟨⟨hsel, hn⟩, hs⟩, hc⟩, hlex⟩ := hB
  have hn' : n < l.length := by simpa using hn
  have htl : (l.take n).length = n := by simp; omega
  have hdl : (l.drop n).length = l.toArray.size - n := by simp
  have hbound : ∀ listed i, HeadInv .any l.toArray n listed → i < n → listed.getD i true = false → ∀ j ∈ Region.ready .any l.toArray listed, j < n := by
    intro listed i inv hi hun j hj
    rcases Nat.lt_or_ge j n with h | h
    · exact h
    · exact absurd hj (tail_waits hs hc hn inv _ i rfl hi hun j h)
  have H := anyFreeZ_lex (md := .any) (g := l.toArray.size - n) hsel hbound (l.take n) 0 _ a noFactsZ (fun j hj => by
    have hj' : j < n := by rw [htl] at hj; exact hj
    simp [hj']) (by simpa using htl) (head_start _ n) (by rw [htl]; exact hlex) (fun _ _ _ _ _ h => h) (fun _ _ _ _ => trivial) ⟨w.drewN 1, fun _ => (w.drewN 1).heap.size, E.refl _, fun _ => trivial, fun p q _ => .inl ⟨_, E.refl _, E.refl _, rfl, trivial⟩⟩ h
  refine wp_region_any hm ?_
  have := anyFreeZ_sound (Q' := Q) (W := w.drewN 1) (g := l.toArray.size - n) (fun listed a' F w' zs hw' hF hc hL => by
    have := wpAny_of_seq (md := .any) (Q' := Q) (l.drop n) n listed a' w' (fun j => by simp [List.getElem?_drop]) (by rw [hdl]; exact hL.1) (hL.2 w' zs hw' hF hc)
    rwa [hdl] at this) _ _ _ _ _ (fun _ => (w.drewN 1).heap.size) (fun _ _ _ _ _ h => h) (fun _ _ _ _ => trivial) (E.refl _) (fun _ => trivial) (fun p q _ => .inl ⟨_, E.refl _, E.refl _, rfl, trivial⟩) H
  rw [htl, show n + (l.toArray.size - n) = l.toArray.size by omega] at this
  exact this
end
end Go.Fk
