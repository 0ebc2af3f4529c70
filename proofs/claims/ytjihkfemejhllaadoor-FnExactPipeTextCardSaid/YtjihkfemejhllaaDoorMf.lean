/- Texts of the walk, laid in one file. -/
import Derived.BigRegion
import Derived.BigQuiet
import Derived.RegionTactic
import Derived.Great.BuildSlice
import Derived.Laws.IdiomStrings
import Derived.WalkKit
import Derived.Maps.AppendAt
import Derived.Test.YtjihkfemejhllaaDoorMe
set_option linter.unusedVariables false
set_option linter.unusedSimpArgs false
/- 'ValidPipe' of both. -/
namespace Go.Fk
open Go Go.RowKit
/-- Is a pipe valid? -/
def okP (nR nL nS : Nat) (xR xL : Nat → CD) (yS : Nat → Nat) (k : Int) (a b c x y l r s : Nat) : Bool := decide (1 ≤ nR) && decide (nR ≤ 3) && (nL == nR) && (nS + 1 == nR) && (k == 1) && okF k a b c x y && fin l && fin r && fin s && scB yS nS && allB (secOk xR xL) nR
theorem okP_sec {nR nL nS : Nat} {xR xL : Nat → CD} {yS : Nat → Nat} {k : Int} {a b c x y l r s : Nat} (h : allB (secOk xR xL) nR = false) : okP nR nL nS xR xL yS k a b c x y l r s = false := by unfold okP; rw [h, Bool.and_false]
end Go.Fk
namespace Go.Proofs.YtjihkfemejhllaaDoor
open Go.RowKit Go.Fk
set_option maxRecDepth 100000 in
set_option maxHeartbeats 4000000 in
theorem i_ValidPipe (B : Nat) (v0 v1 v2 : Value) (nR nL nS : Nat) (xR xL : Nat → CD) (yS : Nat → Nat) (k : Int) (a b c x y : Nat) (op : Bool) (l r s : Nat) (w : World) (h0 : (CD.sl 2 nR xR).RdN w B v0) (h1 : (CD.sl 2 nL xL).RdN w B v1) (h2 : RdS w B v2 yS nS) (p0 : RgsOk xR nR) (p1 : RgsOk xL nL) (hf : fits .f32 a ∧ fits .f32 b ∧ fits .f32 c ∧ fits .f32 x ∧ fits .f32 y) (hg : fits .f32 l ∧ fits .f32 r ∧ fits .f32 s) :
    Calls Tryd.prog 40 #[.agg #[v0, v1, v2, .int .i64 k, .float .f32 a, .float .f32 b, .float .f32 c, .float .f32 x, .float .f32 y, .bool op, .float .f32 l, .float .f32 r, .float .f32 s]] w (Out_b (okP nR nL nS xR xL yS k a b c x y l r s) w) := by
  have L0 := hid h0.rd; have L1 := hid h1.rd; have L2 := hid h2
  have F := (Frg.nil w).box 57 #[v0, v1, v2, .int .i64 k, .float .f32 a, .float .f32 b, .float .f32 c, .float .f32 x, .float .f32 y, .bool op, .float .f32 l, .float .f32 r, .float .f32 s]
  have HV := hid (fun w' => i_ValidFilter k a b c x y w' hf)
  have HL := hid (fun w' => i_isFinite l w' hg.1)
  have HR := hid (fun w' => i_isFinite r w' hg.2.1)
  have HS := hid (fun w' => i_isFinite s w' hg.2.2)
  have HC := hid (fun (w' : World) (hl : le w w') => i_areScatters B v2 yS nS w' (h2.le hl))
  have S0 := h0.rd.small; have S1 := h1.rd.small; have S2 := h2.small
  clear hf hg h2
  by_cases g1 : nR < 1
  · have E : okP nR nL nS xR xL yS k a b c x y l r s = false := by unfold okP; rw [decide_eq_false (by omega)]; rfl
    have q1 : (nR : Int) < 1 := by omega
    rw [E]
    clear E h0 h1 p0 p1
    go_enter Tryd.func40, Tryd.ntmps40
    go_wp2_with (first | ((with_reducible refine listN F ?_); clear F; intro wN F) | ((with_reducible refine at_load rfl ?_); first | (with_reducible refine wpList_load1 F rfl rfl rfl (by first | exact m0) (f := 0) (v := v0) rfl ukindRingSI ?_) | (with_reducible refine wpList_load1 F rfl rfl rfl (by first | exact m0) (f := 1) (v := v1) rfl ukindRingSI ?_) | (with_reducible refine wpList_load1 F rfl rfl rfl (by first | exact m0) (f := 2) (v := v2) rfl ukindFloat32S ?_) | (with_reducible refine wpList_loadGP F rfl rfl rfl (by first | exact m0) Tryd.underlying35 rfl [.int .i64 k, .float .f32 a, .float .f32 b, .float .f32 c, .float .f32 x, .float .f32 y] (partPipe_End (v0) (v1) (v2) (.int .i64 k) (.float .f32 a) (.float .f32 b) (.float .f32 c) (.float .f32 x) (.float .f32 y) (.bool op) (.float .f32 l) (.float .f32 r) (.float .f32 s)) uinfoFilterI rfl ?_) | (with_reducible refine wpList_load1 F rfl rfl rfl (by first | exact m0) (f := 9) (v := .bool op) rfl ukindBool ?_) | (with_reducible refine wpList_load1 F rfl rfl rfl (by first | exact m0) (f := 10) (v := .float .f32 l) rfl ukindFloat32 ?_) | (with_reducible refine wpList_load1 F rfl rfl rfl (by first | exact m0) (f := 11) (v := .float .f32 r) rfl ukindFloat32 ?_) | (with_reducible refine wpList_load1 F rfl rfl rfl (by first | exact m0) (f := 12) (v := .float .f32 s) rfl ukindFloat32 ?_) | (with_reducible refine wpList_load1 F rfl rfl rfl m0 (f := 3) (v := .int .i64 k) rfl ukindInt64 ?_)) | (with_reducible refine wpList_lenC rfl rfl rfl Tryd.underlying55 L0.out ?_) | (with_reducible refine wpList_lenC rfl rfl rfl Tryd.underlying55 L1.out ?_) | (with_reducible refine wpList_lenR rfl rfl rfl Tryd.underlying22 L2.out ?_))
    go_ret
    exact ⟨rfl, F.below⟩
  have q1 : ¬ (nR : Int) < 1 := by omega
  by_cases g2 : 3 < nR
  · have E : okP nR nL nS xR xL yS k a b c x y l r s = false := by unfold okP; rw [decide_eq_false (p := nR ≤ 3) (by omega), Bool.and_false]; rfl
    have q2 : (3 : Int) < nR := by omega
    rw [E]
    clear E h0 h1 p0 p1
    go_enter Tryd.func40, Tryd.ntmps40
    go_wp2_with (first | ((with_reducible refine listN F ?_); clear F; intro wN F) | ((with_reducible refine at_load rfl ?_); first | (with_reducible refine wpList_load1 F rfl rfl rfl (by first | exact m0) (f := 0) (v := v0) rfl ukindRingSI ?_) | (with_reducible refine wpList_load1 F rfl rfl rfl (by first | exact m0) (f := 1) (v := v1) rfl ukindRingSI ?_) | (with_reducible refine wpList_load1 F rfl rfl rfl (by first | exact m0) (f := 2) (v := v2) rfl ukindFloat32S ?_) | (with_reducible refine wpList_loadGP F rfl rfl rfl (by first | exact m0) Tryd.underlying35 rfl [.int .i64 k, .float .f32 a, .float .f32 b, .float .f32 c, .float .f32 x, .float .f32 y] (partPipe_End (v0) (v1) (v2) (.int .i64 k) (.float .f32 a) (.float .f32 b) (.float .f32 c) (.float .f32 x) (.float .f32 y) (.bool op) (.float .f32 l) (.float .f32 r) (.float .f32 s)) uinfoFilterI rfl ?_) | (with_reducible refine wpList_load1 F rfl rfl rfl (by first | exact m0) (f := 9) (v := .bool op) rfl ukindBool ?_) | (with_reducible refine wpList_load1 F rfl rfl rfl (by first | exact m0) (f := 10) (v := .float .f32 l) rfl ukindFloat32 ?_) | (with_reducible refine wpList_load1 F rfl rfl rfl (by first | exact m0) (f := 11) (v := .float .f32 r) rfl ukindFloat32 ?_) | (with_reducible refine wpList_load1 F rfl rfl rfl (by first | exact m0) (f := 12) (v := .float .f32 s) rfl ukindFloat32 ?_) | (with_reducible refine wpList_load1 F rfl rfl rfl m0 (f := 3) (v := .int .i64 k) rfl ukindInt64 ?_)) | (with_reducible refine wpList_lenC rfl rfl rfl Tryd.underlying55 L0.out ?_) | (with_reducible refine wpList_lenC rfl rfl rfl Tryd.underlying55 L1.out ?_) | (with_reducible refine wpList_lenR rfl rfl rfl Tryd.underlying22 L2.out ?_))
    go_ret
    exact ⟨rfl, F.below⟩
  have q2 : ¬ (3 : Int) < nR := by omega
  cases g3 : (nL == nR)
  · have E : okP nR nL nS xR xL yS k a b c x y l r s = false := by unfold okP; rw [g3]; simp
    have q3 : (((nL : Nat) : Int) != ((nR : Nat) : Int)) = true := by simp only [beq_eq_false_iff_ne] at g3; simp; omega
    rw [E]
    clear E h0 h1 p0 p1 g3
    go_enter Tryd.func40, Tryd.ntmps40
    go_wp2_with (first | ((with_reducible refine listN F ?_); clear F; intro wN F) | ((with_reducible refine at_load rfl ?_); first | (with_reducible refine wpList_load1 F rfl rfl rfl (by first | exact m0) (f := 0) (v := v0) rfl ukindRingSI ?_) | (with_reducible refine wpList_load1 F rfl rfl rfl (by first | exact m0) (f := 1) (v := v1) rfl ukindRingSI ?_) | (with_reducible refine wpList_load1 F rfl rfl rfl (by first | exact m0) (f := 2) (v := v2) rfl ukindFloat32S ?_) | (with_reducible refine wpList_loadGP F rfl rfl rfl (by first | exact m0) Tryd.underlying35 rfl [.int .i64 k, .float .f32 a, .float .f32 b, .float .f32 c, .float .f32 x, .float .f32 y] (partPipe_End (v0) (v1) (v2) (.int .i64 k) (.float .f32 a) (.float .f32 b) (.float .f32 c) (.float .f32 x) (.float .f32 y) (.bool op) (.float .f32 l) (.float .f32 r) (.float .f32 s)) uinfoFilterI rfl ?_) | (with_reducible refine wpList_load1 F rfl rfl rfl (by first | exact m0) (f := 9) (v := .bool op) rfl ukindBool ?_) | (with_reducible refine wpList_load1 F rfl rfl rfl (by first | exact m0) (f := 10) (v := .float .f32 l) rfl ukindFloat32 ?_) | (with_reducible refine wpList_load1 F rfl rfl rfl (by first | exact m0) (f := 11) (v := .float .f32 r) rfl ukindFloat32 ?_) | (with_reducible refine wpList_load1 F rfl rfl rfl (by first | exact m0) (f := 12) (v := .float .f32 s) rfl ukindFloat32 ?_) | (with_reducible refine wpList_load1 F rfl rfl rfl m0 (f := 3) (v := .int .i64 k) rfl ukindInt64 ?_)) | (with_reducible refine wpList_lenC rfl rfl rfl Tryd.underlying55 L0.out ?_) | (with_reducible refine wpList_lenC rfl rfl rfl Tryd.underlying55 L1.out ?_) | (with_reducible refine wpList_lenR rfl rfl rfl Tryd.underlying22 L2.out ?_))
    go_ret
    exact ⟨rfl, F.below⟩
  obtain rfl : nL = nR := by simpa using g3
  have q3 : (((nL : Nat) : Int) != ((nL : Nat) : Int)) = false := by simp
  clear g3
  cases g4 : (nS + 1 == nL)
  · have E : okP nL nL nS xR xL yS k a b c x y l r s = false := by unfold okP; rw [g4]; simp
    have q4 : (((nS : Nat) : Int) != ((nL : Nat) : Int) - 1) = true := by simp only [beq_eq_false_iff_ne] at g4; simp; omega
    rw [E]
    clear E h0 h1 p0 p1 g4
    go_enter Tryd.func40, Tryd.ntmps40
    go_wp2_with (first | ((with_reducible refine listN F ?_); clear F; intro wN F) | ((with_reducible refine at_load rfl ?_); first | (with_reducible refine wpList_load1 F rfl rfl rfl (by first | exact m0) (f := 0) (v := v0) rfl ukindRingSI ?_) | (with_reducible refine wpList_load1 F rfl rfl rfl (by first | exact m0) (f := 1) (v := v1) rfl ukindRingSI ?_) | (with_reducible refine wpList_load1 F rfl rfl rfl (by first | exact m0) (f := 2) (v := v2) rfl ukindFloat32S ?_) | (with_reducible refine wpList_loadGP F rfl rfl rfl (by first | exact m0) Tryd.underlying35 rfl [.int .i64 k, .float .f32 a, .float .f32 b, .float .f32 c, .float .f32 x, .float .f32 y] (partPipe_End (v0) (v1) (v2) (.int .i64 k) (.float .f32 a) (.float .f32 b) (.float .f32 c) (.float .f32 x) (.float .f32 y) (.bool op) (.float .f32 l) (.float .f32 r) (.float .f32 s)) uinfoFilterI rfl ?_) | (with_reducible refine wpList_load1 F rfl rfl rfl (by first | exact m0) (f := 9) (v := .bool op) rfl ukindBool ?_) | (with_reducible refine wpList_load1 F rfl rfl rfl (by first | exact m0) (f := 10) (v := .float .f32 l) rfl ukindFloat32 ?_) | (with_reducible refine wpList_load1 F rfl rfl rfl (by first | exact m0) (f := 11) (v := .float .f32 r) rfl ukindFloat32 ?_) | (with_reducible refine wpList_load1 F rfl rfl rfl (by first | exact m0) (f := 12) (v := .float .f32 s) rfl ukindFloat32 ?_) | (with_reducible refine wpList_load1 F rfl rfl rfl m0 (f := 3) (v := .int .i64 k) rfl ukindInt64 ?_)) | (with_reducible refine wpList_lenC rfl rfl rfl Tryd.underlying55 L0.out ?_) | (with_reducible refine wpList_lenC rfl rfl rfl Tryd.underlying55 L1.out ?_) | (with_reducible refine wpList_lenR rfl rfl rfl Tryd.underlying22 L2.out ?_))
    go_ret
    exact ⟨rfl, F.below⟩
  have q4 : (((nS : Nat) : Int) != ((nL : Nat) : Int) - 1) = false := by simp only [beq_iff_eq] at g4; simp; omega
  have G4 := hid g4; clear g4
  cases g5 : (k == 1)
  · have E : okP nL nL nS xR xL yS k a b c x y l r s = false := by unfold okP; rw [g5]; simp
    have q5 : (k != 1) = true := by rw [bne, g5]; rfl
    rw [E]
    clear E h0 h1 p0 p1 g5
    go_enter Tryd.func40, Tryd.ntmps40
    go_wp2_with (first | ((with_reducible refine listN F ?_); clear F; intro wN F) | ((with_reducible refine at_load rfl ?_); first | (with_reducible refine wpList_load1 F rfl rfl rfl (by first | exact m0) (f := 0) (v := v0) rfl ukindRingSI ?_) | (with_reducible refine wpList_load1 F rfl rfl rfl (by first | exact m0) (f := 1) (v := v1) rfl ukindRingSI ?_) | (with_reducible refine wpList_load1 F rfl rfl rfl (by first | exact m0) (f := 2) (v := v2) rfl ukindFloat32S ?_) | (with_reducible refine wpList_loadGP F rfl rfl rfl (by first | exact m0) Tryd.underlying35 rfl [.int .i64 k, .float .f32 a, .float .f32 b, .float .f32 c, .float .f32 x, .float .f32 y] (partPipe_End (v0) (v1) (v2) (.int .i64 k) (.float .f32 a) (.float .f32 b) (.float .f32 c) (.float .f32 x) (.float .f32 y) (.bool op) (.float .f32 l) (.float .f32 r) (.float .f32 s)) uinfoFilterI rfl ?_) | (with_reducible refine wpList_load1 F rfl rfl rfl (by first | exact m0) (f := 9) (v := .bool op) rfl ukindBool ?_) | (with_reducible refine wpList_load1 F rfl rfl rfl (by first | exact m0) (f := 10) (v := .float .f32 l) rfl ukindFloat32 ?_) | (with_reducible refine wpList_load1 F rfl rfl rfl (by first | exact m0) (f := 11) (v := .float .f32 r) rfl ukindFloat32 ?_) | (with_reducible refine wpList_load1 F rfl rfl rfl (by first | exact m0) (f := 12) (v := .float .f32 s) rfl ukindFloat32 ?_) | (with_reducible refine wpList_load1 F rfl rfl rfl m0 (f := 3) (v := .int .i64 k) rfl ukindInt64 ?_)) | (with_reducible refine wpList_lenC rfl rfl rfl Tryd.underlying55 L0.out ?_) | (with_reducible refine wpList_lenC rfl rfl rfl Tryd.underlying55 L1.out ?_) | (with_reducible refine wpList_lenR rfl rfl rfl Tryd.underlying22 L2.out ?_))
    go_ret
    exact ⟨rfl, F.below⟩
  have q5 : (k != 1) = false := by rw [bne, g5]; rfl
  have G5 := hid g5; clear g5
  cases g6 : okF k a b c x y
  · have E : okP nL nL nS xR xL yS k a b c x y l r s = false := by unfold okP; rw [g6]; simp
    rw [g6] at HV
    rw [E]
    clear E h0 h1 p0 p1 g6
    go_enter Tryd.func40, Tryd.ntmps40
    go_wp2_with (first | ((with_reducible refine listN F ?_); clear F; intro wN F) | ((with_reducible refine at_load rfl ?_); first | (with_reducible refine wpList_load1 F rfl rfl rfl (by first | exact m0) (f := 0) (v := v0) rfl ukindRingSI ?_) | (with_reducible refine wpList_load1 F rfl rfl rfl (by first | exact m0) (f := 1) (v := v1) rfl ukindRingSI ?_) | (with_reducible refine wpList_load1 F rfl rfl rfl (by first | exact m0) (f := 2) (v := v2) rfl ukindFloat32S ?_) | (with_reducible refine wpList_loadGP F rfl rfl rfl (by first | exact m0) Tryd.underlying35 rfl [.int .i64 k, .float .f32 a, .float .f32 b, .float .f32 c, .float .f32 x, .float .f32 y] (partPipe_End (v0) (v1) (v2) (.int .i64 k) (.float .f32 a) (.float .f32 b) (.float .f32 c) (.float .f32 x) (.float .f32 y) (.bool op) (.float .f32 l) (.float .f32 r) (.float .f32 s)) uinfoFilterI rfl ?_) | (with_reducible refine wpList_load1 F rfl rfl rfl (by first | exact m0) (f := 9) (v := .bool op) rfl ukindBool ?_) | (with_reducible refine wpList_load1 F rfl rfl rfl (by first | exact m0) (f := 10) (v := .float .f32 l) rfl ukindFloat32 ?_) | (with_reducible refine wpList_load1 F rfl rfl rfl (by first | exact m0) (f := 11) (v := .float .f32 r) rfl ukindFloat32 ?_) | (with_reducible refine wpList_load1 F rfl rfl rfl (by first | exact m0) (f := 12) (v := .float .f32 s) rfl ukindFloat32 ?_) | (with_reducible refine wpList_load1 F rfl rfl rfl m0 (f := 3) (v := .int .i64 k) rfl ukindInt64 ?_)) | (with_reducible refine wpList_lenC rfl rfl rfl Tryd.underlying55 L0.out ?_) | (with_reducible refine wpList_lenC rfl rfl rfl Tryd.underlying55 L1.out ?_) | (with_reducible refine wpList_lenR rfl rfl rfl Tryd.underlying22 L2.out ?_) | (go_at_call 63; ((with_reducible refine (HV.out _).mono ?_); rintro e w1 ⟨rfl, hl⟩; replace F := F.le hl; clear hl)))
    go_ret
    exact ⟨rfl, F.below⟩
  rw [g6] at HV
  have G6 := hid g6; clear g6
  cases g7 : fin l
  · have E : okP nL nL nS xR xL yS k a b c x y l r s = false := by unfold okP; rw [g7]; simp
    rw [g7] at HL
    rw [E]
    clear E h0 h1 p0 p1 g7
    go_enter Tryd.func40, Tryd.ntmps40
    go_wp2_with (first | ((with_reducible refine listN F ?_); clear F; intro wN F) | ((with_reducible refine at_load rfl ?_); first | (with_reducible refine wpList_load1 F rfl rfl rfl (by first | exact m0) (f := 0) (v := v0) rfl ukindRingSI ?_) | (with_reducible refine wpList_load1 F rfl rfl rfl (by first | exact m0) (f := 1) (v := v1) rfl ukindRingSI ?_) | (with_reducible refine wpList_load1 F rfl rfl rfl (by first | exact m0) (f := 2) (v := v2) rfl ukindFloat32S ?_) | (with_reducible refine wpList_loadGP F rfl rfl rfl (by first | exact m0) Tryd.underlying35 rfl [.int .i64 k, .float .f32 a, .float .f32 b, .float .f32 c, .float .f32 x, .float .f32 y] (partPipe_End (v0) (v1) (v2) (.int .i64 k) (.float .f32 a) (.float .f32 b) (.float .f32 c) (.float .f32 x) (.float .f32 y) (.bool op) (.float .f32 l) (.float .f32 r) (.float .f32 s)) uinfoFilterI rfl ?_) | (with_reducible refine wpList_load1 F rfl rfl rfl (by first | exact m0) (f := 9) (v := .bool op) rfl ukindBool ?_) | (with_reducible refine wpList_load1 F rfl rfl rfl (by first | exact m0) (f := 10) (v := .float .f32 l) rfl ukindFloat32 ?_) | (with_reducible refine wpList_load1 F rfl rfl rfl (by first | exact m0) (f := 11) (v := .float .f32 r) rfl ukindFloat32 ?_) | (with_reducible refine wpList_load1 F rfl rfl rfl (by first | exact m0) (f := 12) (v := .float .f32 s) rfl ukindFloat32 ?_) | (with_reducible refine wpList_load1 F rfl rfl rfl m0 (f := 3) (v := .int .i64 k) rfl ukindInt64 ?_)) | (with_reducible refine wpList_lenC rfl rfl rfl Tryd.underlying55 L0.out ?_) | (with_reducible refine wpList_lenC rfl rfl rfl Tryd.underlying55 L1.out ?_) | (with_reducible refine wpList_lenR rfl rfl rfl Tryd.underlying22 L2.out ?_) | (go_at_call 63; ((with_reducible refine (HV.out _).mono ?_); rintro e w1 ⟨rfl, hl⟩; replace F := F.le hl; clear hl)) | (go_at_call 64; first | ((with_reducible refine (HL.out _).mono ?_); rintro e w1 ⟨rfl, rfl⟩) | ((with_reducible refine (HR.out _).mono ?_); rintro e w1 ⟨rfl, rfl⟩) | ((with_reducible refine (HS.out _).mono ?_); rintro e w1 ⟨rfl, rfl⟩)))
    go_ret
    exact ⟨rfl, F.below⟩
  rw [g7] at HL
  have G7 := hid g7; clear g7
  cases g8 : fin r
  · have E : okP nL nL nS xR xL yS k a b c x y l r s = false := by unfold okP; rw [g8]; simp
    rw [g8] at HR
    rw [E]
    clear E h0 h1 p0 p1 g8
    go_enter Tryd.func40, Tryd.ntmps40
    go_wp2_with (first | ((with_reducible refine listN F ?_); clear F; intro wN F) | ((with_reducible refine at_load rfl ?_); first | (with_reducible refine wpList_load1 F rfl rfl rfl (by first | exact m0) (f := 0) (v := v0) rfl ukindRingSI ?_) | (with_reducible refine wpList_load1 F rfl rfl rfl (by first | exact m0) (f := 1) (v := v1) rfl ukindRingSI ?_) | (with_reducible refine wpList_load1 F rfl rfl rfl (by first | exact m0) (f := 2) (v := v2) rfl ukindFloat32S ?_) | (with_reducible refine wpList_loadGP F rfl rfl rfl (by first | exact m0) Tryd.underlying35 rfl [.int .i64 k, .float .f32 a, .float .f32 b, .float .f32 c, .float .f32 x, .float .f32 y] (partPipe_End (v0) (v1) (v2) (.int .i64 k) (.float .f32 a) (.float .f32 b) (.float .f32 c) (.float .f32 x) (.float .f32 y) (.bool op) (.float .f32 l) (.float .f32 r) (.float .f32 s)) uinfoFilterI rfl ?_) | (with_reducible refine wpList_load1 F rfl rfl rfl (by first | exact m0) (f := 9) (v := .bool op) rfl ukindBool ?_) | (with_reducible refine wpList_load1 F rfl rfl rfl (by first | exact m0) (f := 10) (v := .float .f32 l) rfl ukindFloat32 ?_) | (with_reducible refine wpList_load1 F rfl rfl rfl (by first | exact m0) (f := 11) (v := .float .f32 r) rfl ukindFloat32 ?_) | (with_reducible refine wpList_load1 F rfl rfl rfl (by first | exact m0) (f := 12) (v := .float .f32 s) rfl ukindFloat32 ?_) | (with_reducible refine wpList_load1 F rfl rfl rfl m0 (f := 3) (v := .int .i64 k) rfl ukindInt64 ?_)) | (with_reducible refine wpList_lenC rfl rfl rfl Tryd.underlying55 L0.out ?_) | (with_reducible refine wpList_lenC rfl rfl rfl Tryd.underlying55 L1.out ?_) | (with_reducible refine wpList_lenR rfl rfl rfl Tryd.underlying22 L2.out ?_) | (go_at_call 63; ((with_reducible refine (HV.out _).mono ?_); rintro e w1 ⟨rfl, hl⟩; replace F := F.le hl; clear hl)) | (go_at_call 64; first | ((with_reducible refine (HL.out _).mono ?_); rintro e w1 ⟨rfl, rfl⟩) | ((with_reducible refine (HR.out _).mono ?_); rintro e w1 ⟨rfl, rfl⟩) | ((with_reducible refine (HS.out _).mono ?_); rintro e w1 ⟨rfl, rfl⟩)))
    go_ret
    exact ⟨rfl, F.below⟩
  rw [g8] at HR
  have G8 := hid g8; clear g8
  cases g9 : fin s
  · have E : okP nL nL nS xR xL yS k a b c x y l r s = false := by unfold okP; rw [g9]; simp
    rw [g9] at HS
    rw [E]
    clear E h0 h1 p0 p1 g9
    go_enter Tryd.func40, Tryd.ntmps40
    go_wp2_with (first | ((with_reducible refine listN F ?_); clear F; intro wN F) | ((with_reducible refine at_load rfl ?_); first | (with_reducible refine wpList_load1 F rfl rfl rfl (by first | exact m0) (f := 0) (v := v0) rfl ukindRingSI ?_) | (with_reducible refine wpList_load1 F rfl rfl rfl (by first | exact m0) (f := 1) (v := v1) rfl ukindRingSI ?_) | (with_reducible refine wpList_load1 F rfl rfl rfl (by first | exact m0) (f := 2) (v := v2) rfl ukindFloat32S ?_) | (with_reducible refine wpList_loadGP F rfl rfl rfl (by first | exact m0) Tryd.underlying35 rfl [.int .i64 k, .float .f32 a, .float .f32 b, .float .f32 c, .float .f32 x, .float .f32 y] (partPipe_End (v0) (v1) (v2) (.int .i64 k) (.float .f32 a) (.float .f32 b) (.float .f32 c) (.float .f32 x) (.float .f32 y) (.bool op) (.float .f32 l) (.float .f32 r) (.float .f32 s)) uinfoFilterI rfl ?_) | (with_reducible refine wpList_load1 F rfl rfl rfl (by first | exact m0) (f := 9) (v := .bool op) rfl ukindBool ?_) | (with_reducible refine wpList_load1 F rfl rfl rfl (by first | exact m0) (f := 10) (v := .float .f32 l) rfl ukindFloat32 ?_) | (with_reducible refine wpList_load1 F rfl rfl rfl (by first | exact m0) (f := 11) (v := .float .f32 r) rfl ukindFloat32 ?_) | (with_reducible refine wpList_load1 F rfl rfl rfl (by first | exact m0) (f := 12) (v := .float .f32 s) rfl ukindFloat32 ?_) | (with_reducible refine wpList_load1 F rfl rfl rfl m0 (f := 3) (v := .int .i64 k) rfl ukindInt64 ?_)) | (with_reducible refine wpList_lenC rfl rfl rfl Tryd.underlying55 L0.out ?_) | (with_reducible refine wpList_lenC rfl rfl rfl Tryd.underlying55 L1.out ?_) | (with_reducible refine wpList_lenR rfl rfl rfl Tryd.underlying22 L2.out ?_) | (go_at_call 63; ((with_reducible refine (HV.out _).mono ?_); rintro e w1 ⟨rfl, hl⟩; replace F := F.le hl; clear hl)) | (go_at_call 64; first | ((with_reducible refine (HL.out _).mono ?_); rintro e w1 ⟨rfl, rfl⟩) | ((with_reducible refine (HR.out _).mono ?_); rintro e w1 ⟨rfl, rfl⟩) | ((with_reducible refine (HS.out _).mono ?_); rintro e w1 ⟨rfl, rfl⟩)))
    go_ret
    exact ⟨rfl, F.below⟩
  rw [g9] at HS
  have G9 := hid g9; clear g9
  cases gA : scB yS nS
  · have E : okP nL nL nS xR xL yS k a b c x y l r s = false := by unfold okP; rw [gA]; simp
    rw [gA] at HC
    rw [E]
    clear E h0 h1 p0 p1 gA
    go_enter Tryd.func40, Tryd.ntmps40
    go_wp2_with (first | ((with_reducible refine listN F ?_); clear F; intro wN F) | ((with_reducible refine at_load rfl ?_); first | (with_reducible refine wpList_load1 F rfl rfl rfl (by first | exact m0) (f := 0) (v := v0) rfl ukindRingSI ?_) | (with_reducible refine wpList_load1 F rfl rfl rfl (by first | exact m0) (f := 1) (v := v1) rfl ukindRingSI ?_) | (with_reducible refine wpList_load1 F rfl rfl rfl (by first | exact m0) (f := 2) (v := v2) rfl ukindFloat32S ?_) | (with_reducible refine wpList_loadGP F rfl rfl rfl (by first | exact m0) Tryd.underlying35 rfl [.int .i64 k, .float .f32 a, .float .f32 b, .float .f32 c, .float .f32 x, .float .f32 y] (partPipe_End (v0) (v1) (v2) (.int .i64 k) (.float .f32 a) (.float .f32 b) (.float .f32 c) (.float .f32 x) (.float .f32 y) (.bool op) (.float .f32 l) (.float .f32 r) (.float .f32 s)) uinfoFilterI rfl ?_) | (with_reducible refine wpList_load1 F rfl rfl rfl (by first | exact m0) (f := 9) (v := .bool op) rfl ukindBool ?_) | (with_reducible refine wpList_load1 F rfl rfl rfl (by first | exact m0) (f := 10) (v := .float .f32 l) rfl ukindFloat32 ?_) | (with_reducible refine wpList_load1 F rfl rfl rfl (by first | exact m0) (f := 11) (v := .float .f32 r) rfl ukindFloat32 ?_) | (with_reducible refine wpList_load1 F rfl rfl rfl (by first | exact m0) (f := 12) (v := .float .f32 s) rfl ukindFloat32 ?_) | (with_reducible refine wpList_load1 F rfl rfl rfl m0 (f := 3) (v := .int .i64 k) rfl ukindInt64 ?_)) | (with_reducible refine wpList_lenC rfl rfl rfl Tryd.underlying55 L0.out ?_) | (with_reducible refine wpList_lenC rfl rfl rfl Tryd.underlying55 L1.out ?_) | (with_reducible refine wpList_lenR rfl rfl rfl Tryd.underlying22 L2.out ?_) | (go_at_call 63; ((with_reducible refine (HV.out _).mono ?_); rintro e w1 ⟨rfl, hl⟩; replace F := F.le hl; clear hl)) | (go_at_call 64; first | ((with_reducible refine (HL.out _).mono ?_); rintro e w1 ⟨rfl, rfl⟩) | ((with_reducible refine (HR.out _).mono ?_); rintro e w1 ⟨rfl, rfl⟩) | ((with_reducible refine (HS.out _).mono ?_); rintro e w1 ⟨rfl, rfl⟩)) | (go_at_call 65; ((with_reducible refine (HC.out _ F.below).mono ?_); rintro e w1 ⟨rfl, rfl⟩)))
    go_ret
    exact ⟨rfl, F.below⟩
  rw [gA] at HC
  have GA := hid gA; clear gA
  have HQ := hid (fun (w' : World) (hl : le w w') => i_areSections B B v0 v1 xR xL nL w' (h0.le hl) (h1.le hl) p0 p1)
  clear h0 h1 p0 p1
  cases gB : allB (secOk xR xL) nL
  · have E : okP nL nL nS xR xL yS k a b c x y l r s = false := okP_sec gB
    rw [gB] at HQ
    rw [E]
    clear E gB
    go_enter Tryd.func40, Tryd.ntmps40
    go_wp2_with (first | ((with_reducible refine listN F ?_); clear F; intro wN F) | ((with_reducible refine at_load rfl ?_); first | (with_reducible refine wpList_load1 F rfl rfl rfl (by first | exact m0) (f := 0) (v := v0) rfl ukindRingSI ?_) | (with_reducible refine wpList_load1 F rfl rfl rfl (by first | exact m0) (f := 1) (v := v1) rfl ukindRingSI ?_) | (with_reducible refine wpList_load1 F rfl rfl rfl (by first | exact m0) (f := 2) (v := v2) rfl ukindFloat32S ?_) | (with_reducible refine wpList_loadGP F rfl rfl rfl (by first | exact m0) Tryd.underlying35 rfl [.int .i64 k, .float .f32 a, .float .f32 b, .float .f32 c, .float .f32 x, .float .f32 y] (partPipe_End (v0) (v1) (v2) (.int .i64 k) (.float .f32 a) (.float .f32 b) (.float .f32 c) (.float .f32 x) (.float .f32 y) (.bool op) (.float .f32 l) (.float .f32 r) (.float .f32 s)) uinfoFilterI rfl ?_) | (with_reducible refine wpList_load1 F rfl rfl rfl (by first | exact m0) (f := 9) (v := .bool op) rfl ukindBool ?_) | (with_reducible refine wpList_load1 F rfl rfl rfl (by first | exact m0) (f := 10) (v := .float .f32 l) rfl ukindFloat32 ?_) | (with_reducible refine wpList_load1 F rfl rfl rfl (by first | exact m0) (f := 11) (v := .float .f32 r) rfl ukindFloat32 ?_) | (with_reducible refine wpList_load1 F rfl rfl rfl (by first | exact m0) (f := 12) (v := .float .f32 s) rfl ukindFloat32 ?_) | (with_reducible refine wpList_load1 F rfl rfl rfl m0 (f := 3) (v := .int .i64 k) rfl ukindInt64 ?_)) | (with_reducible refine wpList_lenC rfl rfl rfl Tryd.underlying55 L0.out ?_) | (with_reducible refine wpList_lenC rfl rfl rfl Tryd.underlying55 L1.out ?_) | (with_reducible refine wpList_lenR rfl rfl rfl Tryd.underlying22 L2.out ?_) | (go_at_call 63; ((with_reducible refine (HV.out _).mono ?_); rintro e w1 ⟨rfl, hl⟩; replace F := F.le hl; clear hl)) | (go_at_call 64; first | ((with_reducible refine (HL.out _).mono ?_); rintro e w1 ⟨rfl, rfl⟩) | ((with_reducible refine (HR.out _).mono ?_); rintro e w1 ⟨rfl, rfl⟩) | ((with_reducible refine (HS.out _).mono ?_); rintro e w1 ⟨rfl, rfl⟩)) | (go_at_call 65; ((with_reducible refine (HC.out _ F.below).mono ?_); rintro e w1 ⟨rfl, rfl⟩)) | (go_at_call 66; ((with_reducible refine (HQ.out _ F.below).mono ?_); rintro e w1 ⟨rfl, hl⟩; replace F := F.le hl; clear hl)))
    go_ret
    exact ⟨rfl, F.below⟩
  have E : okP nL nL nS xR xL yS k a b c x y l r s = true := by unfold okP; rw [gB, GA.out, G9.out, G8.out, G7.out, G6.out, G5.out, G4.out]; simp; omega
  rw [gB] at HQ
  rw [E]
  clear E gB
  go_enter Tryd.func40, Tryd.ntmps40
  go_wp2_with (first | ((with_reducible refine listN F ?_); clear F; intro wN F) | ((with_reducible refine at_load rfl ?_); first | (with_reducible refine wpList_load1 F rfl rfl rfl (by first | exact m0) (f := 0) (v := v0) rfl ukindRingSI ?_) | (with_reducible refine wpList_load1 F rfl rfl rfl (by first | exact m0) (f := 1) (v := v1) rfl ukindRingSI ?_) | (with_reducible refine wpList_load1 F rfl rfl rfl (by first | exact m0) (f := 2) (v := v2) rfl ukindFloat32S ?_) | (with_reducible refine wpList_loadGP F rfl rfl rfl (by first | exact m0) Tryd.underlying35 rfl [.int .i64 k, .float .f32 a, .float .f32 b, .float .f32 c, .float .f32 x, .float .f32 y] (partPipe_End (v0) (v1) (v2) (.int .i64 k) (.float .f32 a) (.float .f32 b) (.float .f32 c) (.float .f32 x) (.float .f32 y) (.bool op) (.float .f32 l) (.float .f32 r) (.float .f32 s)) uinfoFilterI rfl ?_) | (with_reducible refine wpList_load1 F rfl rfl rfl (by first | exact m0) (f := 9) (v := .bool op) rfl ukindBool ?_) | (with_reducible refine wpList_load1 F rfl rfl rfl (by first | exact m0) (f := 10) (v := .float .f32 l) rfl ukindFloat32 ?_) | (with_reducible refine wpList_load1 F rfl rfl rfl (by first | exact m0) (f := 11) (v := .float .f32 r) rfl ukindFloat32 ?_) | (with_reducible refine wpList_load1 F rfl rfl rfl (by first | exact m0) (f := 12) (v := .float .f32 s) rfl ukindFloat32 ?_) | (with_reducible refine wpList_load1 F rfl rfl rfl m0 (f := 3) (v := .int .i64 k) rfl ukindInt64 ?_)) | (with_reducible refine wpList_lenC rfl rfl rfl Tryd.underlying55 L0.out ?_) | (with_reducible refine wpList_lenC rfl rfl rfl Tryd.underlying55 L1.out ?_) | (with_reducible refine wpList_lenR rfl rfl rfl Tryd.underlying22 L2.out ?_) | (go_at_call 63; ((with_reducible refine (HV.out _).mono ?_); rintro e w1 ⟨rfl, hl⟩; replace F := F.le hl; clear hl)) | (go_at_call 64; first | ((with_reducible refine (HL.out _).mono ?_); rintro e w1 ⟨rfl, rfl⟩) | ((with_reducible refine (HR.out _).mono ?_); rintro e w1 ⟨rfl, rfl⟩) | ((with_reducible refine (HS.out _).mono ?_); rintro e w1 ⟨rfl, rfl⟩)) | (go_at_call 65; ((with_reducible refine (HC.out _ F.below).mono ?_); rintro e w1 ⟨rfl, rfl⟩)) | (go_at_call 66; ((with_reducible refine (HQ.out _ F.below).mono ?_); rintro e w1 ⟨rfl, hl⟩; replace F := F.le hl; clear hl)))
  go_ret
  exact ⟨rfl, F.below⟩
theorem l04_lens {xR xL : Nat → CD} {n : Nat} (hR : allB (rgOk xR) n = true) (hL : allB (rgOk xL) n = true) (h : ∀ i, i < n → rgN xR i = rgN xL i) : allB (secOk xR xL) n = true :=
  allB_yes (fun i hi => by unfold secOk; rw [allB_all hR i hi, allB_all hL i hi, h i hi]; simp)
theorem l04_noR {xR xL : Nat → CD} {n : Nat} (h : allB (rgOk xR) n = false) : allB (secOk xR xL) n = false := by
  obtain ⟨i, hi, hf⟩ := allB_ex h
  exact allB_no hi (by unfold secOk; rw [hf]; rfl)
theorem l04_noL {xR xL : Nat → CD} {n : Nat} (h : allB (rgOk xL) n = false) : allB (secOk xR xL) n = false := by
  obtain ⟨i, hi, hf⟩ := allB_ex h
  exact allB_no hi (by unfold secOk; rw [hf]; simp)
theorem l04_noN {xR xL : Nat → CD} {n i : Nat} (hi : i < n) (h : rgN xR i ≠ rgN xL i) : allB (secOk xR xL) n = false :=
  allB_no hi (by unfold secOk; simp [h])
def three (l r s : Nat) : Nat → Nat := fun i => match i with | 0 => can .f32 l | 1 => can .f32 r | _ => can .f32 s
theorem fin3 (l r s : Nat) : finB (three l r s) 3 = (fin l && fin r && fin s) := by
  have e : ∀ z, fin (can .f32 z) = fin z := fun z => fin_can (can_can _ _)
  simp [finB, three, List.range_succ, e, Bool.and_assoc]
set_option maxRecDepth 100000 in
set_option maxHeartbeats 4000000 in
theorem s_l04Ok (B : Nat) (v0 v1 v2 : Value) (nR nL nS : Nat) (xR xL : Nat → CD) (yS : Nat → Nat) (k : Int) (a b c x y : Nat) (op : Bool) (l r s : Nat) (g : Nat) (w : World) (R : Row w g 57 #[v0, v1, v2, .int .i64 k, .float .f32 a, .float .f32 b, .float .f32 c, .float .f32 x, .float .f32 y, .bool op, .float .f32 l, .float .f32 r, .float .f32 s]) (h0 : (CD.sl 2 nR xR).RdN w B v0) (h1 : (CD.sl 2 nL xL).RdN w B v1) (h2 : RdS w B v2 yS nS) (p0 : RgsOk xR nR) (p1 : RgsOk xL nL) (hf : fits .f32 a ∧ fits .f32 b ∧ fits .f32 c ∧ fits .f32 x ∧ fits .f32 y) (hg : fits .f32 l ∧ fits .f32 r ∧ fits .f32 s) :
    Calls Tryd.prog 36 #[.pointer (some ⟨g, 0, none⟩)] w (Out_b (okP nR nL nS xR xL yS k a b c x y l r s) w) := by
  have HVR := hid (fun (w' : World) (hl : le w w') => s_l04Rings B v0 xR nR w' (h0.le hl) p0)
  have HVL := hid (fun (w' : World) (hl : le w w') => s_l04Rings B v1 xL nL w' (h1.le hl) p1)
  have S0 := h0.rd.small; have S1 := h1.rd.small; have S2 := h2.small
  have L0 := hid h0.rd; have L1 := hid h1.rd; have L2 := hid h2
  have c0 := R.cell? 0; have c1 := R.cell? 1; have c2 := R.cell? 2
  have HRow := hid R
  by_cases g1 : nR < 1
  · have E : okP nR nL nS xR xL yS k a b c x y l r s = false := by unfold okP; rw [decide_eq_false (by omega)]; rfl
    have q1 : (nR : Int) < 1 := by omega
    rw [E]
    clear E h0 h1 h2 p0 p1 R hf hg
    go_enter Tryd.func36, Tryd.ntmps36
    go_wp2_with (first | (with_reducible refine wpList_lenC rfl rfl rfl Tryd.underlying55 L0.out ?_))
    go_ret
    exact ⟨rfl, by first | exact le_refl _ | exact le_drewN _ _⟩
  have q1 : ¬ (nR : Int) < 1 := by omega
  by_cases g2 : 3 < nR
  · have E : okP nR nL nS xR xL yS k a b c x y l r s = false := by unfold okP; rw [decide_eq_false (p := nR ≤ 3) (by omega), Bool.and_false]; rfl
    have q2 : (3 : Int) < nR := by omega
    rw [E]
    clear E h0 h1 h2 p0 p1 R hf hg
    go_enter Tryd.func36, Tryd.ntmps36
    go_wp2_with (first | (with_reducible refine wpList_lenC rfl rfl rfl Tryd.underlying55 L0.out ?_))
    go_ret
    exact ⟨rfl, by first | exact le_refl _ | exact le_drewN _ _⟩
  have q2 : ¬ (3 : Int) < nR := by omega
  cases g3 : (nL == nR)
  · have E : okP nR nL nS xR xL yS k a b c x y l r s = false := by unfold okP; rw [g3]; simp
    have q3 : (((nL : Nat) : Int) != ((nR : Nat) : Int)) = true := by simp only [beq_eq_false_iff_ne] at g3; simp; omega
    rw [E]
    clear E h0 h1 h2 p0 p1 R hf hg g3
    go_enter Tryd.func36, Tryd.ntmps36
    go_wp2_with (first | (with_reducible refine wpList_lenC rfl rfl rfl Tryd.underlying55 L0.out ?_) | (with_reducible refine wpList_lenCG rfl rfl Tryd.underlying55 L1.out (by kernel_rfl) ?_))
    go_ret
    exact ⟨rfl, by first | exact le_refl _ | exact le_drewN _ _⟩
  obtain rfl : nL = nR := by simpa using g3
  have q3 : (((nL : Nat) : Int) != ((nL : Nat) : Int)) = false := by simp
  clear g3
  cases g4 : (nS + 1 == nL)
  · have E : okP nL nL nS xR xL yS k a b c x y l r s = false := by unfold okP; rw [g4]; simp
    have q4 : (((nS : Nat) : Int) != ((nL : Nat) : Int) - 1) = true := by simp only [beq_eq_false_iff_ne] at g4; simp; omega
    rw [E]
    clear E h0 h1 h2 p0 p1 R hf hg g4
    go_enter Tryd.func36, Tryd.ntmps36
    go_wp2_with (first | (with_reducible refine wpList_lenC rfl rfl rfl Tryd.underlying55 L0.out ?_) | (with_reducible refine wpList_lenCG rfl rfl Tryd.underlying55 L1.out (by kernel_rfl) ?_) | (with_reducible refine wpList_lenRG rfl rfl Tryd.underlying22 L2.out (by kernel_rfl) ?_))
    go_ret
    exact ⟨rfl, by first | exact le_refl _ | exact le_drewN _ _⟩
  have q4 : (((nS : Nat) : Int) != ((nL : Nat) : Int) - 1) = false := by simp only [beq_iff_eq] at g4; simp; omega
  have G4 := hid g4; clear g4
  cases g5 : allB (rgOk xR) nL
  · have E : okP nL nL nS xR xL yS k a b c x y l r s = false := okP_sec (l04_noR g5)
    rw [g5] at HVR
    rw [E]
    clear E h0 h1 h2 p0 p1 R hf hg g5
    go_enter Tryd.func36, Tryd.ntmps36
    go_wp2_with (first | (with_reducible refine wpList_lenC rfl rfl rfl Tryd.underlying55 L0.out ?_) | (with_reducible refine wpList_lenCG rfl rfl Tryd.underlying55 L1.out (by kernel_rfl) ?_) | (with_reducible refine wpList_lenRG rfl rfl Tryd.underlying22 L2.out (by kernel_rfl) ?_) | (go_at_call 49; first | ((with_reducible refine (HVR.out _ (le_drewN _ _)).mono ?_); rintro e w' ⟨rfl, q, rfl⟩) | ((with_reducible refine (HVR.out _ (le_refl _)).mono ?_); rintro e w' ⟨rfl, q, rfl⟩) | ((with_reducible refine (HVL.out _ (le_drewN _ _)).mono ?_); rintro e w' ⟨rfl, q2, rfl⟩)))
    go_ret
    exact ⟨rfl, by first | exact le_refl _ | exact le_drewN _ _⟩
  have G5 := hid g5; rw [g5] at HVR; clear g5
  cases g6 : allB (rgOk xL) nL
  · have E : okP nL nL nS xR xL yS k a b c x y l r s = false := okP_sec (l04_noL g6)
    rw [g6] at HVL
    rw [E]
    clear E h0 h1 h2 p0 p1 R hf hg g6
    go_enter Tryd.func36, Tryd.ntmps36
    go_wp2_with (first | (with_reducible refine wpList_lenC rfl rfl rfl Tryd.underlying55 L0.out ?_) | (with_reducible refine wpList_lenCG rfl rfl Tryd.underlying55 L1.out (by kernel_rfl) ?_) | (with_reducible refine wpList_lenRG rfl rfl Tryd.underlying22 L2.out (by kernel_rfl) ?_) | (go_at_call 49; first | ((with_reducible refine (HVR.out _ (le_drewN _ _)).mono ?_); rintro e w' ⟨rfl, q, rfl⟩) | ((with_reducible refine (HVR.out _ (le_refl _)).mono ?_); rintro e w' ⟨rfl, q, rfl⟩) | ((with_reducible refine (HVL.out _ (le_drewN _ _)).mono ?_); rintro e w' ⟨rfl, q2, rfl⟩)))
    go_ret
    exact ⟨rfl, by first | exact le_refl _ | exact le_drewN _ _⟩
  have G6 := hid g6; rw [g6] at HVL; clear g6
  obtain ⟨b0, o0, k0, e0, hc0, hm0⟩ := h0.form.resolve_left (fun h => by have := h.2; omega)
  obtain ⟨b1, o1, k1, e1, hc1, hm1⟩ := h1.form.resolve_left (fun h => by have := h.2; omega)
  subst e0; subst e1
  have HA := hid (fun j (hj : j < nL) => p0.at h0 hj)
  have HB := hid (fun j (hj : j < nL) => p1.at h1 hj)
  have HX := hid h2
  have HF3 := hid hg; have HFF := hid hf
  unfold maxLen at hm0 hm1
  clear h0 h1 p0 p1 R h2 hf hg
  go_enter Tryd.func36, Tryd.ntmps36
  go_wp2_with (first | (with_reducible refine wpList_lenC rfl rfl rfl Tryd.underlying55 L0.out ?_) | (with_reducible refine wpList_lenCG rfl rfl Tryd.underlying55 L1.out (by kernel_rfl) ?_) | (with_reducible refine wpList_lenRG rfl rfl Tryd.underlying22 L2.out (by kernel_rfl) ?_) | (go_at_call 49; first | ((with_reducible refine (HVR.out _ (le_drewN _ _)).mono ?_); rintro e w' ⟨rfl, q, rfl⟩) | ((with_reducible refine (HVR.out _ (le_refl _)).mono ?_); rintro e w' ⟨rfl, q, rfl⟩) | ((with_reducible refine (HVL.out _ (le_drewN _ _)).mono ?_); rintro e w' ⟨rfl, q2, rfl⟩)))
  go_loopw [4] (fun i wr => ∃ j : Nat, j ≤ nL ∧ i = .int .i64 j ∧ Hid (∀ i, i < j → rgN xR i = rgN xL i) ∧ Hid (le w wr)) (fun i _ => nL - (intOf i).toNat)
  case atStart => exact ⟨0, by omega, rfl, fun i hi => absurd hi (by omega), le_drewN _ _⟩
  case round =>
    obtain ⟨j, hj, rfl, HJ, HL⟩ := hrel
    clear c0 c1 c2
    rename_i wr _
    by_cases hlt : j < nL
    · obtain ⟨u, d0, d1, hwu, hr⟩ := HA.out j hlt
      obtain ⟨v, f0, f1, hwv, hq⟩ := HB.out j hlt
      go_wp2_with fail
      refine region_freeD (E := leX) (fun _ _ _ _ => True) (by kernel_rfl) (by kernel_rfl) ?_
      refine wpFreeD_one rfl (.pointer (some ⟨g, 0, none⟩)) (fun w1 _ => by kernel_rfl) ?_
      simp only [Act.put, List.setIfInBounds_toArray, List.set_cons_succ, List.set_cons_zero]
      refine wpFreeD_one rfl (.pointer (some ⟨g, 0, none⟩)) (fun w1 _ => by kernel_rfl) ?_
      simp only [Act.put, List.setIfInBounds_toArray, List.set_cons_succ, List.set_cons_zero]
      refine wpFreeD_one rfl (.pointer (some ⟨g, 0, none⟩)) (fun w1 _ => by kernel_rfl) ?_
      simp only [Act.put, List.setIfInBounds_toArray, List.set_cons_succ, List.set_cons_zero]
      refine wpFreeD_load1 rfl rfl rfl (p := ⟨g, 0, none⟩) (fun w1 h1 => (Row.le HRow.out (le_trans HL.out (le_trans (le_drewN _ _) h1))).cell? 0) ukindRingSI ?_
      simp only [Act.put, List.setIfInBounds_toArray, List.set_cons_succ, List.set_cons_zero]
      refine wpFreeD_one rfl (.int .i64 j) (fun w1 _ => by kernel_rfl) ?_
      simp only [Act.put, List.setIfInBounds_toArray, List.set_cons_succ, List.set_cons_zero]
      refine wpFreeD_indexW0 rfl rfl rfl rfl Tryd.underlying55 uinfoRingI hlt ?_
      simp only [Act.put, List.setIfInBounds_toArray, List.set_cons_succ, List.set_cons_zero]
      refine wpFreeD_one rfl (.pointer (some ⟨b0, o0 + j * 2, none⟩)) (fun w1 _ => by kernel_rfl) ?_
      simp only [Act.put, List.setIfInBounds_toArray, List.set_cons_succ, List.set_cons_zero]
      refine wpFreeD_load1 rfl rfl rfl (p := ⟨b0, o0 + j * 2, none⟩) (fun w1 h1 => (Below.cell (le_trans HL.out (le_trans (le_drewN _ _) h1)) (cell_lt' d0)).trans d0) ukindFloat32S ?_
      simp only [Act.put, List.setIfInBounds_toArray, List.set_cons_succ, List.set_cons_zero]
      refine wpFreeD_lenR rfl rfl rfl Tryd.underlying22 hr ?_
      simp only [Act.put, List.setIfInBounds_toArray, List.set_cons_succ, List.set_cons_zero]
      refine wpFreeD_one rfl (.pointer (some ⟨g, 0, none⟩)) (fun w1 _ => by kernel_rfl) ?_
      simp only [Act.put, List.setIfInBounds_toArray, List.set_cons_succ, List.set_cons_zero]
      refine wpFreeD_one rfl (.pointer (some ⟨g, 0, none⟩)) (fun w1 _ => by kernel_rfl) ?_
      simp only [Act.put, List.setIfInBounds_toArray, List.set_cons_succ, List.set_cons_zero]
      refine wpFreeD_one rfl (.pointer (some ⟨g, 1, none⟩)) (fun w1 _ => by kernel_rfl) ?_
      simp only [Act.put, List.setIfInBounds_toArray, List.set_cons_succ, List.set_cons_zero]
      refine wpFreeD_load1 rfl rfl rfl (p := ⟨g, 1, none⟩) (fun w1 h1 => (Row.le HRow.out (le_trans HL.out (le_trans (le_drewN _ _) h1))).cell? 1) ukindRingSI ?_
      simp only [Act.put, List.setIfInBounds_toArray, List.set_cons_succ, List.set_cons_zero]
      refine wpFreeD_one rfl (.int .i64 j) (fun w1 _ => by kernel_rfl) ?_
      simp only [Act.put, List.setIfInBounds_toArray, List.set_cons_succ, List.set_cons_zero]
      refine wpFreeD_indexW0 rfl rfl rfl rfl Tryd.underlying55 uinfoRingI hlt ?_
      simp only [Act.put, List.setIfInBounds_toArray, List.set_cons_succ, List.set_cons_zero]
      refine wpFreeD_one rfl (.pointer (some ⟨b1, o1 + j * 2, none⟩)) (fun w1 _ => by kernel_rfl) ?_
      simp only [Act.put, List.setIfInBounds_toArray, List.set_cons_succ, List.set_cons_zero]
      refine wpFreeD_load1 rfl rfl rfl (p := ⟨b1, o1 + j * 2, none⟩) (fun w1 h1 => (Below.cell (le_trans HL.out (le_trans (le_drewN _ _) h1)) (cell_lt' f0)).trans f0) ukindFloat32S ?_
      simp only [Act.put, List.setIfInBounds_toArray, List.set_cons_succ, List.set_cons_zero]
      refine wpFreeD_lenR rfl rfl rfl Tryd.underlying22 hq ?_
      simp only [Act.put, List.setIfInBounds_toArray, List.set_cons_succ, List.set_cons_zero]
      refine wpFreeD_one rfl (.bool (((rgN xR j : Nat) : Int) != ((rgN xL j : Nat) : Int))) (fun w1 _ => by kernel_rfl) ?_
      simp only [Act.put, List.setIfInBounds_toArray, List.set_cons_succ, List.set_cons_zero]
      refine wpFreeD_nil (fun wR hwR _ => ?_)
      have HL1 := hid (le_trans HL.out (le_trans (le_drewN _ _) hwR))
      clear hwR d0 d1 f0 f1 hwu hwv hr hq
      by_cases h3 : rgN xR j = rgN xL j
      · have h4 : (((rgN xR j : Nat) : Int) != ((rgN xL j : Nat) : Int)) = false := by simp [h3]
        replace h3 := hid h3
        go_wp2
        go_roundw
        case rel => exact ⟨j + 1, by omega, by go_num, fun i hi => by rcases Nat.lt_or_ge i j with h | h; exact HJ.out i h; rw [show i = j by omega]; exact h3.out, HL1.out⟩
        case measure => simp [intOf]; omega
      · have h4 : (((rgN xR j : Nat) : Int) != ((rgN xL j : Nat) : Int)) = true := by simp; omega
        have E : okP nL nL nS xR xL yS k a b c x y l r s = false := okP_sec (l04_noN hlt h3)
        replace h3 := hid h3
        replace E := hid E
        go_wp2
        go_ret
        exact ⟨ret_b E.out.symm, HL1.out⟩
    · obtain rfl : j = nL := by omega
      have c2 := (Row.le HRow.out HL.out).cell? 2
      go_wp2
      go_loop [5] (fun i => ∃ q : Nat, q ≤ nS ∧ i = .int .i64 q ∧ Hid (∀ i, i < q → withinB (yS i) 3212836864 1065353216 = true)) (fun i => nS - (intOf i).toNat)
      case atStart => exact ⟨0, by omega, rfl, fun i hi => absurd hi (by omega)⟩
      case round =>
        obtain ⟨q, hq, rfl, HQ⟩ := hrel
        have n1 : nS + 1 = j := by have := G4.out; simpa using this
        by_cases hlt : q < nS
        · have hlt' : (q : Int) < (j : Int) - 1 := by omega
          obtain ⟨aS, kS, zS, rfl, hcS, hmS, hzS⟩ := HX.out.raw (by omega)
          unfold maxLen at hmS
          obtain ⟨z1, z2, z3⟩ := hzS q hlt
          have cz := (Below.cell HL.out (cell_lt' z1)).trans z1
          have hfy := withinB_can (l := 3212836864) (g := 1065353216) z3
          replace n1 := hid n1
          clear z1 z2 z3 hzS
          obtain ⟨T, hT⟩ : ∃ T, T = withinB (yS q) 3212836864 1065353216 := ⟨_, rfl⟩
          rw [← hT] at hfy
          unfold withinB at hfy
          replace hT := hid hT
          rcases h5 : FloatKind.f32.format.order (zS q) 3212836864 with _ | (_ | _ | _) <;> rcases h6 : FloatKind.f32.format.order (zS q) 1065353216 with _ | (_ | _ | _)
          all_goals
            rw [h5, h6] at hfy
            first
            | (replace hfy : T = true := hfy.symm.trans (by decide)
               replace hT := hid (hT.out.symm.trans hfy)
               clear hfy
               go_wp2
               go_round
               case rel => exact ⟨q + 1, by omega, by go_num, fun i hi => by rcases Nat.lt_or_ge i q with h | h; exact HQ.out i h; rw [show i = q by omega]; exact hT.out⟩
               case measure => simp [intOf]; omega)
            | (replace hfy : T = false := hfy.symm.trans (by decide)
               replace hT := hid (hT.out.symm.trans hfy)
               clear hfy
               go_wp2
               go_ret
               exact ⟨ret_b (by unfold okP; rw [show scB yS nS = false from allB_no (p := fun i => withinB (yS i) 3212836864 1065353216) hlt hT.out]; simp), HL.out⟩)
        · obtain rfl : q = nS := by omega
          have GS := hid (show scB yS q = true from allB_yes HQ.out)
          have GN := hid (l04_lens G5.out G6.out HJ.out)
          have hRw : Hid (∀ w1, le wr w1 → Row w1 g 57 #[(.slice (some ⟨b0, o0, none⟩) j k0), (.slice (some ⟨b1, o1, none⟩) j k1), v2, .int .i64 k, .float .f32 a, .float .f32 b, .float .f32 c, .float .f32 x, .float .f32 y, .bool op, .float .f32 l, .float .f32 r, .float .f32 s]) := fun w1 h1 => Row.le HRow.out (le_trans HL.out h1)
          have HOK := hid (fun (w' : World) (hl : le wr w') => s_OkAt k a b c x y g 3 w' ⟨(hRw.out w' hl).cell? 3, fun i hi => by match i, hi with | 0, _ => exact (hRw.out w' hl).cell? 4 | 1, _ => exact (hRw.out w' hl).cell? 5 | 2, _ => exact (hRw.out w' hl).cell? 6, fun i hi => by match i, hi with | 0, _ => exact (hRw.out w' hl).cell? 7 | 1, _ => exact (hRw.out w' hl).cell? 8⟩)
          have HF := hid HF3.out
          clear c2
          cases gF : okF k a b c x y
          · have E := hid (show okP j j q xR xL yS k a b c x y l r s = false by unfold okP; rw [gF]; simp)
            rw [gF] at HOK
            clear gF
            go_wp2_with fail
            refine region_freeD (E := leX) (fun f _ _ v => v = .bool false) (by kernel_rfl) (by kernel_rfl) ?_
            refine wpFreeD_one rfl (.pointer (some ⟨g, 0, none⟩)) (fun w1 _ => by kernel_rfl) ?_
            simp only [Act.put, List.setIfInBounds_toArray, List.set_cons_succ, List.set_cons_zero]
            refine wpFreeD_one rfl (.pointer (some ⟨g, 0, none⟩)) (fun w1 _ => by kernel_rfl) ?_
            simp only [Act.put, List.setIfInBounds_toArray, List.set_cons_succ, List.set_cons_zero]
            refine wpFreeD_one rfl (.pointer (some ⟨g, 3, none⟩)) (fun w1 _ => by kernel_rfl) ?_
            simp only [Act.put, List.setIfInBounds_toArray, List.set_cons_succ, List.set_cons_zero]
            refine wpFreeD_callB rfl rfl Tryd.func50 (by kernel_rfl) (by kernel_rfl) (args := #[.pointer (some ⟨g, 3, none⟩)]) (by simp [Act.eval]) (fun v w1 w2 hw hv => hv) (fun w1 hw1 _ => (HOK.out w1 (le_trans (le_drewN _ _) hw1)).mono ?_) ?_
            · rintro e w2 ⟨rfl, m, rfl⟩
              exact ⟨_, rfl, le_drewN _ _, rfl⟩
            rintro v ⟨_, _, _, hv⟩
            skip --FF
            subst hv
            simp only [Act.put, List.setIfInBounds_toArray, List.set_cons_succ, List.set_cons_zero]
            refine wpFreeD_one rfl (.bool false) (fun w1 _ => by kernel_rfl) ?_
            simp only [Act.put, List.setIfInBounds_toArray, List.set_cons_succ, List.set_cons_zero]
            refine wpFreeD_skip (by kernel_rfl) ?_
            simp only [Act.put, List.setIfInBounds_toArray, List.set_cons_succ, List.set_cons_zero]
            refine wpFreeD_skip (by kernel_rfl) ?_
            simp only [Act.put, List.setIfInBounds_toArray, List.set_cons_succ, List.set_cons_zero]
            refine wpFreeD_skip (by kernel_rfl) ?_
            simp only [Act.put, List.setIfInBounds_toArray, List.set_cons_succ, List.set_cons_zero]
            refine wpFreeD_skip (by kernel_rfl) ?_
            simp only [Act.put, List.setIfInBounds_toArray, List.set_cons_succ, List.set_cons_zero]
            refine wpFreeD_skip (by kernel_rfl) ?_
            simp only [Act.put, List.setIfInBounds_toArray, List.set_cons_succ, List.set_cons_zero]
            refine wpFreeD_skip (by kernel_rfl) ?_
            simp only [Act.put, List.setIfInBounds_toArray, List.set_cons_succ, List.set_cons_zero]
            refine wpFreeD_one rfl (.bool false) (fun w1 _ => by kernel_rfl) ?_
            simp only [Act.put, List.setIfInBounds_toArray, List.set_cons_succ, List.set_cons_zero]
            refine wpFreeD_one rfl (.bool false) (fun w1 _ => by kernel_rfl) ?_
            simp only [Act.put, List.setIfInBounds_toArray, List.set_cons_succ, List.set_cons_zero]
            refine wpFreeD_skip (by kernel_rfl) ?_
            simp only [Act.put, List.setIfInBounds_toArray, List.set_cons_succ, List.set_cons_zero]
            refine wpFreeD_skip (by kernel_rfl) ?_
            simp only [Act.put, List.setIfInBounds_toArray, List.set_cons_succ, List.set_cons_zero]
            refine wpFreeD_skip (by kernel_rfl) ?_
            simp only [Act.put, List.setIfInBounds_toArray, List.set_cons_succ, List.set_cons_zero]
            refine wpFreeD_skip (by kernel_rfl) ?_
            simp only [Act.put, List.setIfInBounds_toArray, List.set_cons_succ, List.set_cons_zero]
            refine wpFreeD_skip (by kernel_rfl) ?_
            simp only [Act.put, List.setIfInBounds_toArray, List.set_cons_succ, List.set_cons_zero]
            refine wpFreeD_skip (by kernel_rfl) ?_
            simp only [Act.put, List.setIfInBounds_toArray, List.set_cons_succ, List.set_cons_zero]
            refine wpFreeD_skip (by kernel_rfl) ?_
            simp only [Act.put, List.setIfInBounds_toArray, List.set_cons_succ, List.set_cons_zero]
            refine wpFreeD_skip (by kernel_rfl) ?_
            simp only [Act.put, List.setIfInBounds_toArray, List.set_cons_succ, List.set_cons_zero]
            refine wpFreeD_skip (by kernel_rfl) ?_
            simp only [Act.put, List.setIfInBounds_toArray, List.set_cons_succ, List.set_cons_zero]
            refine wpFreeD_skip (by kernel_rfl) ?_
            simp only [Act.put, List.setIfInBounds_toArray, List.set_cons_succ, List.set_cons_zero]
            refine wpFreeD_skip (by kernel_rfl) ?_
            simp only [Act.put, List.setIfInBounds_toArray, List.set_cons_succ, List.set_cons_zero]
            refine wpFreeD_skip (by kernel_rfl) ?_
            simp only [Act.put, List.setIfInBounds_toArray, List.set_cons_succ, List.set_cons_zero]
            refine wpFreeD_skip (by kernel_rfl) ?_
            simp only [Act.put, List.setIfInBounds_toArray, List.set_cons_succ, List.set_cons_zero]
            refine wpFreeD_skip (by kernel_rfl) ?_
            simp only [Act.put, List.setIfInBounds_toArray, List.set_cons_succ, List.set_cons_zero]
            refine wpFreeD_one rfl (.bool false) (fun w1 _ => by kernel_rfl) ?_
            simp only [Act.put, List.setIfInBounds_toArray, List.set_cons_succ, List.set_cons_zero]
            refine wpFreeD_one rfl (.bool false) (fun w1 _ => by kernel_rfl) ?_
            simp only [Act.put, List.setIfInBounds_toArray, List.set_cons_succ, List.set_cons_zero]
            refine wpFreeD_nil (fun wR hwR _ => ?_)
            have HL1 := hid (le_trans HL.out (le_trans (le_drewN _ _) hwR))
            clear hwR
            go_wp2
            go_ret
            exact ⟨ret_b E.out.symm, HL1.out⟩
          cases gK : (k == 1)
          · have E := hid (show okP j j q xR xL yS k a b c x y l r s = false by unfold okP; rw [gK]; simp)
            rw [gF] at HOK
            clear gF
            go_wp2_with fail
            refine region_freeD (E := leX) (fun f _ _ v => v = .bool true) (by kernel_rfl) (by kernel_rfl) ?_
            refine wpFreeD_one rfl (.pointer (some ⟨g, 0, none⟩)) (fun w1 _ => by kernel_rfl) ?_
            simp only [Act.put, List.setIfInBounds_toArray, List.set_cons_succ, List.set_cons_zero]
            refine wpFreeD_one rfl (.pointer (some ⟨g, 0, none⟩)) (fun w1 _ => by kernel_rfl) ?_
            simp only [Act.put, List.setIfInBounds_toArray, List.set_cons_succ, List.set_cons_zero]
            refine wpFreeD_one rfl (.pointer (some ⟨g, 3, none⟩)) (fun w1 _ => by kernel_rfl) ?_
            simp only [Act.put, List.setIfInBounds_toArray, List.set_cons_succ, List.set_cons_zero]
            refine wpFreeD_callB rfl rfl Tryd.func50 (by kernel_rfl) (by kernel_rfl) (args := #[.pointer (some ⟨g, 3, none⟩)]) (by simp [Act.eval]) (fun v w1 w2 hw hv => hv) (fun w1 hw1 _ => (HOK.out w1 (le_trans (le_drewN _ _) hw1)).mono ?_) ?_
            · rintro e w2 ⟨rfl, m, rfl⟩
              exact ⟨_, rfl, le_drewN _ _, rfl⟩
            rintro v ⟨_, _, _, hv⟩
            skip
            subst hv
            simp only [Act.put, List.setIfInBounds_toArray, List.set_cons_succ, List.set_cons_zero]
            refine wpFreeD_one rfl (.bool true) (fun w1 _ => by kernel_rfl) ?_
            simp only [Act.put, List.setIfInBounds_toArray, List.set_cons_succ, List.set_cons_zero]
            refine wpFreeD_oneW (by kernel_rfl) (.pointer (some ⟨g, 0, none⟩)) (fun w1 _ => by kernel_rfl) ?_
            simp only [Act.put, List.setIfInBounds_toArray, List.set_cons_succ, List.set_cons_zero]
            refine wpFreeD_oneW (by kernel_rfl) (.pointer (some ⟨g, 0, none⟩)) (fun w1 _ => by kernel_rfl) ?_
            simp only [Act.put, List.setIfInBounds_toArray, List.set_cons_succ, List.set_cons_zero]
            refine wpFreeD_oneW (by kernel_rfl) (.pointer (some ⟨g, 3, none⟩)) (fun w1 _ => by kernel_rfl) ?_
            simp only [Act.put, List.setIfInBounds_toArray, List.set_cons_succ, List.set_cons_zero]
            refine wpFreeD_oneW (by kernel_rfl) (.pointer (some ⟨g, 3, none⟩)) (fun w1 _ => by kernel_rfl) ?_
            simp only [Act.put, List.setIfInBounds_toArray, List.set_cons_succ, List.set_cons_zero]
            refine wpFreeD_load1W (by kernel_rfl) rfl rfl (p := ⟨g, 3, none⟩) (fun w1 h1 => (hRw.out w1 (le_trans (le_drewN _ _) h1)).cell? 3) ukindInt64 ?_
            simp only [Act.put, List.setIfInBounds_toArray, List.set_cons_succ, List.set_cons_zero]
            refine wpFreeD_oneW (by kernel_rfl) (.bool (k == 1)) (fun w1 _ => by kernel_rfl) ?_
            simp only [Act.put, List.setIfInBounds_toArray, List.set_cons_succ, List.set_cons_zero]
            rw [gK]
            refine wpFreeD_one rfl (.bool false) (fun w1 _ => by kernel_rfl) ?_
            simp only [Act.put, List.setIfInBounds_toArray, List.set_cons_succ, List.set_cons_zero]
            refine wpFreeD_one rfl (.bool false) (fun w1 _ => by kernel_rfl) ?_
            simp only [Act.put, List.setIfInBounds_toArray, List.set_cons_succ, List.set_cons_zero]
            refine wpFreeD_skip (by kernel_rfl) ?_
            simp only [Act.put, List.setIfInBounds_toArray, List.set_cons_succ, List.set_cons_zero]
            refine wpFreeD_skip (by kernel_rfl) ?_
            simp only [Act.put, List.setIfInBounds_toArray, List.set_cons_succ, List.set_cons_zero]
            refine wpFreeD_skip (by kernel_rfl) ?_
            simp only [Act.put, List.setIfInBounds_toArray, List.set_cons_succ, List.set_cons_zero]
            refine wpFreeD_skip (by kernel_rfl) ?_
            simp only [Act.put, List.setIfInBounds_toArray, List.set_cons_succ, List.set_cons_zero]
            refine wpFreeD_skip (by kernel_rfl) ?_
            simp only [Act.put, List.setIfInBounds_toArray, List.set_cons_succ, List.set_cons_zero]
            refine wpFreeD_skip (by kernel_rfl) ?_
            simp only [Act.put, List.setIfInBounds_toArray, List.set_cons_succ, List.set_cons_zero]
            refine wpFreeD_skip (by kernel_rfl) ?_
            simp only [Act.put, List.setIfInBounds_toArray, List.set_cons_succ, List.set_cons_zero]
            refine wpFreeD_skip (by kernel_rfl) ?_
            simp only [Act.put, List.setIfInBounds_toArray, List.set_cons_succ, List.set_cons_zero]
            refine wpFreeD_skip (by kernel_rfl) ?_
            simp only [Act.put, List.setIfInBounds_toArray, List.set_cons_succ, List.set_cons_zero]
            refine wpFreeD_skip (by kernel_rfl) ?_
            simp only [Act.put, List.setIfInBounds_toArray, List.set_cons_succ, List.set_cons_zero]
            refine wpFreeD_skip (by kernel_rfl) ?_
            simp only [Act.put, List.setIfInBounds_toArray, List.set_cons_succ, List.set_cons_zero]
            refine wpFreeD_skip (by kernel_rfl) ?_
            simp only [Act.put, List.setIfInBounds_toArray, List.set_cons_succ, List.set_cons_zero]
            refine wpFreeD_skip (by kernel_rfl) ?_
            simp only [Act.put, List.setIfInBounds_toArray, List.set_cons_succ, List.set_cons_zero]
            refine wpFreeD_skip (by kernel_rfl) ?_
            simp only [Act.put, List.setIfInBounds_toArray, List.set_cons_succ, List.set_cons_zero]
            refine wpFreeD_one rfl (.bool false) (fun w1 _ => by kernel_rfl) ?_
            simp only [Act.put, List.setIfInBounds_toArray, List.set_cons_succ, List.set_cons_zero]
            refine wpFreeD_one rfl (.bool false) (fun w1 _ => by kernel_rfl) ?_
            simp only [Act.put, List.setIfInBounds_toArray, List.set_cons_succ, List.set_cons_zero]
            refine wpFreeD_nil (fun wR hwR _ => ?_)
            have HL1 := hid (le_trans HL.out (le_trans (le_drewN _ _) hwR))
            clear hwR
            go_wp2
            go_ret
            exact ⟨ret_b E.out.symm, HL1.out⟩
          · have hk1 : k = 1 := by simpa using gK
            subst hk1
            have E := hid (show okP j j q xR xL yS 1 a b c x y l r s = (fin l && fin r && fin s) by unfold okP; rw [gF, GS.out, GN.out, G4.out, decide_eq_true (show 1 ≤ j by omega), decide_eq_true (show j ≤ 3 by omega)]; simp)
            rw [gF] at HOK
            clear gF gK
            go_wp2_with fail
            refine region_freeD (E := leX) (fun f _ _ v => if f = 50 then v = .bool true else v = .bool (fin l && fin r && fin s)) (by kernel_rfl) (by kernel_rfl) ?_
            refine wpFreeD_one rfl (.pointer (some ⟨g, 0, none⟩)) (fun w1 _ => by kernel_rfl) ?_
            simp only [Act.put, List.setIfInBounds_toArray, List.set_cons_succ, List.set_cons_zero]
            refine wpFreeD_one rfl (.pointer (some ⟨g, 0, none⟩)) (fun w1 _ => by kernel_rfl) ?_
            simp only [Act.put, List.setIfInBounds_toArray, List.set_cons_succ, List.set_cons_zero]
            refine wpFreeD_one rfl (.pointer (some ⟨g, 3, none⟩)) (fun w1 _ => by kernel_rfl) ?_
            simp only [Act.put, List.setIfInBounds_toArray, List.set_cons_succ, List.set_cons_zero]
            refine wpFreeD_callB rfl rfl Tryd.func50 (by kernel_rfl) (by kernel_rfl) (args := #[.pointer (some ⟨g, 3, none⟩)]) (by simp [Act.eval]) (fun v w1 w2 hw hv => hv) (fun w1 hw1 _ => (HOK.out w1 (le_trans (le_drewN _ _) hw1)).mono ?_) ?_
            · rintro e w2 ⟨rfl, m, rfl⟩
              exact ⟨_, rfl, le_drewN _ _, by simp only [if_true]⟩
            rintro v ⟨_, _, _, hv⟩
            simp only [if_true] at hv
            subst hv
            simp only [Act.put, List.setIfInBounds_toArray, List.set_cons_succ, List.set_cons_zero]
            refine wpFreeD_one rfl (.bool true) (fun w1 _ => by kernel_rfl) ?_
            simp only [Act.put, List.setIfInBounds_toArray, List.set_cons_succ, List.set_cons_zero]
            refine wpFreeD_oneW (by kernel_rfl) (.pointer (some ⟨g, 0, none⟩)) (fun w1 _ => by kernel_rfl) ?_
            simp only [Act.put, List.setIfInBounds_toArray, List.set_cons_succ, List.set_cons_zero]
            refine wpFreeD_oneW (by kernel_rfl) (.pointer (some ⟨g, 0, none⟩)) (fun w1 _ => by kernel_rfl) ?_
            simp only [Act.put, List.setIfInBounds_toArray, List.set_cons_succ, List.set_cons_zero]
            refine wpFreeD_oneW (by kernel_rfl) (.pointer (some ⟨g, 3, none⟩)) (fun w1 _ => by kernel_rfl) ?_
            simp only [Act.put, List.setIfInBounds_toArray, List.set_cons_succ, List.set_cons_zero]
            refine wpFreeD_oneW (by kernel_rfl) (.pointer (some ⟨g, 3, none⟩)) (fun w1 _ => by kernel_rfl) ?_
            simp only [Act.put, List.setIfInBounds_toArray, List.set_cons_succ, List.set_cons_zero]
            refine wpFreeD_load1W (by kernel_rfl) rfl rfl (p := ⟨g, 3, none⟩) (fun w1 h1 => (hRw.out w1 (le_trans (le_drewN _ _) h1)).cell? 3) ukindInt64 ?_
            simp only [Act.put, List.setIfInBounds_toArray, List.set_cons_succ, List.set_cons_zero]
            refine wpFreeD_oneW (by kernel_rfl) (.bool true) (fun w1 _ => by kernel_rfl) ?_
            simp only [Act.put, List.setIfInBounds_toArray, List.set_cons_succ, List.set_cons_zero]
            refine wpFreeD_one rfl (.bool true) (fun w1 _ => by kernel_rfl) ?_
            simp only [Act.put, List.setIfInBounds_toArray, List.set_cons_succ, List.set_cons_zero]
            refine wpFreeD_one rfl (.bool true) (fun w1 _ => by kernel_rfl) ?_
            simp only [Act.put, List.setIfInBounds_toArray, List.set_cons_succ, List.set_cons_zero]
            refine wpFreeD_oneW (by kernel_rfl) (.pointer (some ⟨g, 0, none⟩)) (fun w1 _ => by kernel_rfl) ?_
            simp only [Act.put, List.setIfInBounds_toArray, List.set_cons_succ, List.set_cons_zero]
            refine wpFreeD_oneW (by kernel_rfl) (.pointer (some ⟨g, 0, none⟩)) (fun w1 _ => by kernel_rfl) ?_
            simp only [Act.put, List.setIfInBounds_toArray, List.set_cons_succ, List.set_cons_zero]
            refine wpFreeD_oneW (by kernel_rfl) (.pointer (some ⟨g, 10, none⟩)) (fun w1 _ => by kernel_rfl) ?_
            simp only [Act.put, List.setIfInBounds_toArray, List.set_cons_succ, List.set_cons_zero]
            refine wpFreeD_load1W (by kernel_rfl) rfl rfl (p := ⟨g, 10, none⟩) (fun w1 h1 => (hRw.out w1 (le_trans (le_drewN _ _) h1)).cell? 10) ukindFloat32 ?_
            simp only [Act.put, List.setIfInBounds_toArray, List.set_cons_succ, List.set_cons_zero]
            refine wpFreeD_oneW (by kernel_rfl) (.pointer (some ⟨g, 0, none⟩)) (fun w1 _ => by kernel_rfl) ?_
            simp only [Act.put, List.setIfInBounds_toArray, List.set_cons_succ, List.set_cons_zero]
            refine wpFreeD_oneW (by kernel_rfl) (.pointer (some ⟨g, 0, none⟩)) (fun w1 _ => by kernel_rfl) ?_
            simp only [Act.put, List.setIfInBounds_toArray, List.set_cons_succ, List.set_cons_zero]
            refine wpFreeD_oneW (by kernel_rfl) (.pointer (some ⟨g, 11, none⟩)) (fun w1 _ => by kernel_rfl) ?_
            simp only [Act.put, List.setIfInBounds_toArray, List.set_cons_succ, List.set_cons_zero]
            refine wpFreeD_load1W (by kernel_rfl) rfl rfl (p := ⟨g, 11, none⟩) (fun w1 h1 => (hRw.out w1 (le_trans (le_drewN _ _) h1)).cell? 11) ukindFloat32 ?_
            simp only [Act.put, List.setIfInBounds_toArray, List.set_cons_succ, List.set_cons_zero]
            refine wpFreeD_oneW (by kernel_rfl) (.pointer (some ⟨g, 0, none⟩)) (fun w1 _ => by kernel_rfl) ?_
            simp only [Act.put, List.setIfInBounds_toArray, List.set_cons_succ, List.set_cons_zero]
            refine wpFreeD_oneW (by kernel_rfl) (.pointer (some ⟨g, 0, none⟩)) (fun w1 _ => by kernel_rfl) ?_
            simp only [Act.put, List.setIfInBounds_toArray, List.set_cons_succ, List.set_cons_zero]
            refine wpFreeD_oneW (by kernel_rfl) (.pointer (some ⟨g, 12, none⟩)) (fun w1 _ => by kernel_rfl) ?_
            simp only [Act.put, List.setIfInBounds_toArray, List.set_cons_succ, List.set_cons_zero]
            refine wpFreeD_load1W (by kernel_rfl) rfl rfl (p := ⟨g, 12, none⟩) (fun w1 h1 => (hRw.out w1 (le_trans (le_drewN _ _) h1)).cell? 12) ukindFloat32 ?_
            simp only [Act.put, List.setIfInBounds_toArray, List.set_cons_succ, List.set_cons_zero]
            refine wpFreeD_madeW (by kernel_rfl) (fun b => .slice (some ⟨b, 0, none⟩) 3 3) 25 #[.float .f32 l, .float .f32 r, .float .f32 s] (fun w1 => by kernel_rfl) (fun bN => ?_)
            simp only [Act.put, List.setIfInBounds_toArray, List.set_cons_succ, List.set_cons_zero]
            refine wpFreeD_callW (by kernel_rfl) rfl Tryd.func51 (by kernel_rfl) (by kernel_rfl) (args := #[.slice (some ⟨bN, 0, none⟩) 3 3]) (by simp [Act.eval]) (fun v w1 w2 hw hv => by simp only [show ¬ (51 = 50) by decide, if_false] at hv ⊢; exact hv) (fun w1 hw1 hbe => ?_) ?_
            · obtain ⟨b', e1, hrow⟩ := (hbe ⟨25, Ground.data⟩ (by simp) (by kernel_rfl)).2 rfl
              obtain rfl : bN = b' := by simpa using e1
              have hq : RdS w1 (bN + 1) (.slice (some ⟨bN, 0, none⟩) 3 3) (three l r s) 3 := .inr ⟨⟨bN, 0, none⟩, 3, rfl, Nat.le_refl _, by decide, fun i hi => ⟨Nat.lt_succ_self _, by rw [add_none, Nat.zero_add]; match i, hi with
                | 0, _ => exact ⟨l, hrow.cell? 0, HF.out.1, rfl⟩
                | 1, _ => exact ⟨r, hrow.cell? 1, HF.out.2.1, rfl⟩
                | 2, _ => exact ⟨s, hrow.cell? 2, HF.out.2.2, rfl⟩⟩⟩
              refine (s_l04All _ _ _ _ w1 hq).mono ?_
              rintro e w2 ⟨rfl, m, rfl⟩
              exact ⟨_, rfl, le_drewN _ _, by simp only [show ¬ (51 = 50) by decide, if_false]; rw [fin3]⟩
            rintro v ⟨_, _, _, hv⟩
            simp only [show ¬ (51 = 50) by decide, if_false] at hv
            subst hv
            simp only [Act.put, List.setIfInBounds_toArray, List.set_cons_succ, List.set_cons_zero]
            refine wpFreeD_one rfl (.bool (fin l && fin r && fin s)) (fun w1 _ => by kernel_rfl) ?_
            simp only [Act.put, List.setIfInBounds_toArray, List.set_cons_succ, List.set_cons_zero]
            refine wpFreeD_one rfl (.bool (fin l && fin r && fin s)) (fun w1 _ => by kernel_rfl) ?_
            simp only [Act.put, List.setIfInBounds_toArray, List.set_cons_succ, List.set_cons_zero]
            refine wpFreeD_nil (fun wR hwR _ => ?_)
            have HL1 := hid (le_trans HL.out (le_trans (le_drewN _ _) hwR))
            clear hwR
            go_wp2
            go_ret
            exact ⟨ret_b E.out.symm, HL1.out⟩
theorem pipe_data {cs : List CD} (h : HasShL shPipe cs) : ∃ (nR nL nS : Nat) (xR xL xS : Nat → CD) (k : Int) (a b c x y : Nat) (op : Bool) (l r s : Nat), cs = [.sl 2 nR xR, .sl 2 nL xL, .sl 1 nS xS, .int .i64 k, .flt .f32 a, .flt .f32 b, .flt .f32 c, .flt .f32 x, .flt .f32 y, .bool op, .flt .f32 l, .flt .f32 r, .flt .f32 s] ∧ RgsOk (fun i => (xR i).cn) nR ∧ RgsOk (fun i => (xL i).cn) nL ∧ (∀ i, i < nS → (xS i).cn.flk = some .f32) := by
  obtain ⟨c0, cs, rfl, q0, h⟩ := h.inv
  obtain ⟨c1, cs, rfl, q1, h⟩ := h.inv
  obtain ⟨c2, cs, rfl, q2, h⟩ := h.inv
  obtain ⟨c3, cs, rfl, q3, h⟩ := h.inv
  obtain ⟨c4, cs, rfl, q4, h⟩ := h.inv
  obtain ⟨c5, cs, rfl, q5, h⟩ := h.inv
  obtain ⟨c6, cs, rfl, q6, h⟩ := h.inv
  obtain ⟨c7, cs, rfl, q7, h⟩ := h.inv
  obtain ⟨c8, cs, rfl, q8, h⟩ := h.inv
  obtain ⟨c9, cs, rfl, q9, h⟩ := h.inv
  obtain ⟨c10, cs, rfl, q10, h⟩ := h.inv
  obtain ⟨c11, cs, rfl, q11, h⟩ := h.inv
  obtain ⟨c12, cs, rfl, q12, h⟩ := h.inv
  obtain rfl := h.inv0
  obtain ⟨nR, xR, rfl, r0⟩ := q0
  obtain ⟨nL, xL, rfl, r1⟩ := q1
  obtain ⟨nS, xS, rfl, r2⟩ := q2
  obtain ⟨k, rfl⟩ := q3
  obtain ⟨a, rfl⟩ := q4
  obtain ⟨b, rfl⟩ := q5
  obtain ⟨c, rfl⟩ := q6
  obtain ⟨x, rfl⟩ := q7
  obtain ⟨y, rfl⟩ := q8
  obtain ⟨op, rfl⟩ := q9
  obtain ⟨l, rfl⟩ := q10
  obtain ⟨r, rfl⟩ := q11
  obtain ⟨s, rfl⟩ := q12
  refine ⟨nR, nL, nS, xR, xL, xS, k, a, b, c, x, y, op, l, r, s, rfl, rgs_ok (fun i hi j hj => (r0 i hi j hj).ok.cn) ⟨_, rfl, rfl⟩ rfl, rgs_ok (fun i hi j hj => (r1 i hi j hj).ok.cn) ⟨_, rfl, rfl⟩ rfl, fun i hi => ?_⟩
  rw [CD.flk_cn]
  exact ShOk.flts (fun i hi j hj => (r2 i hi j hj).ok) rfl i hi
theorem pipe_open {nR nL nS : Nat} {xR xL xS : Nat → CD} {k : Int} {a b c x y : Nat} {op : Bool} {l r s : Nat} {w : World} {B : Nat} {u : List Value} (h : RdLN w B (([.sl 2 nR xR, .sl 2 nL xL, .sl 1 nS xS, .int .i64 k, .flt .f32 a, .flt .f32 b, .flt .f32 c, .flt .f32 x, .flt .f32 y, .bool op, .flt .f32 l, .flt .f32 r, .flt .f32 s] : List CD).map CD.cp) u) (hS : ∀ i, i < nS → (xS i).cn.flk = some .f32) : ∃ v0 v1 v2 : Value, u = [v0, v1, v2, .int .i64 k, .float .f32 a, .float .f32 b, .float .f32 c, .float .f32 x, .float .f32 y, .bool op, .float .f32 l, .float .f32 r, .float .f32 s] ∧ (CD.sl 2 nR (fun i => (xR i).cn)).RdN w B v0 ∧ (CD.sl 2 nL (fun i => (xL i).cn)).RdN w B v1 ∧ RdS w B v2 (fun i => (xS i).cn.fx) nS ∧ (fits .f32 a ∧ fits .f32 b ∧ fits .f32 c ∧ fits .f32 x ∧ fits .f32 y) ∧ (fits .f32 l ∧ fits .f32 r ∧ fits .f32 s) := by
  simp only [List.map_cons, List.map_nil] at h
  obtain ⟨v0, u0, rfl, q0, hh0⟩ := h.inv
  obtain ⟨v1, u1, rfl, q1, hh1⟩ := hh0.inv
  obtain ⟨v2, u2, rfl, q2, hh2⟩ := hh1.inv
  obtain ⟨v3, u3, rfl, q3, hh3⟩ := hh2.inv
  obtain ⟨v4, u4, rfl, q4, hh4⟩ := hh3.inv
  obtain ⟨v5, u5, rfl, q5, hh5⟩ := hh4.inv
  obtain ⟨v6, u6, rfl, q6, hh6⟩ := hh5.inv
  obtain ⟨v7, u7, rfl, q7, hh7⟩ := hh6.inv
  obtain ⟨v8, u8, rfl, q8, hh8⟩ := hh7.inv
  obtain ⟨v9, u9, rfl, q9, hh9⟩ := hh8.inv
  obtain ⟨v10, u10, rfl, q10, hh10⟩ := hh9.inv
  obtain ⟨v11, u11, rfl, q11, hh11⟩ := hh10.inv
  obtain ⟨v12, u12, rfl, q12, hh12⟩ := hh11.inv
  obtain rfl := hh12.inv0
  obtain ⟨rfl, _⟩ := q3
  obtain ⟨rfl, f4⟩ := q4
  obtain ⟨rfl, f5⟩ := q5
  obtain ⟨rfl, f6⟩ := q6
  obtain ⟨rfl, f7⟩ := q7
  obtain ⟨rfl, f8⟩ := q8
  obtain ⟨rfl, f10⟩ := q10
  obtain ⟨rfl, f11⟩ := q11
  obtain ⟨rfl, f12⟩ := q12
  obtain rfl := q9
  exact ⟨v0, v1, v2, rfl, q0, q1, CD.Rd.rdf (CD.RdN.rd q2) hS, ⟨f4, f5, f6, f7, f8⟩, f10, f11, f12⟩
end Go.Proofs.YtjihkfemejhllaaDoor

/- 'indicesAt'. -/
namespace Go.Proofs.YtjihkfemejhllaaDoor
open Go.RowKit Go.Fk
end Go.Proofs.YtjihkfemejhllaaDoor

/- Places of pipes; 'PressureAt' of both. -/
namespace Go.Fk
open Go Go.RowKit
/-- Is there such a place? -/
def hasP (xR : Nat → CD) (n : Nat) (t p : Int) : Bool := decide (0 ≤ t) && decide (t < n) && decide (0 ≤ p) && decide (p < rgN xR t.toNat)
/-- The sum at a place. -/
def prsP (xR xL : Nat → CD) (t p : Nat) : Nat := fop .add .f32 (rgX xR t (((rgK xR t).toNat + rgN xR t - 1 - p) % rgN xR t)) (rgX xL t (((rgK xL t).toNat + p) % rgN xR t))
theorem ring_nat {n : Nat} {k : Int} (h : okRing n k = true) : 1 ≤ n ∧ n ≤ 1024 ∧ ∃ j : Nat, k = j ∧ j < n := by
  have := okRing_iff.1 h
  exact ⟨this.1, this.2.1, k.toNat, by omega, by omega⟩
set_option maxRecDepth 100000 in
set_option maxHeartbeats 2000000 in
theorem hasP_nat {xR : Nat → CD} {n : Nat} {t p : Int} (h : hasP xR n t p = true) : ∃ t' p' : Nat, t = t' ∧ p = p' ∧ t' < n ∧ p' < rgN xR t' := by
  unfold hasP at h
  simp only [Bool.and_eq_true, decide_eq_true_eq] at h
  obtain ⟨⟨⟨h1, h2⟩, h3⟩, h4⟩ := h
  exact ⟨t.toNat, p.toNat, by omega, by omega, by omega, by omega⟩
theorem okP_parts {nR nL nS : Nat} {xR xL : Nat → CD} {yS : Nat → Nat} {k : Int} {a b c x y l r s : Nat} (h : okP nR nL nS xR xL yS k a b c x y l r s = true) : 1 ≤ nR ∧ nR ≤ 3 ∧ nL = nR ∧ ∀ t, t < nR → rgN xL t = rgN xR t ∧ rgN xR t ≤ 1024 ∧ ∃ jR jL : Nat, rgK xR t = jR ∧ rgK xL t = jL ∧ jR < rgN xR t ∧ jL < rgN xR t := by
  unfold okP at h
  simp only [Bool.and_eq_true, decide_eq_true_eq, beq_iff_eq] at h
  obtain ⟨⟨⟨⟨⟨⟨⟨⟨⟨⟨x1, x2⟩, x3⟩, _⟩, _⟩, _⟩, _⟩, _⟩, _⟩, _⟩, hA⟩ := h
  refine ⟨x1, x2, x3, fun t ht => ?_⟩
  have hs := allB_all hA t ht
  unfold secOk rgOk at hs
  simp only [Bool.and_eq_true, beq_iff_eq] at hs
  obtain ⟨_, h2, jR, e1, h3⟩ := ring_nat hs.1.1.1
  obtain ⟨_, h5, jL, e2, h6⟩ := ring_nat hs.1.2.1
  exact ⟨hs.2.symm, h2, jR, jL, e1, e2, h3, by omega⟩
end Go.Fk
namespace Go.Proofs.YtjihkfemejhllaaDoor
open Go.RowKit Go.Fk
end Go.Proofs.YtjihkfemejhllaaDoor

/- 'rings': the rings of a pipe in one list. -/
namespace Go.Fk
open Go Go.RowKit
/-- Four cells a section. -/
def fourC (u u' : Nat → Value) (x y : Nat → CD) (i : Nat) : Value := match i % 4 with | 0 => u (i / 4) | 1 => .int .i64 (rgK x (i / 4)) | 2 => u' (i / 4) | _ => .int .i64 (rgK y (i / 4))
def fourL (u u' : Nat → Value) (x y : Nat → CD) (j : Nat) : List Value := (List.range (4 * j)).map (fourC u u' x y)
theorem fourL_succ (u u' : Nat → Value) (x y : Nat → CD) (j : Nat) : fourL u u' x y j ++ [u j, .int .i64 (rgK x j), u' j, .int .i64 (rgK y j)] = fourL u u' x y (j + 1) := by
  have e0 : fourC u u' x y (4 * j) = u j := by unfold fourC; rw [show 4 * j % 4 = 0 by omega, show 4 * j / 4 = j by omega]; rfl
  have e1 : fourC u u' x y (4 * j + 1) = .int .i64 (rgK x j) := by unfold fourC; rw [show (4 * j + 1) % 4 = 1 by omega, show (4 * j + 1) / 4 = j by omega]; rfl
  have e2 : fourC u u' x y (4 * j + 2) = u' j := by unfold fourC; rw [show (4 * j + 2) % 4 = 2 by omega, show (4 * j + 2) / 4 = j by omega]; rfl
  have e3 : fourC u u' x y (4 * j + 3) = .int .i64 (rgK y j) := by unfold fourC; rw [show (4 * j + 3) % 4 = 3 by omega, show (4 * j + 3) / 4 = j by omega]; rfl
  unfold fourL
  rw [show 4 * (j + 1) = 4 * j + 1 + 1 + 1 + 1 by omega, List.range_succ, List.range_succ, List.range_succ, List.range_succ]
  simp only [List.map_append, List.map_cons, List.map_nil, List.append_assoc, List.cons_append, List.nil_append, e0, e1, e2, e3]
theorem fourL_length (u u' : Nat → Value) (x y : Nat → CD) (j : Nat) : (fourL u u' x y j).length = 4 * j := by simp [fourL]
/-- The rings of two lists by turns. -/
def zN (x y : Nat → CD) (k : Nat) : Nat := if k % 2 = 0 then rgN x (k / 2) else rgN y (k / 2)
def zX (x y : Nat → CD) (k : Nat) : Nat → Nat := if k % 2 = 0 then rgX x (k / 2) else rgX y (k / 2)
def zK (x y : Nat → CD) (k : Nat) : Int := if k % 2 = 0 then rgK x (k / 2) else rgK y (k / 2)
theorem fourL_even {u u' : Nat → Value} {x y : Nat → CD} {n k : Nat} (hk : k < 2 * n) : (fourL u u' x y n)[k * 2]? = some (if k % 2 = 0 then u (k / 2) else u' (k / 2)) := by
  unfold fourL
  rw [List.getElem?_map, List.getElem?_range (by omega)]
  simp only [Option.map_some, fourC]
  rcases Nat.mod_two_eq_zero_or_one k with h | h
  · rw [show k * 2 % 4 = 0 by omega, show k * 2 / 4 = k / 2 by omega, if_pos h]; rfl
  · rw [show k * 2 % 4 = 2 by omega, show k * 2 / 4 = k / 2 by omega, if_neg (by omega)]; rfl
theorem fourL_odd {u u' : Nat → Value} {x y : Nat → CD} {n k : Nat} (hk : k < 2 * n) : (fourL u u' x y n)[k * 2 + 1]? = some (.int .i64 (zK x y k)) := by
  unfold fourL
  rw [List.getElem?_map, List.getElem?_range (by omega)]
  simp only [Option.map_some, fourC, zK]
  rcases Nat.mod_two_eq_zero_or_one k with h | h
  · rw [show (k * 2 + 1) % 4 = 1 by omega, show (k * 2 + 1) / 4 = k / 2 by omega, if_pos h]; rfl
  · rw [show (k * 2 + 1) % 4 = 3 by omega, show (k * 2 + 1) / 4 = k / 2 by omega, if_neg (by omega)]; rfl
/-- A list of rings where it lies. -/
def Rings (w : World) (B m : Nat) (X : Nat → Nat → Nat) (N : Nat → Nat) (K : Nat → Int) (v : Value) : Prop := ∃ q cap, v = .slice (some ⟨q, 0, none⟩) m cap ∧ m ≤ cap ∧ cap ≤ maxLen ∧ ∀ k, k < m → ∃ u, w.cell? ⟨q, k * 2, none⟩ = some u ∧ w.cell? ⟨q, k * 2 + 1, none⟩ = some (.int .i64 (K k)) ∧ RdS w B u (X k) (N k)
theorem appX_cell {W w : World} {base : Nat} {e : TypeId} {z : Nat} {v : Value} {n : Nat} {xs : List Value} {m : Nat} {news : List Value} (hw : (appX base e z v n xs m news).R W w) {p : Addr} {x : Value} (hc : W.cell? p = some x) (hp : v.ownBlock ≠ some p.block) : w.cell? p = some x :=
  (cell_of_heap (hw.1.block _ (World.block_lt_of_cell? W _ hc) hp)).trans hc
end Go.Fk
namespace Go.Proofs.YtjihkfemejhllaaDoor
open Go.RowKit Go.Fk
theorem fill_four (ti : TypeInfo) (p q r t : Value) (h : ti.size = 2) : Instr.fill (fun i => some (i * ti.size, ti.size)) ((Array.range (2 * ti.size)).map ((.agg #[.slice none 0 0, .int .i64 0] : Value).cells[· % (.agg #[.slice none 0 0, .int .i64 0] : Value).cells.size]!)) (#[(0, .agg #[p, q]), (1, .agg #[r, t])] : Array (Nat × Value)).toList = some #[p, q, r, t] := by
  rw [h]
  have hr : Array.range (2 * 2) = #[0, 1, 2, 3] := by decide
  rw [hr]
  simp [Instr.fill, Value.cells]
theorem ringInfo : (Tryd.prog.info? 34).map (fun i => (i.zero, i.size, i.bytes)) = some (some (.agg #[.slice none 0 0, .int .i64 0]), 2, 32) := by kernel_rfl
set_option maxRecDepth 100000 in
set_option maxHeartbeats 2000000 in
theorem i_rings (B b0 o0 k0 b1 o1 k1 n : Nat) (v2 : Value) (xR xL : Nat → CD) (k : Int) (a b c x y : Nat) (op : Bool) (l r s : Nat) (w : World) (n1 : 1 ≤ n) (n3 : n ≤ 3) (h0 : (CD.sl 2 n xR).RdN w B (.slice (some ⟨b0, o0, none⟩) n k0)) (h1 : (CD.sl 2 n xL).RdN w B (.slice (some ⟨b1, o1, none⟩) n k1)) (p0 : RgsOk xR n) (p1 : RgsOk xL n) :
    Calls Tryd.prog 45 #[.agg #[.slice (some ⟨b0, o0, none⟩) n k0, .slice (some ⟨b1, o1, none⟩) n k1, v2, .int .i64 k, .float .f32 a, .float .f32 b, .float .f32 c, .float .f32 x, .float .f32 y, .bool op, .float .f32 l, .float .f32 r, .float .f32 s]] w (fun e w' => ∃ v, e = .returned v ∧ Rings w' B (2 * n) (zX xR xL) (zN xR xL) (zK xR xL) v ∧ le w w') := by
  have CR := fun t (ht : t < n) => p0.at h0 ht
  have CL := fun t (ht : t < n) => p1.at h1 ht
  have CR' : ∀ t, ∃ u, t < n → w.cell? ⟨b0, o0 + t * 2, none⟩ = some u ∧ w.cell? ⟨b0, o0 + t * 2 + 1, none⟩ = some (.int .i64 (rgK xR t)) ∧ RdS w B u (rgX xR t) (rgN xR t) := fun t => by
    by_cases ht : t < n
    · obtain ⟨u, e1, e2, _, e3⟩ := CR t ht; exact ⟨u, fun _ => ⟨e1, e2, e3⟩⟩
    · exact ⟨default, fun h => absurd h ht⟩
  have CL' : ∀ t, ∃ u, t < n → w.cell? ⟨b1, o1 + t * 2, none⟩ = some u ∧ w.cell? ⟨b1, o1 + t * 2 + 1, none⟩ = some (.int .i64 (rgK xL t)) ∧ RdS w B u (rgX xL t) (rgN xL t) := fun t => by
    by_cases ht : t < n
    · obtain ⟨u, e1, e2, _, e3⟩ := CL t ht; exact ⟨u, fun _ => ⟨e1, e2, e3⟩⟩
    · exact ⟨default, fun h => absurd h ht⟩
  obtain ⟨uR, HR⟩ := Classical.axiomOfChoice CR'
  obtain ⟨uL, HL⟩ := Classical.axiomOfChoice CL'
  replace HR := hid HR; replace HL := hid HL
  obtain ⟨ti, hti, htz, hts, htb⟩ : ∃ i, Tryd.prog.info? 34 = some i ∧ i.zero = some (.agg #[.slice none 0 0, .int .i64 0]) ∧ i.size = 2 ∧ i.bytes = 32 := by
    have h := ringInfo
    cases hi : Tryd.prog.info? 34 with
    | none => rw [hi] at h; simp at h
    | some i => rw [hi] at h; simp at h; exact ⟨i, rfl, h.1, h.2.1, h.2.2⟩
  have HT := hid (And.intro hti (And.intro htz (And.intro hts htb)))
  clear CR CL CR' CL' h0 h1 p0 p1 hti htz hts htb
  have F := (Frg.nil w).box 57 #[.slice (some ⟨b0, o0, none⟩) n k0, .slice (some ⟨b1, o1, none⟩) n k1, v2, .int .i64 k, .float .f32 a, .float .f32 b, .float .f32 c, .float .f32 x, .float .f32 y, .bool op, .float .f32 l, .float .f32 r, .float .f32 s]
  have c0 := (F.row m0).cell? 0
  have c1 := hid ((F.row m0).cell? 1)
  have HW := hid F.below
  clear F
  go_enter Tryd.func45, Tryd.ntmps45
  go_wp2_with fail
  have hsz : (w.alloc (.cells #[.slice (some ⟨b0, o0, none⟩) n k0, .slice (some ⟨b1, o1, none⟩) n k1, v2, .int .i64 k, .float .f32 a, .float .f32 b, .float .f32 c, .float .f32 x, .float .f32 y, .bool op, .float .f32 l, .float .f32 r, .float .f32 s] 57)).heap.size = w.heap.size + 1 := by simp
  generalize hWB : w.alloc _ = wB at *
  replace hsz := hid hsz
  clear hWB
  go_loopw [3, 9] (fun v i wr => ∃ j : Nat, j ≤ n ∧ i = .int .i64 j ∧ Hid (wr.ownsRow wB.heap.size 34 2 v (2 * j) (fourL uR uL xR xL j)) ∧ Hid (le wB wr)) (fun _ i _ => n - (intOf i).toNat)
  case atStart => exact ⟨0, by omega, rfl, World.ownsRow_nil _ _ _ _, le_refl _⟩
  case round =>
    obtain ⟨j, hj, rfl, HO, HB⟩ := hrel
    rename_i v wr _
    by_cases hlt : j < n
    · obtain ⟨d0, d1, dr⟩ := HR.out j hlt
      obtain ⟨e0, e1, er⟩ := HL.out j hlt
      have hlb := le_trans HW.out HB.out
      have gx : Hid (∀ (i : Nat) (q : Value), [uR j, .int .i64 (rgK xR j)][i]? = some q → wr.cell? ((⟨b0, o0 + j * 2, none⟩ : Addr).add i) = some q) := fun i q hi => by
        rw [add_none]
        match i, hi with
        | 0, hi => simp at hi; subst hi; exact (Below.cell hlb (cell_lt' d0)).trans d0
        | 1, hi => simp at hi; subst hi; exact (Below.cell hlb (cell_lt' d1)).trans d1
      have ou := hid dr.one
      have ov := hid er.one
      have F := Frg.nil wr
      have D0 := hid d0; have E0 := hid e0; have E1 := hid e1
      clear c0 d0 d1 e0 e1 dr er hlb
      go_wp2_with (first | (with_reducible refine wpList_indexW0 rfl rfl rfl rfl Tryd.underlying55 uinfoRingI hlt ?_) | ((with_reducible refine at_loadU (ty := 34) rfl rfl ?_); (with_reducible refine wpList_loadW rfl rfl rfl [uR j, .int .i64 (rgK xR j)] gx.out Tryd.underlying34 rfl uinfoRingI rfl ?_)) | ((with_reducible refine at_store rfl ?_); (refine wpList_storeG F rfl rfl rfl rfl rfl uinfoRingI rfl (by first | exact one_head ou.out rfl) ?_; clear F; intro W F zW; clear zW)))
      have FD := F.drewN 1
      have R5 := FD.row m0
      have HO1 := ownsRow_le HO.out FD.below
      have hol := ownsRow_lt HO.out
      have hlb := le_trans HB.out FD.below
      have hlw := le_trans HW.out hlb
      have z1 := (Below.cell hlb (by show w.heap.size < wB.heap.size; have := hsz.out; omega)).trans c1.out
      have z2 := (Below.cell hlw (cell_lt' E0.out)).trans E0.out
      have z3 := (Below.cell hlw (cell_lt' E1.out)).trans E1.out
      have hb1 : b1 < w.heap.size := cell_lt' E0.out
      have hws := hsz.out
      have hwr := HB.out.size
      have far : ∀ q, q < wB.heap.size ∨ wr.heap.size ≤ q → u3.ownBlock ≠ some q := fun q hq hh => by have := hol q hh; omega
      refine region_freeD (E := appX wB.heap.size 34 2 u3 (2 * j) (fourL uR uL xR xL j) 2 [uR j, .int .i64 (rgK xR j), uL j, .int .i64 (rgK xL j)]) (fun _ _ _ _ => True) (by kernel_rfl) (by kernel_rfl) ?_
      refine wpFreeD_one rfl u3 (fun w1 _ => by kernel_rfl) ?_
      simp only [Act.put, List.setIfInBounds_toArray, List.set_cons_succ, List.set_cons_zero]
      refine wpFreeD_loadW rfl rfl rfl [uR j, .int .i64 (rgK xR j)] (fun w1 h1 i q hi => ?_) Tryd.underlying34 rfl uinfoRingI rfl ?_
      · rw [add_none]
        match i, hi with
        | 0, hi => simp at hi; subst hi; exact appX_cell h1 (R5.cell? 0) (far _ (.inr (Nat.le_refl _)))
        | 1, hi => simp at hi; subst hi; exact appX_cell h1 (R5.cell? 1) (far _ (.inr (Nat.le_refl _)))
      simp only [Act.put, List.setIfInBounds_toArray, List.set_cons_succ, List.set_cons_zero]
      refine wpFreeD_one rfl (.pointer (some ⟨w.heap.size, 1, none⟩)) (fun w1 _ => by kernel_rfl) ?_
      simp only [Act.put, List.setIfInBounds_toArray, List.set_cons_succ, List.set_cons_zero]
      refine wpFreeD_load1 rfl rfl rfl (p := ⟨w.heap.size, 1, none⟩) (fun w1 h1 => appX_cell h1 z1 (far _ (.inl (by show w.heap.size < _; omega)))) ukindRingSI ?_
      simp only [Act.put, List.setIfInBounds_toArray, List.set_cons_succ, List.set_cons_zero]
      refine wpFreeD_one rfl (.int .i64 j) (fun w1 _ => by kernel_rfl) ?_
      simp only [Act.put, List.setIfInBounds_toArray, List.set_cons_succ, List.set_cons_zero]
      refine wpFreeD_indexW0 rfl rfl rfl rfl Tryd.underlying55 uinfoRingI hlt ?_
      simp only [Act.put, List.setIfInBounds_toArray, List.set_cons_succ, List.set_cons_zero]
      refine wpFreeD_loadW rfl rfl rfl [uL j, .int .i64 (rgK xL j)] (fun w1 h1 i q hi => ?_) Tryd.underlying34 rfl uinfoRingI rfl ?_
      · rw [add_none]
        match i, hi with
        | 0, hi => simp at hi; subst hi; exact appX_cell h1 z2 (far _ (.inl (by show b1 < _; omega)))
        | 1, hi => simp at hi; subst hi; exact appX_cell h1 z3 (far _ (.inl (by show b1 < _; omega)))
      simp only [Act.put, List.setIfInBounds_toArray, List.set_cons_succ, List.set_cons_zero]
      refine wpFreeD_madeX HO1 rfl (fun q => .slice (some ⟨q, 0, none⟩) 2 2) 34 #[uR j, .int .i64 (rgK xR j), uL j, .int .i64 (rgK xL j)] (fun w1 => ?_) (fun q => ?_)
      · have hb := run_buildSlice (P := Tryd.prog) w1 55 34 2 #[(0, .agg #[uR j, .int .i64 (rgK xR j)]), (1, .agg #[uL j, .int .i64 (rgK xL j)])] #[uR j, .int .i64 (rgK xR j), uL j, .int .i64 (rgK xL j)] ti _ Tryd.underlying55 HT.out.1 HT.out.2.1 (by rw [HT.out.2.2.1]; decide) (by rw [HT.out.2.2.1]; decide) (fill_four _ _ _ _ _ HT.out.2.2.1)
        simp [execOp, Act.eval, Result.andThen, hb]
      simp only [Act.put, List.setIfInBounds_toArray, List.set_cons_succ, List.set_cons_zero]
      refine wpFreeD_appK HO1 rfl rfl Tryd.underlying55 HT.out.1 HT.out.2.1 HT.out.2.2.1 HT.out.2.2.2 rfl (by omega) rfl (ad := ⟨q, 0, none⟩) rfl rfl (fun w1 h1 hbe => ?_) ?_ (by omega) (by unfold maxLen; omega) (by omega) (Nat.le_trans hwr FD.below.size) (fun u hu => ?_)
      · obtain ⟨q', e1, hrow⟩ := (hbe ⟨7, Ground.data⟩ (by simp) (by kernel_rfl)).2 rfl
        obtain rfl : q = q' := by simpa using e1
        intro i x hi
        rw [add_none, hrow.cell?, Nat.zero_add, ← hi]
        simp
      · have := ou.out; have := ov.out
        intro x hx
        simp only [List.mem_cons, List.not_mem_nil, or_false] at hx
        rcases hx with rfl | rfl | rfl | rfl
        · exact ou.out
        · rfl
        · exact ov.out
        · rfl
      simp only [Act.put, List.setIfInBounds_toArray, List.set_cons_succ, List.set_cons_zero]
      refine wpFreeD_one rfl u (fun w1 _ => by kernel_rfl) ?_
      simp only [Act.put, List.setIfInBounds_toArray, List.set_cons_succ, List.set_cons_zero]
      refine wpFreeD_nil (fun wR hwR hF => ?_)
      have hG := ((hF 8).1.2 rfl).1
      rw [fourL_succ] at hG
      have HO2 := hid hG
      have HB2 := hid (Below.trans hlb (hwR.1.below (B := wB.heap.size) (fun q hq => (hol q hq).1) hlb.size))
      clear hF hwR hG hu hol far z1 z2 z3 R5 HO1 FD F hlb hlw
      go_wp2
      go_roundw
      case rel => exact ⟨j + 1, by omega, by go_num, HO2.out, HB2.out⟩
      case measure => simp [intOf]; omega
    · obtain rfl : j = n := by omega
      go_wp2
      go_ret
      obtain ⟨q, cap, hv, hq, _⟩ := HO.out.form (by omega)
      subst hv
      refine ⟨_, rfl, ⟨q, cap, rfl, ?_, ?_, fun k hk => ?_⟩, le_trans HW.out HB.out⟩
      · rcases HO.out.2 with ⟨h, _⟩ | ⟨g, cap', cur, h, _, _, h3, _⟩
        · cases h
        · cases h; exact h3
      · rcases HO.out.2 with ⟨h, _⟩ | ⟨g, cap', cur, h, _, _, _, h3, _⟩
        · cases h
        · cases h; exact h3
      · have hc := HO.out.cells (g := q) rfl
        have c1 := hc _ _ (fourL_even hk)
        have c2 := hc _ _ (fourL_odd hk)
        rw [add_none, Nat.zero_add] at c1 c2
        refine ⟨_, c1, c2, ?_⟩
        unfold zX zN
        have hlb := le_trans HW.out HB.out
        by_cases h2 : k % 2 = 0
        · rw [if_pos h2, if_pos h2, if_pos h2]; exact ((HR.out (k / 2) (by omega)).2.2).le hlb
        · rw [if_neg h2, if_neg h2, if_neg h2]; exact ((HL.out (k / 2) (by omega)).2.2).le hlb
end Go.Proofs.YtjihkfemejhllaaDoor

/- 'PipeText': its lines; the model. -/
namespace Go.Fk
open Go Go.RowKit Go.Proofs.YtjihkfemejhllaaDoor
def pipW : ByteArray := ⟨#[112, 105, 112, 101]⟩
def endB : Bool → ByteArray | true => ⟨#[111, 112, 101, 110]⟩ | false => ⟨#[99, 108, 111, 115, 101, 100]⟩
def pipB : Bool → ByteArray | true => ⟨#[112, 105, 112, 101, 32, 111, 112, 101, 110]⟩ | false => ⟨#[112, 105, 112, 101, 32, 99, 108, 111, 115, 101, 100]⟩
def nscW : ByteArray := ⟨#[10, 115, 99, 97, 116, 116, 101, 114]⟩
theorem pipB_eq (op : Bool) : pipB op = pipW ++ (spB ++ endB op) := by cases op <;> (apply ba_ext; simp [pipB, pipW, spB, endB])
theorem nscW_eq : nscW = nlB ++ scaW := by apply ba_ext; simp [nscW, nlB, scaW]
/-- The lines, each with its end. -/
def nlc (l : List ByteArray) : ByteArray := l.foldl (fun z x => z ++ (x ++ nlB)) ⟨#[]⟩
theorem snoc_ind {α : Type} {P : List α → Prop} (h0 : P []) (h1 : ∀ l x, P l → P (l ++ [x])) (l : List α) : P l := by
  have h : ∀ m : List α, P m.reverse := by
    intro m
    induction m with
    | nil => exact h0
    | cons x m ih => rw [List.reverse_cons]; exact h1 _ _ ih
  have := h l.reverse
  rwa [List.reverse_reverse] at this
theorem nlc_snoc (l : List ByteArray) (x : ByteArray) : nlc (l ++ [x]) = nlc l ++ (x ++ nlB) := by simp [nlc]
theorem nlc_jn : ∀ l : List ByteArray, l ≠ [] → jnB nlB l ++ nlB = nlc l := by
  intro l
  refine snoc_ind (P := fun l => l ≠ [] → jnB nlB l ++ nlB = nlc l) (fun h => absurd rfl h) ?_ l
  · intro l x ih _
    cases l with
    | nil => rw [List.nil_append, jnB_one]; simp [nlc, ba_nil]
    | cons z l =>
      rw [jnB_snoc _ _ _ (by simp), nlc_snoc, ← ih (by simp)]
      simp only [ba_assoc]
/-- The line of the i-th ring of a pipe, by turns. -/
def ringT (xR xL : Nat → CD) (i : Nat) : ByteArray := rgT (zX xR xL i) (zN xR xL i) (zK xR xL i).toNat
def line1 (op : Bool) (l r s : Nat) : ByteArray := jnB spB [pipW, endB op, txtS (tri l r s) 3]
def pipeL (op : Bool) (l r s : Nat) (yS : Nat → Nat) (nS : Nat) (k a b c x y : Nat) (xR xL : Nat → CD) (m : Nat) : List ByteArray := [line1 op l r s, scaW ++ samL yS nS, filT k a b c x y] ++ (List.range m).map (ringT xR xL)
theorem pipeL_succ (op : Bool) (l r s : Nat) (yS : Nat → Nat) (nS : Nat) (k a b c x y : Nat) (xR xL : Nat → CD) (m : Nat) : pipeL op l r s yS nS k a b c x y xR xL (m + 1) = pipeL op l r s yS nS k a b c x y xR xL m ++ [ringT xR xL m] := by simp [pipeL, List.range_succ]
theorem pipeL_len (op : Bool) (l r s : Nat) (yS : Nat → Nat) (nS : Nat) (k a b c x y : Nat) (xR xL : Nat → CD) (m : Nat) : (pipeL op l r s yS nS k a b c x y xR xL m).length = 3 + m := by simp [pipeL]; omega
theorem pipeL_start (op : Bool) (l r s : Nat) (yS : Nat → Nat) (nS : Nat) (k a b c x y : Nat) (xR xL : Nat → CD) : pipB op ++ (samL (tri l r s) 3 ++ nscW ++ samL yS nS ++ nlB ++ filT k a b c x y ++ nlB) = nlc (pipeL op l r s yS nS k a b c x y xR xL 0) := by
  unfold pipeL line1
  rw [pipB_eq, nscW_eq, samL_txt (tri l r s) (by decide), jnB_cons, jnB_cons, jnB_one]
  simp only [List.range_zero, List.map_nil, List.append_nil, nlc, List.foldl_cons, List.foldl_nil, ba_nil, ba_assoc]
theorem line1_size (op : Bool) (l r s : Nat) : (line1 op l r s).size ≤ 4100 := by
  have h1 := txtS_size (tri l r s) 3
  have h2 : (endB op).size ≤ 6 := by cases op <;> decide
  have := jnB_size spB 1024 [pipW, endB op, txtS (tri l r s) 3] (fun z hz => by
    simp only [List.mem_cons, List.not_mem_nil, or_false] at hz
    rcases hz with rfl | rfl | rfl
    · decide
    · omega
    · omega)
  simp only [List.length_cons, List.length_nil] at this
  rw [show spB.size = 1 from rfl] at this
  exact Nat.le_trans this (by decide)
theorem nlc_size {m : Nat} : ∀ l : List ByteArray, (∀ z ∈ l, z.size ≤ m) → (nlc l).size ≤ l.length * (m + 1) := by
  intro l
  refine snoc_ind (P := fun l => (∀ z ∈ l, z.size ≤ m) → (nlc l).size ≤ l.length * (m + 1)) (fun _ => Nat.zero_le _) ?_ l
  · intro l x ih h
    have h1 := ih (fun z hz => h z (List.mem_append_left _ hz))
    have h2 := h x (List.mem_append_right _ (List.mem_singleton.2 rfl))
    rw [nlc_snoc, ByteArray.size_append, ByteArray.size_append, show nlB.size = 1 from rfl, List.length_append, List.length_singleton, Nat.add_mul]
    omega
theorem rds_uniq {w : World} {B B' : Nat} {v : Value} {x x' : Nat → Nat} {n n' : Nat} (h : RdS w B v x n) (h' : RdS w B' v x' n') : n = n' ∧ ∀ i, i < n → x i = x' i := by
  have en : n = n' := by
    rcases h.form with ⟨e, e2⟩ | ⟨a, cap, e, _⟩ <;> rcases h'.form with ⟨e', e2'⟩ | ⟨a', cap', e', _⟩ <;> (rw [e] at e'; simp at e'; try omega)
  subst en
  refine ⟨rfl, fun i hi => ?_⟩
  obtain ⟨a, cap, y, e, _, _, hy⟩ := h.raw (by omega)
  obtain ⟨a', cap', y', e', _, _, hy'⟩ := h'.raw (by omega)
  rw [e] at e'
  simp only [Value.slice.injEq, Option.some.injEq] at e'
  obtain ⟨ea, _⟩ := e'
  obtain ⟨c1, _, c2⟩ := hy i hi
  obtain ⟨c1', _, c2'⟩ := hy' i hi
  rw [← ea] at c1'
  have := Option.some.inj (c1.symm.trans c1')
  simp at this
  rw [← c2, ← c2', this]
/-- What is known of the rings. -/
def ZOk (xR xL : Nat → CD) (m : Nat) : Prop := ∀ i, i < m → 1 ≤ zN xR xL i ∧ zN xR xL i ≤ 1024 ∧ ∃ q : Nat, zK xR xL i = q ∧ q ≤ 1024
theorem zok {xR xL : Nat → CD} {n : Nat} (hq : ∀ t, t < n → rgN xL t = rgN xR t ∧ rgN xR t ≤ 1024 ∧ ∃ jR jL : Nat, rgK xR t = jR ∧ rgK xL t = jL ∧ jR < rgN xR t ∧ jL < rgN xR t) : ZOk xR xL (2 * n) := fun i hi => by
  obtain ⟨e1, e2, jR, jL, e3, e4, e5, e6⟩ := hq (i / 2) (by omega)
  unfold zN zK
  split
  · exact ⟨by omega, e2, jR, e3, by omega⟩
  · rw [e1]; exact ⟨by omega, e2, jL, e4, by omega⟩
theorem ringT_size {xR xL : Nat → CD} {m : Nat} (h : ZOk xR xL m) {i : Nat} (hi : i < m) : (ringT xR xL i).size ≤ 30006 := by
  obtain ⟨h1, h2, q, h3, h4⟩ := h i hi
  unfold ringT
  rw [h3]
  exact rgT_size h2 h4
theorem pipeL_size {xR xL : Nat → CD} {m M : Nat} (h : ZOk xR xL M) (hm : m ≤ M) (op : Bool) (l r s : Nat) (yS : Nat → Nat) {nS : Nat} (hS : nS ≤ 3) (k a b c x y : Nat) : ∀ z ∈ pipeL op l r s yS nS k a b c x y xR xL m, z.size ≤ 40000 := by
  intro z hz
  simp only [pipeL, List.mem_append, List.mem_cons, List.not_mem_nil, or_false, List.mem_map, List.mem_range] at hz
  rcases hz with (rfl | rfl | rfl) | ⟨i, hi, rfl⟩
  · have := line1_size op l r s; omega
  · have := samL_size yS nS; rw [ByteArray.size_append, show scaW.size = 7 from rfl]; omega
  · have := filT_sz k a b c x y; omega
  · have := ringT_size h (show i < M by omega); omega
def bufA (args : Array Value) : Nat := match args.toList with | [.pointer (some p)] => p.block | _ => 0
end Go.Fk
namespace Go.Proofs.YtjihkfemejhllaaDoor
open Go.RowKit Go.Fk
theorem infoF4P : (Tryd.prog.info? 25).map (fun i => (i.zero, i.size, i.bytes)) = some (some (.float .f32 0), 1, 4) := by kernel_rfl
theorem fillF3 (ti : TypeInfo) (p q r : Nat) (h : ti.size = 1) : Instr.fill (fun i => some (i * ti.size, ti.size)) ((Array.range (3 * ti.size)).map ((.float .f32 0 : Value).cells[· % (.float .f32 0 : Value).cells.size]!)) (#[(0, .float .f32 p), (1, .float .f32 q), (2, .float .f32 r)] : Array (Nat × Value)).toList = some #[.float .f32 p, .float .f32 q, .float .f32 r] := by
  rw [h]
  have hr : Array.range (3 * 1) = #[0, 1, 2] := by decide
  rw [hr]
  simp [Instr.fill, Value.cells]
theorem mkF3 (p q r : Nat) (w : World) : (Instr.buildSlice 22 3 #[(0, .float .f32 p), (1, .float .f32 q), (2, .float .f32 r)]).run Tryd.prog w = .ok (.slice (some ⟨w.heap.size, 0, none⟩) 3 3) (w.alloc (.cells #[.float .f32 p, .float .f32 q, .float .f32 r] 25)) := by
  have h := infoF4P
  cases hi : Tryd.prog.info? 25 with
  | none => rw [hi] at h; simp at h
  | some i =>
    rw [hi] at h; simp at h
    exact run_buildSlice (P := Tryd.prog) w 22 25 3 _ _ i _ Tryd.underlying22 hi h.1 (by rw [h.2.1]; decide) (by rw [h.2.1]; decide) (fillF3 _ _ _ _ h.2.1)
set_option maxRecDepth 100000 in
set_option maxHeartbeats 4000000 in
theorem s_l04Text (B : Nat) (v0 v1 v2 : Value) (n nS : Nat) (xR xL : Nat → CD) (yS : Nat → Nat) (k : Nat) (a b c x y : Nat) (op : Bool) (l r s : Nat) (g : Nat) (w : World) (hR : Row w g 57 #[v0, v1, v2, .int .i64 (k : Nat), .float .f32 a, .float .f32 b, .float .f32 c, .float .f32 x, .float .f32 y, .bool op, .float .f32 l, .float .f32 r, .float .f32 s]) (h0 : (CD.sl 2 n xR).RdN w B v0) (h1 : (CD.sl 2 n xL).RdN w B v1) (h2 : RdS w B v2 yS nS) (p0 : RgsOk xR n) (p1 : RgsOk xL n) (hf : fits .f32 a ∧ fits .f32 b ∧ fits .f32 c ∧ fits .f32 x ∧ fits .f32 y) (hg : fits .f32 l ∧ fits .f32 r ∧ fits .f32 s) (n1 : 1 ≤ n) (n3 : n ≤ 3) (nS3 : nS ≤ 3) (hq : ∀ t, t < n → rgN xL t = rgN xR t ∧ rgN xR t ≤ 1024 ∧ ∃ jR jL : Nat, rgK xR t = jR ∧ rgK xL t = jL ∧ jR < rgN xR t ∧ jL < rgN xR t) : Calls Tryd.prog 37 #[.pointer (some ⟨g, 0, none⟩)] w (Out_t (nlc (pipeL op l r s yS nS k a b c x y xR xL (2 * n))) w) := by
  obtain ⟨fl, fr, fs⟩ := hg
  have ZK := hid (zok hq)
  obtain ⟨b0, o0, k0, rfl⟩ : ∃ b0 o0 k0, v0 = .slice (some ⟨b0, o0, none⟩) n k0 := by
    rcases h0.form with ⟨_, e⟩ | ⟨b, o, cap, e, _, _⟩
    · omega
    · exact ⟨b, o, cap, e⟩
  obtain ⟨b1, o1, k1, rfl⟩ : ∃ b1 o1 k1, v1 = .slice (some ⟨b1, o1, none⟩) n k1 := by
    rcases h1.form with ⟨_, e⟩ | ⟨b, o, cap, e, _, _⟩
    · omega
    · exact ⟨b, o, cap, e⟩
  have HF := hid (fun (w' : World) => s_FilterText (k : Nat) a b c x y w' hf)
  have HS := hid (fun (w' : World) (hl : le w w') => s_l04SamplesS yS nS B v2 w' (h2.le hl) (by omega))
  have HLR := hid (fun (t : Nat) (ht : t < n) (w' : World) (hl : le w w') => show Calls Tryd.prog 54 #[.pointer (some ⟨b0, o0 + t * 2, none⟩)] w' (Out_t (ringT xR xL (2 * t) ++ nlB) w') from by
    obtain ⟨u, c0, c1, _, hu⟩ := p0.at h0 ht
    obtain ⟨z1, z2, q, z3, z4⟩ := ZK.out (2 * t) (by omega)
    unfold ringT
    unfold zN at z1 z2; unfold zK at z3
    unfold zX zN zK
    rw [show 2 * t % 2 = 0 by omega, show 2 * t / 2 = t by omega] at *
    simp only [if_true] at *
    rw [z3] at c1 ⊢
    exact s_l04LineS _ _ q B u b0 (o0 + t * 2) w' (hu.le hl) z1 z2 z4 ((Below.cell hl (cell_lt' c0)).trans c0) ((Below.cell hl (cell_lt' c1)).trans c1))
  have HLL := hid (fun (t : Nat) (ht : t < n) (w' : World) (hl : le w w') => show Calls Tryd.prog 54 #[.pointer (some ⟨b1, o1 + t * 2, none⟩)] w' (Out_t (ringT xR xL (2 * t + 1) ++ nlB) w') from by
    obtain ⟨u, c0, c1, _, hu⟩ := p1.at h1 ht
    obtain ⟨z1, z2, q, z3, z4⟩ := ZK.out (2 * t + 1) (by omega)
    unfold ringT
    unfold zN at z1 z2; unfold zK at z3
    unfold zX zN zK
    rw [show (2 * t + 1) % 2 = 1 by omega, show (2 * t + 1) / 2 = t by omega] at *
    simp only [Nat.one_ne_zero, if_false] at *
    rw [z3] at c1 ⊢
    exact s_l04LineS _ _ q B u b1 (o1 + t * 2) w' (hu.le hl) z1 z2 z4 ((Below.cell hl (cell_lt' c0)).trans c0) ((Below.cell hl (cell_lt' c1)).trans c1))
  have HEQ := hid (fun (t : Nat) (ht : t < n) (he : (⟨b0, o0 + t * 2, none⟩ : Addr) = ⟨b1, o1 + t * 2, none⟩) => show ringT xR xL (2 * t) = ringT xR xL (2 * t + 1) from by
    obtain ⟨u, c0, c1, _, hu⟩ := p0.at h0 ht
    obtain ⟨u', c0', c1', _, hu'⟩ := p1.at h1 ht
    simp only [Addr.mk.injEq, and_true] at he
    obtain ⟨e1, e2⟩ := he
    rw [← e1, ← e2] at c0' c1'
    obtain rfl := Option.some.inj (c0.symm.trans c0')
    have ek : rgK xR t = rgK xL t := by have := Option.some.inj (c1.symm.trans c1'); simpa using this
    obtain ⟨en, ex⟩ := rds_uniq hu hu'
    unfold ringT zX zN zK rgT
    rw [show 2 * t % 2 = 0 by omega, show 2 * t / 2 = t by omega, show (2 * t + 1) % 2 = 1 by omega, show (2 * t + 1) / 2 = t by omega]
    simp only [if_true, Nat.one_ne_zero, if_false]
    rw [ek, ← en, show txtS (rgX xR t) (rgN xR t) = txtS (rgX xL t) (rgN xR t) from congrArg (jnB spB) (hexs_congr (fun i hi => by rw [ex i hi]))])
  have HR := hid hR
  have e3 := samL_size (tri l r s) 3
  have e4 := samL_size yS nS
  have e5 := filT_sz k a b c x y
  have e6 : (pipB op).size ≤ 11 := by cases op <;> decide
  have w3_ : nlB.size = 1 := rfl
  have w5_ : nscW.size = 8 := rfl
  have EA := hid (pipeL_start op l r s yS nS k a b c x y xR xL)
  have SO2 := hid h2.one
  have HV2 := hid h2
  clear h0 h1 h2 p0 p1 hf hq hR
  obtain ⟨PB, hPB⟩ : ∃ PB, PB = pipB op := ⟨_, rfl⟩
  have HPB := hid hPB
  have eP : PB.size ≤ 11 := by rw [hPB]; exact e6
  obtain ⟨LM, hLM⟩ : ∃ LM : Nat → List ByteArray, LM = pipeL op l r s yS nS k a b c x y xR xL := ⟨_, rfl⟩
  obtain ⟨LL0, hLL0⟩ : ∃ LL0, LL0 = LM 0 := ⟨_, rfl⟩
  rw [show pipeL op l r s yS nS k a b c x y xR xL 0 = LL0 by rw [hLL0, hLM], ← hPB] at EA
  rw [show pipeL op l r s yS nS k a b c x y xR xL (2 * n) = LM (2 * n) by rw [hLM]]
  have HL0 := hid hLL0
  have HST := hid (fun m => show nlc (LM (m + 1)) = nlc (LM m) ++ (ringT xR xL m ++ nlB) by rw [hLM, pipeL_succ, nlc_snoc])
  have HSZ := hid (fun m (hm : m ≤ 2 * n) => show (nlc (LM m)).size ≤ 400000 by
    have h1 := nlc_size (m := 40000) (LM m) (by rw [hLM]; exact pipeL_size ZK.out hm op l r s yS nS3 k a b c x y)
    rw [show (LM m).length = 3 + m by rw [hLM, pipeL_len]] at h1
    have : (3 + m) * (40000 + 1) ≤ 9 * 40001 := Nat.mul_le_mul_right _ (by omega)
    omega)
  have FAR := hid (show ∀ z, w.heap.size ≤ z → v2 ≠ .slice (some ⟨z, 0, none⟩) 3 3 from fun z hz he => by
    have h := HV2.out
    by_cases h0 : nS = 0
    · subst h0
      rcases h with ⟨h, _⟩ | ⟨ad, cap, h, _⟩ <;> (rw [h] at he; simp at he)
    · obtain ⟨ad, cap, y, e, _, _, hy⟩ := h.raw (by omega)
      rw [e] at he
      simp only [Value.slice.injEq, Option.some.injEq] at he
      have h2 := cell_lt' (hy 0 (by omega)).1
      rw [he.1] at h2
      have h3 : z < w.heap.size := h2
      omega)
  clear hLM hLL0 HV2 hPB
  cases op
  all_goals
    go_enter Tryd.func37, Tryd.ntmps37
    have co := HR.out.cell? 9
    go_wp2_with fail
    clear co
    have G := hid (le_drewN w 1)
    refine region_freeD (E := leX) (fun f args _ v => if f = 53 then v = .string (filT k a b c x y) else (args = #[v2] ∧ v = .string (samL yS nS)) ∨ (args ≠ #[v2] ∧ v = .string (samL (tri l r s) 3))) (by kernel_rfl) (by kernel_rfl) ?_
    refine wpFreeD_one rfl (.string PB) (fun w1 _ => by rw [HPB.out]; kernel_rfl) ?_
    simp only [Act.put, List.setIfInBounds_toArray, List.set_cons_succ, List.set_cons_zero]
    refine wpFreeD_one rfl (.pointer (some ⟨g, 0, none⟩)) (fun w1 _ => by kernel_rfl) ?_
    simp only [Act.put, List.setIfInBounds_toArray, List.set_cons_succ, List.set_cons_zero]
    refine wpFreeD_one rfl (.pointer (some ⟨g, 0, none⟩)) (fun w1 _ => by kernel_rfl) ?_
    simp only [Act.put, List.setIfInBounds_toArray, List.set_cons_succ, List.set_cons_zero]
    refine wpFreeD_one rfl (.pointer (some ⟨g, 10, none⟩)) (fun w1 _ => by kernel_rfl) ?_
    simp only [Act.put, List.setIfInBounds_toArray, List.set_cons_succ, List.set_cons_zero]
    refine wpFreeD_load1 rfl rfl rfl (p := ⟨g, 10, none⟩) (v := .float .f32 l) (fun w1 h1 => by rw [(HR.out.le (le_trans G.out h1)).cell?]; rfl) ukindFloat32 ?_
    simp only [Act.put, List.setIfInBounds_toArray, List.set_cons_succ, List.set_cons_zero]
    refine wpFreeD_one rfl (.pointer (some ⟨g, 0, none⟩)) (fun w1 _ => by kernel_rfl) ?_
    simp only [Act.put, List.setIfInBounds_toArray, List.set_cons_succ, List.set_cons_zero]
    refine wpFreeD_one rfl (.pointer (some ⟨g, 0, none⟩)) (fun w1 _ => by kernel_rfl) ?_
    simp only [Act.put, List.setIfInBounds_toArray, List.set_cons_succ, List.set_cons_zero]
    refine wpFreeD_one rfl (.pointer (some ⟨g, 11, none⟩)) (fun w1 _ => by kernel_rfl) ?_
    simp only [Act.put, List.setIfInBounds_toArray, List.set_cons_succ, List.set_cons_zero]
    refine wpFreeD_load1 rfl rfl rfl (p := ⟨g, 11, none⟩) (v := .float .f32 r) (fun w1 h1 => by rw [(HR.out.le (le_trans G.out h1)).cell?]; rfl) ukindFloat32 ?_
    simp only [Act.put, List.setIfInBounds_toArray, List.set_cons_succ, List.set_cons_zero]
    refine wpFreeD_one rfl (.pointer (some ⟨g, 0, none⟩)) (fun w1 _ => by kernel_rfl) ?_
    simp only [Act.put, List.setIfInBounds_toArray, List.set_cons_succ, List.set_cons_zero]
    refine wpFreeD_one rfl (.pointer (some ⟨g, 0, none⟩)) (fun w1 _ => by kernel_rfl) ?_
    simp only [Act.put, List.setIfInBounds_toArray, List.set_cons_succ, List.set_cons_zero]
    refine wpFreeD_one rfl (.pointer (some ⟨g, 12, none⟩)) (fun w1 _ => by kernel_rfl) ?_
    simp only [Act.put, List.setIfInBounds_toArray, List.set_cons_succ, List.set_cons_zero]
    refine wpFreeD_load1 rfl rfl rfl (p := ⟨g, 12, none⟩) (v := .float .f32 s) (fun w1 h1 => by rw [(HR.out.le (le_trans G.out h1)).cell?]; rfl) ukindFloat32 ?_
    simp only [Act.put, List.setIfInBounds_toArray, List.set_cons_succ, List.set_cons_zero]
    refine wpFreeD_newN rfl (fun z => .slice (some ⟨z, 0, none⟩) 3 3) (fun b b' h => by simpa using h) 25 #[.float .f32 l, .float .f32 r, .float .f32 s] (fun w1 => ?_) (fun z => ?_)
    · have hb := mkF3 l r s w1
      simp [execOp, Act.eval, Result.andThen, hb]
    simp only [Act.put, List.setIfInBounds_toArray, List.set_cons_succ, List.set_cons_zero]
    refine wpFreeD_callB rfl rfl Tryd.func52 (by kernel_rfl) (by kernel_rfl) (args := #[.slice (some ⟨z, 0, none⟩) 3 3]) (by simp [Act.eval]) (fun v w1 w2 hw hv => hv) (fun w1 hw1 hbe => ?_) ?_
    · obtain ⟨h1, h2⟩ := (hbe ⟨13, Ground.data⟩ (by simp) (by kernel_rfl)).2 rfl
      refine (s_l04Samples (tri l r s) ⟨z, 0, none⟩ 3 3 w1 (by decide) (fun i hi => by match i, hi with | 0, _ => exact fl | 1, _ => exact fr | 2, _ => exact fs) (fun i hi => by rw [add_none, h2.cell?]; match i, hi with | 0, _ => rfl | 1, _ => rfl | 2, _ => rfl)).mono ?_
      rintro e w2 ⟨rfl, hl⟩
      refine ⟨_, rfl, hl, ?_⟩
      show (_ ∧ _) ∨ (_ ∧ _)
      refine .inr ⟨fun he => ?_, rfl⟩
      have := FAR.out z (Nat.le_trans G.out.size h1)
      exact this (by simpa using he.symm)
    rintro v ⟨w9, hw9, hbe, hv⟩
    have hv2 : v = .string (samL (tri l r s) 3) := by
      replace hv : (_ ∧ _) ∨ (_ ∧ _) := hv
      rcases hv with ⟨he, _⟩ | ⟨_, hv⟩
      · exfalso
        obtain ⟨h1, _⟩ := (hbe 13).2 rfl
        exact FAR.out z (Nat.le_trans G.out.size h1) (by simpa using he.symm)
      · exact hv
    subst hv2
    clear hv
    simp only [Act.put, List.setIfInBounds_toArray, List.set_cons_succ, List.set_cons_zero]
    refine wpFreeD_cat rfl rfl (s := (samL (tri l r s) 3)) (r := nscW) rfl rfl (by first | omega | (simp only [ByteArray.size_append]; omega)) (q := samL (tri l r s) 3 ++ nscW) rfl ?_
    simp only [Act.put, List.setIfInBounds_toArray, List.set_cons_succ, List.set_cons_zero]
    refine wpFreeD_one rfl (.pointer (some ⟨g, 0, none⟩)) (fun w1 _ => by kernel_rfl) ?_
    simp only [Act.put, List.setIfInBounds_toArray, List.set_cons_succ, List.set_cons_zero]
    refine wpFreeD_one rfl (.pointer (some ⟨g, 0, none⟩)) (fun w1 _ => by kernel_rfl) ?_
    simp only [Act.put, List.setIfInBounds_toArray, List.set_cons_succ, List.set_cons_zero]
    refine wpFreeD_one rfl (.pointer (some ⟨g, 2, none⟩)) (fun w1 _ => by kernel_rfl) ?_
    simp only [Act.put, List.setIfInBounds_toArray, List.set_cons_succ, List.set_cons_zero]
    refine wpFreeD_load1 rfl rfl rfl (p := ⟨g, 2, none⟩) (v := v2) (fun w1 h1 => by rw [(HR.out.le (le_trans G.out h1)).cell?]; rfl) ukindFloat32S ?_
    simp only [Act.put, List.setIfInBounds_toArray, List.set_cons_succ, List.set_cons_zero]
    refine wpFreeD_callB rfl rfl Tryd.func52 (by kernel_rfl) (by kernel_rfl) (args := #[v2]) (by simp [Act.eval]) (fun v w1 w2 hw hv => hv) (fun w1 hw1 _ => (HS.out w1 (le_trans G.out hw1)).mono ?_) ?_
    · rintro e w2 ⟨rfl, hl⟩
      exact ⟨_, rfl, hl, show (_ ∧ _) ∨ (_ ∧ _) from .inl ⟨rfl, rfl⟩⟩
    rintro v ⟨_, _, _, hv⟩
    replace hv : v = .string (samL yS nS) := by
      replace hv : (_ ∧ _) ∨ (_ ∧ _) := hv
      rcases hv with ⟨_, hv⟩ | ⟨he, _⟩
      · exact hv
      · exact absurd rfl he
    subst hv
    simp only [Act.put, List.setIfInBounds_toArray, List.set_cons_succ, List.set_cons_zero]
    refine wpFreeD_cat rfl rfl (s := (samL (tri l r s) 3 ++ nscW)) (r := (samL yS nS)) rfl rfl (by first | omega | (simp only [ByteArray.size_append]; omega)) (q := samL (tri l r s) 3 ++ nscW ++ samL yS nS) rfl ?_
    simp only [Act.put, List.setIfInBounds_toArray, List.set_cons_succ, List.set_cons_zero]
    refine wpFreeD_cat rfl rfl (s := (samL (tri l r s) 3 ++ nscW ++ samL yS nS)) (r := nlB) rfl rfl (by first | omega | (simp only [ByteArray.size_append]; omega)) (q := samL (tri l r s) 3 ++ nscW ++ samL yS nS ++ nlB) rfl ?_
    simp only [Act.put, List.setIfInBounds_toArray, List.set_cons_succ, List.set_cons_zero]
    refine wpFreeD_one rfl (.pointer (some ⟨g, 0, none⟩)) (fun w1 _ => by kernel_rfl) ?_
    simp only [Act.put, List.setIfInBounds_toArray, List.set_cons_succ, List.set_cons_zero]
    refine wpFreeD_one rfl (.pointer (some ⟨g, 0, none⟩)) (fun w1 _ => by kernel_rfl) ?_
    simp only [Act.put, List.setIfInBounds_toArray, List.set_cons_succ, List.set_cons_zero]
    refine wpFreeD_one rfl (.pointer (some ⟨g, 3, none⟩)) (fun w1 _ => by kernel_rfl) ?_
    simp only [Act.put, List.setIfInBounds_toArray, List.set_cons_succ, List.set_cons_zero]
    refine wpFreeD_loadW rfl rfl rfl (p := ⟨g, 3, none⟩) [.int .i64 (k : Nat), .float .f32 a, .float .f32 b, .float .f32 c, .float .f32 x, .float .f32 y] (fun w1 h1 i v hi => by
      rw [add_none, (HR.out.le (le_trans G.out h1)).cell?, ← hi]
      match i, hi with
      | 0, _ => rfl
      | 1, _ => rfl
      | 2, _ => rfl
      | 3, _ => rfl
      | 4, _ => rfl
      | 5, _ => rfl
      | i + 6, hi => simp at hi) Tryd.underlying35 rfl infoFil rfl ?_
    simp only [Act.put, List.setIfInBounds_toArray, List.set_cons_succ, List.set_cons_zero]
    refine wpFreeD_callB rfl rfl Tryd.func53 (by kernel_rfl) (by kernel_rfl) (args := #[.agg #[.int .i64 (k : Nat), .float .f32 a, .float .f32 b, .float .f32 c, .float .f32 x, .float .f32 y]]) (by simp [Act.eval]) (fun v w1 w2 hw hv => hv) (fun w1 hw1 _ => (HF.out w1).mono ?_) ?_
    · rintro e w2 ⟨rfl, hl⟩
      exact ⟨_, rfl, hl, rfl⟩
    rintro v ⟨_, _, _, hv⟩
    replace hv : v = .string (filT k a b c x y) := hv
    subst hv
    simp only [Act.put, List.setIfInBounds_toArray, List.set_cons_succ, List.set_cons_zero]
    refine wpFreeD_cat rfl rfl (s := (samL (tri l r s) 3 ++ nscW ++ samL yS nS ++ nlB)) (r := (filT k a b c x y)) rfl rfl (by first | omega | (simp only [ByteArray.size_append]; omega)) (q := samL (tri l r s) 3 ++ nscW ++ samL yS nS ++ nlB ++ filT k a b c x y) rfl ?_
    simp only [Act.put, List.setIfInBounds_toArray, List.set_cons_succ, List.set_cons_zero]
    refine wpFreeD_cat rfl rfl (s := (samL (tri l r s) 3 ++ nscW ++ samL yS nS ++ nlB ++ filT k a b c x y)) (r := nlB) rfl rfl (by first | omega | (simp only [ByteArray.size_append]; omega)) (q := samL (tri l r s) 3 ++ nscW ++ samL yS nS ++ nlB ++ filT k a b c x y ++ nlB) rfl ?_
    simp only [Act.put, List.setIfInBounds_toArray, List.set_cons_succ, List.set_cons_zero]
    refine wpFreeD_cat rfl rfl (s := PB) (r := (samL (tri l r s) 3 ++ nscW ++ samL yS nS ++ nlB ++ filT k a b c x y ++ nlB)) rfl rfl (by first | omega | (simp only [ByteArray.size_append]; omega)) (q := nlc LL0) EA.out ?_
    simp only [Act.put, List.setIfInBounds_toArray, List.set_cons_succ, List.set_cons_zero]
    refine wpFreeD_one rfl (.string (nlc LL0)) (fun w1 _ => by kernel_rfl) ?_
    simp only [Act.put, List.setIfInBounds_toArray, List.set_cons_succ, List.set_cons_zero]
    refine wpFreeD_nil (fun wR hwR _ => ?_)
    have HLr := hid (le_trans G.out hwR)
    clear hwR G
    go_wp2
    go_loopw [3, 4] (fun p i wr => ∃ j : Nat, j ≤ n ∧ i = .int .i64 j ∧ p = .string (nlc (LM (2 * j))) ∧ Hid (le w wr)) (fun _ i _ => n - (intOf i).toNat)
    case atStart => exact ⟨0, by omega, rfl, by rw [HL0.out], HLr.out⟩
    case round =>
      obtain ⟨j, hj, rfl, rfl, HL⟩ := hrel
      rename World => wr
      have C0 := hid (show wr.cell? ((⟨g, 0, none⟩ : Addr).add 0) = some (.slice (some ⟨b0, o0, none⟩) n k0) by rw [add_none, (HR.out.le HL.out).cell?]; rfl)
      by_cases hlt : j < n
      · have H1 := hid (HLR.out j hlt)
        have H2 := hid (HLL.out j hlt)
        have e1 := ringT_size ZK.out (show 2 * j < 2 * n by omega)
        have e2 := ringT_size ZK.out (show 2 * j + 1 < 2 * n by omega)
        have e7 := HSZ.out (2 * j) (by omega)
        have EN := hid (HST.out (2 * j))
        go_wp2_with ((with_reducible refine at_load rfl ?_); (refine wpList_load1X rfl rfl (by kernel_rfl) C0.out ukindRingSI ?_))
        obtain ⟨Z, hZ⟩ : ∃ Z, Z = nlc (LM (2 * j)) := ⟨_, rfl⟩
        have EN2 := hid (show Z ++ (ringT xR xL (2 * j) ++ nlB ++ (ringT xR xL (2 * j + 1) ++ nlB)) = nlc (LM (2 * (j + 1))) from by rw [show 2 * (j + 1) = 2 * j + 1 + 1 by omega, HST.out, HST.out, hZ]; simp only [ba_assoc])
        rw [← hZ] at e7 ⊢
        clear hZ EN
        obtain ⟨T1, hT1⟩ : ∃ T1, T1 = ringT xR xL (2 * j) := ⟨_, rfl⟩
        obtain ⟨T2, hT2⟩ : ∃ T2, T2 = ringT xR xL (2 * j + 1) := ⟨_, rfl⟩
        have HE := hid (HEQ.out j hlt)
        rw [← hT1, ← hT2] at HE EN2
        rw [← hT1] at H1 e1
        rw [← hT2] at H2 e2
        clear hT1 hT2
        have G := hid (le_trans HL.out (le_drewN wr 1))
        refine region_freeD (E := leX) (fun f args _ v => (args = #[.pointer (some ⟨b0, o0 + j * 2, none⟩)] → v = .string (T1 ++ nlB)) ∧ (args = #[.pointer (some ⟨b1, o1 + j * 2, none⟩)] → v = .string (T2 ++ nlB))) (by kernel_rfl) (by kernel_rfl) ?_
        refine wpFreeD_one rfl (.string Z) (fun w1 _ => by kernel_rfl) ?_
        simp only [Act.put, List.setIfInBounds_toArray, List.set_cons_succ, List.set_cons_zero]
        refine wpFreeD_one rfl (.pointer (some ⟨g, 0, none⟩)) (fun w1 _ => by kernel_rfl) ?_
        simp only [Act.put, List.setIfInBounds_toArray, List.set_cons_succ, List.set_cons_zero]
        refine wpFreeD_one rfl (.pointer (some ⟨g, 0, none⟩)) (fun w1 _ => by kernel_rfl) ?_
        simp only [Act.put, List.setIfInBounds_toArray, List.set_cons_succ, List.set_cons_zero]
        refine wpFreeD_one rfl (.pointer (some ⟨g, 0, none⟩)) (fun w1 _ => by kernel_rfl) ?_
        simp only [Act.put, List.setIfInBounds_toArray, List.set_cons_succ, List.set_cons_zero]
        refine wpFreeD_load1 rfl rfl rfl (p := ⟨g, 0, none⟩) (v := .slice (some ⟨b0, o0, none⟩) n k0) (fun w1 h1 => by rw [(HR.out.le (le_trans G.out h1)).cell?]; rfl) ukindRingSI ?_
        simp only [Act.put, List.setIfInBounds_toArray, List.set_cons_succ, List.set_cons_zero]
        refine wpFreeD_one rfl (.int .i64 j) (fun w1 _ => by kernel_rfl) ?_
        simp only [Act.put, List.setIfInBounds_toArray, List.set_cons_succ, List.set_cons_zero]
        refine wpFreeD_indexW0 rfl rfl rfl (i := j) rfl Tryd.underlying55 uinfoRingI hlt ?_
        simp only [Act.put, List.setIfInBounds_toArray, List.set_cons_succ, List.set_cons_zero]
        refine wpFreeD_callB rfl rfl Tryd.func54 (by kernel_rfl) (by kernel_rfl) (args := #[.pointer (some ⟨b0, o0 + j * 2, none⟩)]) (by simp [Act.eval]) (fun v w1 w2 hw hv => hv) (fun w1 hw1 _ => (H1.out w1 (le_trans G.out hw1)).mono ?_) ?_
        · rintro e w2 ⟨rfl, hl⟩
          exact ⟨_, rfl, hl, ⟨fun _ => rfl, fun he => by rw [HE.out (by simpa using he)]⟩⟩
        rintro v ⟨_, _, _, hv⟩
        have hv2 := hv.1 rfl
        subst hv2
        clear hv
        simp only [Act.put, List.setIfInBounds_toArray, List.set_cons_succ, List.set_cons_zero]
        refine wpFreeD_one rfl (.pointer (some ⟨g, 0, none⟩)) (fun w1 _ => by kernel_rfl) ?_
        simp only [Act.put, List.setIfInBounds_toArray, List.set_cons_succ, List.set_cons_zero]
        refine wpFreeD_one rfl (.pointer (some ⟨g, 0, none⟩)) (fun w1 _ => by kernel_rfl) ?_
        simp only [Act.put, List.setIfInBounds_toArray, List.set_cons_succ, List.set_cons_zero]
        refine wpFreeD_one rfl (.pointer (some ⟨g, 1, none⟩)) (fun w1 _ => by kernel_rfl) ?_
        simp only [Act.put, List.setIfInBounds_toArray, List.set_cons_succ, List.set_cons_zero]
        refine wpFreeD_load1 rfl rfl rfl (p := ⟨g, 1, none⟩) (v := .slice (some ⟨b1, o1, none⟩) n k1) (fun w1 h1 => by rw [(HR.out.le (le_trans G.out h1)).cell?]; rfl) ukindRingSI ?_
        simp only [Act.put, List.setIfInBounds_toArray, List.set_cons_succ, List.set_cons_zero]
        refine wpFreeD_one rfl (.int .i64 j) (fun w1 _ => by kernel_rfl) ?_
        simp only [Act.put, List.setIfInBounds_toArray, List.set_cons_succ, List.set_cons_zero]
        refine wpFreeD_indexW0 rfl rfl rfl (i := j) rfl Tryd.underlying55 uinfoRingI hlt ?_
        simp only [Act.put, List.setIfInBounds_toArray, List.set_cons_succ, List.set_cons_zero]
        refine wpFreeD_callB rfl rfl Tryd.func54 (by kernel_rfl) (by kernel_rfl) (args := #[.pointer (some ⟨b1, o1 + j * 2, none⟩)]) (by simp [Act.eval]) (fun v w1 w2 hw hv => hv) (fun w1 hw1 _ => (H2.out w1 (le_trans G.out hw1)).mono ?_) ?_
        · rintro e w2 ⟨rfl, hl⟩
          exact ⟨_, rfl, hl, ⟨fun he => by rw [HE.out (by simpa using he.symm)], fun _ => rfl⟩⟩
        rintro v ⟨_, _, _, hv⟩
        have hv2 := hv.2 rfl
        subst hv2
        clear hv
        simp only [Act.put, List.setIfInBounds_toArray, List.set_cons_succ, List.set_cons_zero]
        refine wpFreeD_cat rfl rfl (s := (T1 ++ nlB)) (r := (T2 ++ nlB)) rfl rfl (by first | omega | (simp only [ByteArray.size_append]; omega)) (q := T1 ++ nlB ++ (T2 ++ nlB)) rfl ?_
        simp only [Act.put, List.setIfInBounds_toArray, List.set_cons_succ, List.set_cons_zero]
        refine wpFreeD_cat rfl rfl (s := Z) (r := (T1 ++ nlB ++ (T2 ++ nlB))) rfl rfl (by first | omega | (simp only [ByteArray.size_append]; omega)) (q := nlc (LM (2 * (j + 1)))) EN2.out ?_
        simp only [Act.put, List.setIfInBounds_toArray, List.set_cons_succ, List.set_cons_zero]
        refine wpFreeD_one rfl (.string (nlc (LM (2 * (j + 1))))) (fun w1 _ => by kernel_rfl) ?_
        simp only [Act.put, List.setIfInBounds_toArray, List.set_cons_succ, List.set_cons_zero]
        refine wpFreeD_nil (fun wR hwR _ => ?_)
        have HL2 := hid (le_trans G.out hwR)
        clear hwR G
        go_wp2
        go_roundw
        case rel => exact ⟨j + 1, by omega, by go_num, rfl, HL2.out⟩
        case measure => simp [intOf]; omega
      · obtain rfl : j = n := by omega
        go_wp2_with ((with_reducible refine at_load rfl ?_); (refine wpList_load1X rfl rfl (by kernel_rfl) C0.out ukindRingSI ?_))
        go_ret
        exact ⟨rfl, HL.out⟩
end Go.Proofs.YtjihkfemejhllaaDoor

/- Names of instruments: 'isName' of the program, 'l08Name' of the model. -/
namespace Go.Fk
open Go Go.RowKit
/-- A byte of a text. -/
def byteN (s : ByteArray) (i : Nat) : Nat := (s.data.toList.getD i 0).toNat
def lowerB (s : ByteArray) (i : Nat) : Bool := decide (97 ≤ byteN s i) && decide (byteN s i ≤ 122)
def nameB (s : ByteArray) : Bool := decide (1 ≤ s.size) && decide (s.size ≤ 12) && allB (lowerB s) s.size
theorem byteN_lt (s : ByteArray) (i : Nat) : byteN s i < 256 := (s.data.toList.getD i 0).toNat_lt
theorem size_nil {s : ByteArray} (h : s.size = 0) : s = ⟨#[]⟩ := by
  obtain ⟨⟨l⟩⟩ := s
  have : l.length = 0 := h
  obtain rfl := List.length_eq_zero_iff.1 this
  rfl
theorem ne_nil {s : ByteArray} (h : s.size ≠ 0) : s.toList.isEmpty = false := by
  have e : s.toList.length = s.size := by rw [ByteArray.toList_eq, Array.length_toList]; rfl
  cases hl : s.toList with
  | nil => rw [hl] at e; exact absurd e.symm h
  | cons a l => rfl
theorem bytesRow_get {s : ByteArray} {cap i : Nat} (h : i < s.size) : (bytesRow s cap)[i]? = some (.int .u8 (byteN s i : Nat)) := by
  have hz : s.data.size = s.size := rfl
  unfold bytesRow
  rw [Array.getElem?_append_left (by simp [hz, h]), Array.getElem?_map, Array.getElem?_eq_getElem (by rw [hz]; exact h)]
  simp only [Option.map_some, byteN]
  congr 3
  rw [List.getD_eq_getElem?_getD, Array.getElem?_toList, Array.getElem?_eq_getElem (by rw [hz]; exact h)]
  rfl
theorem getB {s : ByteArray} {i : Nat} (h : i < s.size) : (s[i]'h).toNat = byteN s i := by
  obtain ⟨⟨l⟩⟩ := s
  have hl : i < l.length := h
  have e : (ByteArray.mk ⟨l⟩)[i]'h = l.getD i 0 := by
    simp only [List.getD, List.getElem?_eq_getElem hl, Option.getD_some]
    rfl
  rw [e]; rfl
theorem name_no {s : ByteArray} {i : Nat} (hi : i < s.size) (h : lowerB s i = false) : nameB s = false := by
  unfold nameB; rw [allB_no hi h, Bool.and_false]
theorem name_yes {s : ByteArray} (h1 : 1 ≤ s.size) (h2 : s.size ≤ 12) (h : ∀ i, i < s.size → lowerB s i = true) : nameB s = true := by
  unfold nameB; rw [allB_yes h]; simp [h1, h2]
end Go.Fk
namespace Go.Proofs.YtjihkfemejhllaaDoor
open Go.RowKit Go.Fk
end Go.Proofs.YtjihkfemejhllaaDoor

/- 'l01Split': a text cut at a byte. -/
namespace Go.Fk
open Go Go.RowKit
/-- The pieces that end ahead of so many bytes, and where the next one begins. -/
def splN (s : ByteArray) (c : Nat) : Nat → List ByteArray × Nat
  | 0 => ([], 0)
  | k + 1 => if byteN s k = c then ((splN s c k).1 ++ [s.extract (splN s c k).2 k], k + 1) else splN s c k
def splL (s : ByteArray) (c : Nat) : List ByteArray := (splN s c s.size).1 ++ [s.extract (splN s c s.size).2 s.size]
theorem splN_from {s : ByteArray} {c : Nat} (k : Nat) : (splN s c k).2 ≤ k := by
  induction k with
  | zero => exact Nat.le_refl _
  | succ k ih => simp only [splN]; split <;> (try simp) <;> omega
theorem splN_len {s : ByteArray} {c : Nat} (k : Nat) : (splN s c k).1.length ≤ k := by
  induction k with
  | zero => exact Nat.le_refl _
  | succ k ih => simp only [splN]; split <;> (try simp) <;> omega
def strs (l : List ByteArray) : List Value := l.map Value.string
theorem strs_one (l : List ByteArray) : ∀ u ∈ strs l, u.oneCell' = true := by
  intro u hu
  obtain ⟨x, _, rfl⟩ := List.mem_map.1 hu
  rfl
theorem strs_snoc (l : List ByteArray) (x : ByteArray) : strs l ++ [.string x] = strs (l ++ [x]) := by simp [strs]
theorem strs_len (l : List ByteArray) : (strs l).length = l.length := by simp [strs]
end Go.Fk
namespace Go.Proofs.YtjihkfemejhllaaDoor
open Go.RowKit Go.Fk
end Go.Proofs.YtjihkfemejhllaaDoor

/- Exploration only: prints targets. -/
open Lean Elab Tactic Meta in
def cutT (s : String) : String := if s.length > 2600 then (s.take 1200).toString ++ " .......... " ++ (s.drop (s.length - 1400)).toString else s
open Lean Elab Tactic Meta in
elab "tgt" : tactic => do
  let gs ← getGoals
  logInfo m!"{gs.length} goals"
  for g in gs do
    g.withContext do
      let t ← instantiateMVars (← g.getType)
      let s := toString (← ppExpr t)
      logInfo m!"TGT: {cutT s}"

/- 'PipeText' of the program; both. -/
namespace Go.Fk
open Go Go.RowKit Go.Proofs.YtjihkfemejhllaaDoor
/-- All blocks that there were are as they were, but one. -/
def KeepZ (wA wr : World) (z : Nat) : Prop := wA.heap.size ≤ wr.heap.size ∧ ∀ k, k < wA.heap.size → k ≠ z → wr.heap[k]? = wA.heap[k]?
theorem KeepZ.cell {wA wr : World} {z b o : Nat} {v : Value} (h : KeepZ wA wr z) (hb : b ≠ z) (hc : wA.cell? ⟨b, o, none⟩ = some v) : wr.cell? ⟨b, o, none⟩ = some v := by
  have hl : b < wA.heap.size := cell_lt' hc
  rw [← hc]
  exact World.cell?_of_block (w := wA) (h.2 b hl hb)
theorem KeepZ.rds {wA wr : World} {z B n : Nat} {t : TypeId} {cs : Array Value} {v : Value} {x : Nat → Nat} (h : KeepZ wA wr z) (hz : Row wA z t cs) (hcs : ∀ (i : Nat) (y : Nat), cs[i]? ≠ some (.float .f32 y)) (hr : RdS wA B v x n) : RdS wr B v x n := by
  rcases hr with ⟨h1, h2⟩ | ⟨a, cap, h1, h2, h3, h4⟩
  · exact .inl ⟨h1, h2⟩
  · refine .inr ⟨a, cap, h1, h2, h3, fun i hi => ?_⟩
    obtain ⟨g1, y, g2, g3⟩ := h4 i hi
    refine ⟨g1, y, ?_, g3⟩
    have hl : (a.add i).block < wA.heap.size := cell_lt' g2
    have hne : (a.add i).block ≠ z := fun e => by
      have hR : wA.heap[(a.add i).block]? = some (.cells cs t (0, 0)) := by rw [e]; exact hz
      have : cs[(a.add i).off]? = some (.float .f32 y) := by
        by_cases hs : (a.add i).spot.isSome = true
        · simp [World.cell?, hR, hs] at g2
        · simpa [World.cell?, hR, hs] using g2
      exact hcs _ y this
    rw [← g2]
    exact World.cell?_of_block (w := wA) (h.2 _ hl hne)
theorem KeepZ.le {wA wr w' : World} {z : Nat} (h : KeepZ wA wr z) (hl : Go.Fk.le wr w') : KeepZ wA w' z := ⟨Nat.le_trans h.1 hl.size, fun k hk hz => (hl.block k (Nat.lt_of_lt_of_le hk h.1)).trans (h.2 k hk hz)⟩
end Go.Fk
namespace Go.Proofs.YtjihkfemejhllaaDoor
open Go.RowKit Go.Fk
theorem fill1S (ti : TypeInfo) (p : ByteArray) (h : ti.size = 1) : Instr.fill (fun i => some (i * ti.size, ti.size)) ((Array.range (1 * ti.size)).map ((.string ⟨#[]⟩ : Value).cells[· % (.string ⟨#[]⟩ : Value).cells.size]!)) (#[(0, .string p)] : Array (Nat × Value)).toList = some #[.string p] := by
  rw [h]
  have hr : Array.range (1 * 1) = #[0] := by decide
  rw [hr]
  simp [Instr.fill, Value.cells]
theorem mkStr1 (p : ByteArray) (w : World) : (Instr.buildSlice 87 1 #[(0, .string p)]).run Tryd.prog w = .ok (.slice (some ⟨w.heap.size, 0, none⟩) 1 1) (w.alloc (.cells #[.string p] 9)) := by
  have h := infoStr3
  cases hi : Tryd.prog.info? 9 with
  | none => rw [hi] at h; simp at h
  | some i =>
    rw [hi] at h; simp at h
    exact run_buildSlice (P := Tryd.prog) w 87 9 1 _ _ i _ Tryd.underlying87 hi h.1 (by rw [h.2.1]; decide) (by rw [h.2.1]; decide) (fill1S _ _ h.2.1)
theorem run_JoinL (b o c : Nat) (xs : List ByteArray) (sep : ByteArray) (n : Nat) (hn : n = xs.length) (w : World) (hc : ∀ (j : Nat) x, xs[j]? = some x → w.cell? ⟨b, o + j, none⟩ = some (.string x)) (hb : b < w.heap.size) (hN : xs.length ≤ c) (hc2 : xs.length ≤ 1000000) (hl : (jnB sep xs).size ≤ 140737488355328) :
    Calls Tryd.prog 41 #[.slice (some ⟨b, o, none⟩) n c, .string sep] w fun e w' => e = .returned (.string (jnB sep xs)) ∧ le w w' := by
  subst hn
  exact (Any.strings_Join laysJ extraJ b o c xs sep w hc hb (by omega) hN (by rw [← jnB_data, ← ba_size]; exact hl)).mono fun e w' ⟨h1, h2⟩ => ⟨h1, h2⟩
set_option maxRecDepth 100000 in
set_option maxHeartbeats 4000000 in
theorem i_PipeText_yes (B : Nat) (v0 v1 v2 : Value) (n nS : Nat) (xR xL : Nat → CD) (yS : Nat → Nat) (k : Nat) (a b c x y : Nat) (op : Bool) (l r s : Nat) (w : World) (h0 : (CD.sl 2 n xR).RdN w B v0) (h1 : (CD.sl 2 n xL).RdN w B v1) (h2 : RdS w B v2 yS nS) (p0 : RgsOk xR n) (p1 : RgsOk xL n) (hf : fits .f32 a ∧ fits .f32 b ∧ fits .f32 c ∧ fits .f32 x ∧ fits .f32 y) (hg : fits .f32 l ∧ fits .f32 r ∧ fits .f32 s) (n1 : 1 ≤ n) (n3 : n ≤ 3) (nS3 : nS ≤ 3) (hq : ∀ t, t < n → rgN xL t = rgN xR t ∧ rgN xR t ≤ 1024 ∧ ∃ jR jL : Nat, rgK xR t = jR ∧ rgK xL t = jL ∧ jR < rgN xR t ∧ jL < rgN xR t) (hT : Tab10 w) (hV : ∀ w', le w w' → Calls Tryd.prog 40 #[.agg #[v0, v1, v2, .int .i64 (k : Nat), .float .f32 a, .float .f32 b, .float .f32 c, .float .f32 x, .float .f32 y, .bool op, .float .f32 l, .float .f32 r, .float .f32 s]] w' (Out_b true w')) : Calls Tryd.prog 19 #[.agg #[v0, v1, v2, .int .i64 (k : Nat), .float .f32 a, .float .f32 b, .float .f32 c, .float .f32 x, .float .f32 y, .bool op, .float .f32 l, .float .f32 r, .float .f32 s]] w (Out_t (nlc (pipeL op l r s yS nS k a b c x y xR xL (2 * n))) w) := by
  obtain ⟨fl, fr, fs⟩ := hg
  have ZK := hid (zok hq)
  obtain ⟨b0, o0, k0, rfl⟩ : ∃ b0 o0 k0, v0 = .slice (some ⟨b0, o0, none⟩) n k0 := by
    rcases h0.form with ⟨_, e⟩ | ⟨b, o, cap, e, _, _⟩
    · omega
    · exact ⟨b, o, cap, e⟩
  obtain ⟨b1, o1, k1, rfl⟩ : ∃ b1 o1 k1, v1 = .slice (some ⟨b1, o1, none⟩) n k1 := by
    rcases h1.form with ⟨_, e⟩ | ⟨b, o, cap, e, _, _⟩
    · omega
    · exact ⟨b, o, cap, e⟩
  have HV := hid hV
  have HN := hid (fun (z : Nat) (w' : World) (R : Row w' z 25 #[.float .f32 l, .float .f32 r, .float .f32 s]) => i_samplesText (tri l r s) ⟨z, 0, none⟩ 3 3 w' (by decide) (fun i hi => by match i, hi with | 0, _ => exact fl | 1, _ => exact fr | 2, _ => exact fs) (fun i hi => by rw [add_none, R.cell?]; match i, hi with | 0, _ => rfl | 1, _ => rfl | 2, _ => rfl))
  have HM3 := mkF3 l r s
  have HSc := hid (fun (w' : World) (hl : le w w') => i_scatterTextS yS nS B v2 w' (h2.le hl) (by omega))
  have HF := hid (fun (w' : World) => i_FilterText (k : Nat) a b c x y w' hf)
  have HRg := hid (fun (w' : World) (hl : le w w') => i_rings B b0 o0 k0 b1 o1 k1 n v2 xR xL k a b c x y op l r s w' n1 n3 (h0.le hl) (h1.le hl) p0 p1)
  have HRT := hid (fun (i : Nat) (hi : i < 2 * n) (u : Value) (w' : World) (hu : RdS w' B u (zX xR xL i) (zN xR xL i)) (hl : le w w') => show Calls Tryd.prog 46 #[.agg #[u, .int .i64 (zK xR xL i)]] w' (Out_t (ringT xR xL i) w') from by
    obtain ⟨z1, z2, q, z3, z4⟩ := ZK.out i hi
    unfold ringT
    rw [z3]
    exact i_ringTextS _ _ q B u w' hu z1 z2 z4 (hT.le hl))
  have SO2 := hid h2.one
  obtain ⟨LM, hLM⟩ : ∃ LM : Nat → List ByteArray, LM = pipeL op l r s yS nS k a b c x y xR xL := ⟨_, rfl⟩
  rw [show pipeL op l r s yS nS k a b c x y xR xL (2 * n) = LM (2 * n) by rw [hLM]]
  have HL0 := hid (show LM 0 = [line1 op l r s, scaW ++ samL yS nS, filT k a b c x y] by rw [hLM]; simp [pipeL])
  have HST := hid (fun m => show LM (m + 1) = LM m ++ [ringT xR xL m] by rw [hLM, pipeL_succ])
  have HLN := hid (fun m => show (LM m).length = 3 + m by rw [hLM, pipeL_len])
  have HSZ := hid (fun m (hm : m ≤ 2 * n) => show (nlc (LM m)).size ≤ 400000 by
    have h1 := nlc_size (m := 40000) (LM m) (by rw [hLM]; exact pipeL_size ZK.out hm op l r s yS nS3 k a b c x y)
    rw [show (LM m).length = 3 + m by rw [hLM, pipeL_len]] at h1
    have : (3 + m) * (40000 + 1) ≤ 9 * 40001 := Nat.mul_le_mul_right _ (by omega)
    omega)
  have HNE := hid (show LM (2 * n) ≠ [] from fun e => by have := congrArg List.length e; rw [hLM, pipeL_len] at this; simp at this)
  have HZ1 := line1_size op l r s
  have HJ := hid (fun (z : Nat) (w' : World) (R : Row w' z 9 #[.string pipW, .string (endB op), .string (txtS (tri l r s) 3)]) => show Calls Tryd.prog 41 #[.slice (some ⟨z, 0, none⟩) 3 3, .string spB] w' (Out_t (line1 op l r s) w') from
    run_Join z 0 3 [pipW, endB op, txtS (tri l r s) 3] spB 3 rfl w' (fun j u hj => by
      rw [Nat.zero_add, R.cell?]
      match j, hj with
      | 0, hj => simp at hj; subst hj; rfl
      | 1, hj => simp at hj; subst hj; rfl
      | 2, hj => simp at hj; subst hj; rfl
      | j + 3, hj => simp at hj) R.lt (Nat.le_refl _) (by decide) (by unfold line1 at HZ1; omega))
  have HIN : Hid (∃ i, Tryd.prog.info? 9 = some i ∧ i.zero = some (.string ⟨#[]⟩) ∧ i.size = 1 ∧ i.bytes = 16) := by
    have h := infoStr3
    cases hi : Tryd.prog.info? 9 with
    | none => rw [hi] at h; simp at h
    | some i => rw [hi] at h; simp at h; exact ⟨i, rfl, h.1, h.2.1, h.2.2⟩
  obtain ⟨i0, HIN⟩ := HIN
  replace HIN := hid HIN
  clear h0 h1 h2 p0 p1 hf hq hV hT fl fr fs hLM HZ1
  obtain ⟨T3, hT3⟩ : ∃ T3, T3 = txtS (tri l r s) 3 := ⟨_, rfl⟩
  rw [← hT3] at HN HJ
  clear hT3
  have HMS := mkStr3 pipW (endB op) T3
  unfold pipW endB at HMS
  obtain ⟨L1, hL1⟩ : ∃ L1, L1 = line1 op l r s := ⟨_, rfl⟩
  rw [← hL1] at HJ HL0
  clear hL1
  have F := (Frg.nil w).box 57 #[.slice (some ⟨b0, o0, none⟩) n k0, .slice (some ⟨b1, o1, none⟩) n k1, v2, .int .i64 (k : Nat), .float .f32 a, .float .f32 b, .float .f32 c, .float .f32 x, .float .f32 y, .bool op, .float .f32 l, .float .f32 r, .float .f32 s]
  cases op
  · skip
    simp only at HMS
    go_enter Tryd.func19, Tryd.ntmps19
    go_wp2_with (first | ((with_reducible refine listN F ?_); clear F; intro wN F) | ((with_reducible refine at_load rfl ?_); first | (with_reducible refine wpList_loadG F rfl rfl rfl m0 Tryd.underlying57 rfl uinfoPipeI rfl ?_) | (refine wpList_load1 F rfl rfl rfl m0 (f := 9) (v := .bool _) rfl ukindBool ?_) | (refine wpList_load1 F rfl rfl rfl m0 (f := 10) (v := .float .f32 l) rfl ukindFloat32 ?_) | (refine wpList_load1 F rfl rfl rfl m0 (f := 11) (v := .float .f32 r) rfl ukindFloat32 ?_) | (refine wpList_load1 F rfl rfl rfl m0 (f := 12) (v := .float .f32 s) rfl ukindFloat32 ?_)) | (go_at_call 40; ((with_reducible refine (HV.out _ F.below).mono ?_); rintro e w1 ⟨rfl, hl1⟩; replace F := F.le hl1; clear hl1)))
    replace F := F.box 25 #[.float .f32 l, .float .f32 r, .float .f32 s]
    first | ((with_reducible refine callAt0 F ?_); clear F; intro wN F) | ((with_reducible refine callAtN F ?_); clear F; intro wN F)
    refine (HN.out _ _ (F.row m0)).mono ?_
    rintro e w1 ⟨rfl, hl1⟩
    replace F := F.le hl1
    clear hl1
    go_wp2_with (first | ((with_reducible refine listN F ?_); clear F; intro wN F))
    replace F := F.box 9 #[.string pipW, .string (endB false), .string T3]
    first | ((with_reducible refine callAt0 F ?_); clear F; intro wN F) | ((with_reducible refine callAtN F ?_); clear F; intro wN F)
    refine (HJ.out _ _ (F.row m0)).mono ?_
    rintro e w1 ⟨rfl, hl1⟩
    replace F := F.le hl1
    clear hl1
    go_wp2_with (first | ((with_reducible refine listN F ?_); clear F; intro wN F))
    first | (refine wpAt0 F ?_; clear F; intro wN F) | (refine wpAtN F ?_; clear F; intro wN F)
    have HLw := hid (show le w wN from F.below)
    have HRP := hid (F.row m2)
    clear F HM3 HMS
    have G := hid (le_drewN wN 1)
    refine region_freeD (E := leX) (fun f args _ v => v = .string (if f = 43 then scaW ++ samL yS nS else filT k a b c x y)) (by kernel_rfl) (by kernel_rfl) ?_
    refine wpFreeD_one rfl (.string L1) (fun w1 _ => by kernel_rfl) ?_
    simp only [Act.put, List.setIfInBounds_toArray, List.set_cons_succ, List.set_cons_zero]
    refine wpFreeD_one rfl (.pointer (some ⟨w.heap.size, 2, none⟩)) (fun w1 _ => by kernel_rfl) ?_
    simp only [Act.put, List.setIfInBounds_toArray, List.set_cons_succ, List.set_cons_zero]
    refine wpFreeD_load1 rfl rfl rfl (p := ⟨w.heap.size, 2, none⟩) (v := v2) (fun w1 h1 => by rw [(HRP.out.le (le_trans G.out h1)).cell?]; rfl) ukindFloat32S ?_
    simp only [Act.put, List.setIfInBounds_toArray, List.set_cons_succ, List.set_cons_zero]
    refine wpFreeD_callB rfl rfl Tryd.func43 (by kernel_rfl) (by kernel_rfl) (args := #[v2]) (by simp [Act.eval]) (fun v w1 w2 hw hv => hv) (fun w1 hw1 _ => (HSc.out w1 (le_trans HLw.out (le_trans G.out hw1))).mono ?_) ?_
    · rintro e w2 ⟨rfl, hl⟩
      exact ⟨_, rfl, hl, rfl⟩
    rintro v ⟨_, _, _, hv⟩
    replace hv : v = .string (scaW ++ samL yS nS) := hv
    subst hv
    simp only [Act.put, List.setIfInBounds_toArray, List.set_cons_succ, List.set_cons_zero]
    refine wpFreeD_one rfl (.pointer (some ⟨w.heap.size, 3, none⟩)) (fun w1 _ => by kernel_rfl) ?_
    simp only [Act.put, List.setIfInBounds_toArray, List.set_cons_succ, List.set_cons_zero]
    refine wpFreeD_loadW rfl rfl rfl (p := ⟨w.heap.size, 3, none⟩) [.int .i64 (k : Nat), .float .f32 a, .float .f32 b, .float .f32 c, .float .f32 x, .float .f32 y] (fun w1 h1 i v hi => by
      rw [add_none, (HRP.out.le (le_trans G.out h1)).cell?, ← hi]
      match i, hi with
      | 0, _ => rfl
      | 1, _ => rfl
      | 2, _ => rfl
      | 3, _ => rfl
      | 4, _ => rfl
      | 5, _ => rfl
      | i + 6, hi => simp at hi) Tryd.underlying35 rfl infoFil rfl ?_
    simp only [Act.put, List.setIfInBounds_toArray, List.set_cons_succ, List.set_cons_zero]
    refine wpFreeD_callB rfl rfl Tryd.func44 (by kernel_rfl) (by kernel_rfl) (args := #[.agg #[.int .i64 (k : Nat), .float .f32 a, .float .f32 b, .float .f32 c, .float .f32 x, .float .f32 y]]) (by simp [Act.eval]) (fun v w1 w2 hw hv => hv) (fun w1 hw1 _ => (HF.out w1).mono ?_) ?_
    · rintro e w2 ⟨rfl, hl⟩
      exact ⟨_, rfl, hl, rfl⟩
    rintro v ⟨_, _, _, hv⟩
    replace hv : v = .string (filT k a b c x y) := hv
    subst hv
    simp only [Act.put, List.setIfInBounds_toArray, List.set_cons_succ, List.set_cons_zero]
    refine wpFreeD_newN rfl (fun z => .slice (some ⟨z, 0, none⟩) 3 3) (fun b b' h => by simpa using h) 9 #[.string L1, .string (scaW ++ samL yS nS), .string (filT k a b c x y)] (fun w1 => ?_) (fun z => ?_)
    · have hb := mkStr3 L1 (scaW ++ samL yS nS) (filT k a b c x y) w1
      simp [execOp, Act.eval, Result.andThen, hb]
    simp only [Act.put, List.setIfInBounds_toArray, List.set_cons_succ, List.set_cons_zero]
    refine wpFreeD_one rfl (.slice (some ⟨z, 0, none⟩) 3 3) (fun w1 _ => by kernel_rfl) ?_
    simp only [Act.put, List.setIfInBounds_toArray, List.set_cons_succ, List.set_cons_zero]
    refine wpFreeD_nil (fun wR hwR hF => ?_)
    obtain ⟨hz0, hqz⟩ := (hF 7).1.2 rfl
    clear hF
    have HLR := hid (le_trans HLw.out (le_trans G.out hwR))
    have HRP2 := hid (HRP.out.le (le_trans G.out hwR))
    have HZ0 := hid (show w.heap.size ≤ z from Nat.le_trans HLw.out.size (Nat.le_trans G.out.size hz0))
    have HQZ := hid hqz
    clear hwR hz0 hqz HRP HLw G
    have HPC := hid (fun (q : Nat) (v : Value) (hv : [Value.slice (some ⟨b0, o0, none⟩) n k0, .slice (some ⟨b1, o1, none⟩) n k1, v2, .int .i64 (k : Nat), .float .f32 a, .float .f32 b, .float .f32 c, .float .f32 x, .float .f32 y, .bool false, .float .f32 l, .float .f32 r, .float .f32 s][q]? = some v) => show wR.cell? ((⟨w.heap.size, 0, none⟩ : Addr).add q) = some v from by rw [add_none, Nat.zero_add, HRP2.out.cell?, ← hv]; match q, hv with | 0, _ => rfl | 1, _ => rfl | 2, _ => rfl | 3, _ => rfl | 4, _ => rfl | 5, _ => rfl | 6, _ => rfl | 7, _ => rfl | 8, _ => rfl | 9, _ => rfl | 10, _ => rfl | 11, _ => rfl | 12, _ => rfl | q + 13, hv => simp at hv)
    go_wp2_with (first | ((with_reducible refine at_load rfl ?_); (refine wpList_loadW rfl rfl rfl [.slice (some ⟨b0, o0, none⟩) n k0, .slice (some ⟨b1, o1, none⟩) n k1, v2, .int .i64 (k : Nat), .float .f32 a, .float .f32 b, .float .f32 c, .float .f32 x, .float .f32 y, .bool false, .float .f32 l, .float .f32 r, .float .f32 s] HPC.out Tryd.underlying57 rfl uinfoPipeI rfl ?_)))
    refine (HRg.out _ HLR.out).mono ?_
    rintro e wA ⟨v, rfl, ⟨q, cap, rfl, hq1, hq2, hq3⟩, hlA⟩
    have HZA := hid (HQZ.out.le hlA)
    have HLA := hid (le_trans HLR.out hlA)
    have HQ3 := hid hq3
    have HCS := hid (show ∀ (i : Nat) (yy : Nat), (#[Value.string L1, .string (scaW ++ samL yS nS), .string (filT k a b c x y)] : Array Value)[i]? ≠ some (.float .f32 yy) from fun i yy => by match i with | 0 => simp | 1 => simp | 2 => simp | i + 3 => simp)
    have HQNE := hid (show q ≠ z from fun e => by
      obtain ⟨u, c0, _, hu⟩ := HQ3.out 0 (by omega)
      rw [e, HZA.out.cell?] at c0
      have c1 : u = .string L1 := (Option.some.inj c0).symm
      rcases hu.form with ⟨e2, _⟩ | ⟨a2, cap2, e2, _⟩ <;> (rw [c1] at e2; cases e2))
    have OR := hid (show wA.ownsRow w.heap.size 9 1 (.slice (some ⟨z, 0, none⟩) 3 3) (3 + 0) (strs (LM 0)) from by
      rw [show LM 0 = [L1, scaW ++ samL yS nS, filT k a b c x y] from HL0.out]
      exact ⟨rfl, .inr ⟨z, 3, _, rfl, HZ0.out, HZA.out, Nat.le_refl _, by unfold maxLen; omega, rfl, rfl⟩⟩)
    clear hq1 hq2 hq3 hlA HPC HRP2 HQZ HLR
    go_wp2
    go_loopw [5, 35] (fun lv i wr => ∃ j : Nat, j ≤ 2 * n ∧ i = .int .i64 j ∧ Hid (wr.ownsRow w.heap.size 9 1 lv (3 + j) (strs (LM j))) ∧ Hid (∀ p, lv.ownBlock = some p → p = z ∨ wA.heap.size ≤ p) ∧ Hid (KeepZ wA wr z) ∧ Hid (le w wr)) (fun _ i _ => 2 * n - (intOf i).toNat)
    case atStart => exact ⟨0, by omega, rfl, OR.out, fun p hp => .inl (Option.some.inj hp).symm, ⟨Nat.le_refl _, fun k _ _ => rfl⟩, HLA.out⟩
    case round =>
      obtain ⟨j, hj, rfl, HO, HOB, HK, HL⟩ := hrel
      rename World => wr
      clear OR
      by_cases hlt : j < 2 * n
      · obtain ⟨u, c0, c1, hu⟩ := HQ3.out j hlt
        have d0 := HK.out.cell HQNE.out c0
        have d1 := HK.out.cell HQNE.out c1
        have HU := hid (HK.out.rds HZA.out HCS.out hu)
        have SU := hid hu.one
        have HCL := hid (fun (qi : Nat) (v : Value) (hv : [u, Value.int .i64 (zK xR xL j)][qi]? = some v) => show wr.cell? ((⟨q, 0 + j * 2, none⟩ : Addr).add qi) = some v from by
          rw [add_none, Nat.zero_add]
          match qi, hv with
          | 0, hv => simp at hv; subst hv; exact d0
          | 1, hv => simp at hv; subst hv; exact d1
          | qi + 2, hv => simp at hv)
        have HT := hid (HRT.out j hlt u)
        have HMJ := mkStr1 (ringT xR xL j)
        obtain ⟨RT, hRT⟩ : ∃ RT, RT = ringT xR xL j := ⟨_, rfl⟩
        have ES := hid (HST.out j)
        rw [← hRT] at HT HMJ ES
        clear hRT c0 c1 d0 d1 hu
        have F := Frg.nil wr
        go_wp2_with (first | (with_reducible refine wpList_indexW0 (i := j) rfl rfl rfl rfl Tryd.underlying55 uinfoRingI hlt ?_) | ((with_reducible refine at_load rfl ?_); (refine wpList_loadW rfl rfl rfl [u, .int .i64 (zK xR xL j)] HCL.out Tryd.underlying34 rfl uinfoRingI rfl ?_)) | (with_reducible refine stop_store rfl ?_))
        show wpList _ _ _ _ _ _
        clear HCL
        replace F := F.box 34 #[.slice none 0 0, .int .i64 0]
        refine wpList_storeD rfl rfl rfl (cells := #[u, .int .i64 (zK xR xL j)]) rfl (F.row m0) uinfoRingI rfl (by simp only [List.all_toArray', List.all_cons, List.all_nil, SU.out]; rfl) (fun w4 K => ?_)
        replace F := F.wr0 K
        clear K
        go_wp2_with (first | ((with_reducible refine listN F ?_); clear F; intro wN F) | ((with_reducible refine at_load rfl ?_); (with_reducible refine wpList_loadG F rfl rfl rfl m0 Tryd.underlying34 rfl uinfoRingI rfl ?_)) | (go_at_call 46; ((with_reducible refine (HT.out _ (HU.out.le F.below) (le_trans HL.out F.below)).mono ?_); rintro e w3 ⟨rfl, hl3⟩; replace F := F.le hl3; clear hl3)) | (at_builtin; refine wpList_append_own_at _ rfl _ _ 87 rfl w.heap.size 9 i0 (.string ⟨#[]⟩) 1 16 Tryd.underlying87 HIN.out.1 HIN.out.2.1 HIN.out.2.2.1 HIN.out.2.2.2 rfl (by decide) _ _ _ rfl ((ownsRow_le HO.out F.below).alloc _) ⟨_, 0, none⟩ 1 1 [.string RT] rfl rfl (fun jj x hj => by match jj, hj with | 0, hj => simp at hj; subst hj; exact (Row.new _ 9 #[.string _]).cell? 0) (fun x hx => by simp at hx; subst hx; rfl) (by unfold maxLen; omega) (by omega) (by have h1 := HL.out.size; have h2 := F.below.size; simp only [World.size_alloc]; omega) ?_; intro v' w5 hown hgr _ hob; have HOWN := hid hown; have HGR := hid hgr; have HOBN := hid hob; clear hown hgr hob))
        have HFB := hid F.below
        rename World => wX_
        go_roundw
        case rel =>
          refine ⟨j + 1, by omega, by go_num, ?_, ?_, ?_, ?_⟩
          · have := HOWN.out
            rw [strs_snoc, ← ES.out] at this
            exact this
          · intro p hp
            rcases HOBN.out with e | e
            · rw [e] at hp; exact HOB.out p hp
            · rw [e] at hp
              have := Option.some.inj hp
              have h1 := HK.out.1; have h2 := HFB.out.size
              simp only [World.size_alloc] at this
              right; omega
          · have h1 := HK.out.1; have h2 := HFB.out.size
            refine ⟨Nat.le_trans (Nat.le_trans h1 (Nat.le_trans h2 (le_alloc _ _).size)) HGR.out.size, fun k hk hz => ?_⟩
            rw [HGR.out.block k (by simp only [World.size_alloc]; omega) (fun e => by rcases HOB.out k e.symm with h | h; exact hz h; omega), (le_alloc _ _).block k (by omega), HFB.out.block k (by omega), HK.out.2 k hk hz]
          · exact Below.grown (le_trans HL.out (le_trans HFB.out (le_alloc _ _))) HGR.out (by have h1 := HL.out.size; have h2 := HFB.out.size; simp only [World.size_alloc]; omega) (fun p hp => (HO.out.lt p hp).1)
        case measure => simp [intOf]; omega
      · obtain rfl : j = 2 * n := by omega
        have HOO := HO.out
        obtain ⟨_, ⟨_, e⟩ | ⟨p, cp, cur, rfl, e1, e2, e3, e4, e5, e6⟩⟩ := HOO
        · omega
        have HJN := hid (run_JoinL p 0 cp (LM (2 * n)) nlB (3 + 2 * n) (HLN.out _).symm wr (fun jj x hx => by
          have hl : jj < 3 + 2 * n := by have := (List.getElem?_eq_some_iff.1 hx).1; rwa [HLN.out] at this
          rw [Nat.zero_add, HO.out.cellAt jj (by omega)]
          simp [strs, hx]) (by rcases Nat.lt_or_ge p wr.heap.size with h | h; exact h; rw [Array.getElem?_eq_none h] at e2; cases e2) (by rw [HLN.out]; exact e3) (by rw [HLN.out]; omega) (by have h := HSZ.out (2 * n) (Nat.le_refl _); rw [← nlc_jn _ HNE.out, ByteArray.size_append] at h; omega))
        obtain ⟨J, hJ⟩ : ∃ J, J = jnB nlB (LM (2 * n)) := ⟨_, rfl⟩
        have hJs : J.size ≤ 400000 := by have h := HSZ.out (2 * n) (Nat.le_refl _); rw [← nlc_jn _ HNE.out, ByteArray.size_append] at h; rw [hJ]; omega
        have EJ := hid (show J ++ nlB = nlc (LM (2 * n)) by rw [hJ]; exact nlc_jn _ HNE.out)
        rw [← hJ] at HJN
        clear hJ
        go_wp2_with (go_at_call 41; (refine HJN.out.mono ?_; rintro e w5 ⟨rfl, hl1⟩; skip))
        go_ret
        exact ⟨by rw [← EJ.out]; rfl, le_trans HL.out hl1⟩
  · skip
    simp only at HMS
    go_enter Tryd.func19, Tryd.ntmps19
    go_wp2_with (first | ((with_reducible refine listN F ?_); clear F; intro wN F) | ((with_reducible refine at_load rfl ?_); first | (with_reducible refine wpList_loadG F rfl rfl rfl m0 Tryd.underlying57 rfl uinfoPipeI rfl ?_) | (refine wpList_load1 F rfl rfl rfl m0 (f := 9) (v := .bool _) rfl ukindBool ?_) | (refine wpList_load1 F rfl rfl rfl m0 (f := 10) (v := .float .f32 l) rfl ukindFloat32 ?_) | (refine wpList_load1 F rfl rfl rfl m0 (f := 11) (v := .float .f32 r) rfl ukindFloat32 ?_) | (refine wpList_load1 F rfl rfl rfl m0 (f := 12) (v := .float .f32 s) rfl ukindFloat32 ?_)) | (go_at_call 40; ((with_reducible refine (HV.out _ F.below).mono ?_); rintro e w1 ⟨rfl, hl1⟩; replace F := F.le hl1; clear hl1)))
    replace F := F.box 25 #[.float .f32 l, .float .f32 r, .float .f32 s]
    first | ((with_reducible refine callAt0 F ?_); clear F; intro wN F) | ((with_reducible refine callAtN F ?_); clear F; intro wN F)
    refine (HN.out _ _ (F.row m0)).mono ?_
    rintro e w1 ⟨rfl, hl1⟩
    replace F := F.le hl1
    clear hl1
    go_wp2_with (first | ((with_reducible refine listN F ?_); clear F; intro wN F))
    replace F := F.box 9 #[.string pipW, .string (endB true), .string T3]
    first | ((with_reducible refine callAt0 F ?_); clear F; intro wN F) | ((with_reducible refine callAtN F ?_); clear F; intro wN F)
    refine (HJ.out _ _ (F.row m0)).mono ?_
    rintro e w1 ⟨rfl, hl1⟩
    replace F := F.le hl1
    clear hl1
    go_wp2_with (first | ((with_reducible refine listN F ?_); clear F; intro wN F))
    first | (refine wpAt0 F ?_; clear F; intro wN F) | (refine wpAtN F ?_; clear F; intro wN F)
    have HLw := hid (show le w wN from F.below)
    have HRP := hid (F.row m2)
    clear F HM3 HMS
    have G := hid (le_drewN wN 1)
    refine region_freeD (E := leX) (fun f args _ v => v = .string (if f = 43 then scaW ++ samL yS nS else filT k a b c x y)) (by kernel_rfl) (by kernel_rfl) ?_
    refine wpFreeD_one rfl (.string L1) (fun w1 _ => by kernel_rfl) ?_
    simp only [Act.put, List.setIfInBounds_toArray, List.set_cons_succ, List.set_cons_zero]
    refine wpFreeD_one rfl (.pointer (some ⟨w.heap.size, 2, none⟩)) (fun w1 _ => by kernel_rfl) ?_
    simp only [Act.put, List.setIfInBounds_toArray, List.set_cons_succ, List.set_cons_zero]
    refine wpFreeD_load1 rfl rfl rfl (p := ⟨w.heap.size, 2, none⟩) (v := v2) (fun w1 h1 => by rw [(HRP.out.le (le_trans G.out h1)).cell?]; rfl) ukindFloat32S ?_
    simp only [Act.put, List.setIfInBounds_toArray, List.set_cons_succ, List.set_cons_zero]
    refine wpFreeD_callB rfl rfl Tryd.func43 (by kernel_rfl) (by kernel_rfl) (args := #[v2]) (by simp [Act.eval]) (fun v w1 w2 hw hv => hv) (fun w1 hw1 _ => (HSc.out w1 (le_trans HLw.out (le_trans G.out hw1))).mono ?_) ?_
    · rintro e w2 ⟨rfl, hl⟩
      exact ⟨_, rfl, hl, rfl⟩
    rintro v ⟨_, _, _, hv⟩
    replace hv : v = .string (scaW ++ samL yS nS) := hv
    subst hv
    simp only [Act.put, List.setIfInBounds_toArray, List.set_cons_succ, List.set_cons_zero]
    refine wpFreeD_one rfl (.pointer (some ⟨w.heap.size, 3, none⟩)) (fun w1 _ => by kernel_rfl) ?_
    simp only [Act.put, List.setIfInBounds_toArray, List.set_cons_succ, List.set_cons_zero]
    refine wpFreeD_loadW rfl rfl rfl (p := ⟨w.heap.size, 3, none⟩) [.int .i64 (k : Nat), .float .f32 a, .float .f32 b, .float .f32 c, .float .f32 x, .float .f32 y] (fun w1 h1 i v hi => by
      rw [add_none, (HRP.out.le (le_trans G.out h1)).cell?, ← hi]
      match i, hi with
      | 0, _ => rfl
      | 1, _ => rfl
      | 2, _ => rfl
      | 3, _ => rfl
      | 4, _ => rfl
      | 5, _ => rfl
      | i + 6, hi => simp at hi) Tryd.underlying35 rfl infoFil rfl ?_
    simp only [Act.put, List.setIfInBounds_toArray, List.set_cons_succ, List.set_cons_zero]
    refine wpFreeD_callB rfl rfl Tryd.func44 (by kernel_rfl) (by kernel_rfl) (args := #[.agg #[.int .i64 (k : Nat), .float .f32 a, .float .f32 b, .float .f32 c, .float .f32 x, .float .f32 y]]) (by simp [Act.eval]) (fun v w1 w2 hw hv => hv) (fun w1 hw1 _ => (HF.out w1).mono ?_) ?_
    · rintro e w2 ⟨rfl, hl⟩
      exact ⟨_, rfl, hl, rfl⟩
    rintro v ⟨_, _, _, hv⟩
    replace hv : v = .string (filT k a b c x y) := hv
    subst hv
    simp only [Act.put, List.setIfInBounds_toArray, List.set_cons_succ, List.set_cons_zero]
    refine wpFreeD_newN rfl (fun z => .slice (some ⟨z, 0, none⟩) 3 3) (fun b b' h => by simpa using h) 9 #[.string L1, .string (scaW ++ samL yS nS), .string (filT k a b c x y)] (fun w1 => ?_) (fun z => ?_)
    · have hb := mkStr3 L1 (scaW ++ samL yS nS) (filT k a b c x y) w1
      simp [execOp, Act.eval, Result.andThen, hb]
    simp only [Act.put, List.setIfInBounds_toArray, List.set_cons_succ, List.set_cons_zero]
    refine wpFreeD_one rfl (.slice (some ⟨z, 0, none⟩) 3 3) (fun w1 _ => by kernel_rfl) ?_
    simp only [Act.put, List.setIfInBounds_toArray, List.set_cons_succ, List.set_cons_zero]
    refine wpFreeD_nil (fun wR hwR hF => ?_)
    obtain ⟨hz0, hqz⟩ := (hF 7).1.2 rfl
    clear hF
    have HLR := hid (le_trans HLw.out (le_trans G.out hwR))
    have HRP2 := hid (HRP.out.le (le_trans G.out hwR))
    have HZ0 := hid (show w.heap.size ≤ z from Nat.le_trans HLw.out.size (Nat.le_trans G.out.size hz0))
    have HQZ := hid hqz
    clear hwR hz0 hqz HRP HLw G
    have HPC := hid (fun (q : Nat) (v : Value) (hv : [Value.slice (some ⟨b0, o0, none⟩) n k0, .slice (some ⟨b1, o1, none⟩) n k1, v2, .int .i64 (k : Nat), .float .f32 a, .float .f32 b, .float .f32 c, .float .f32 x, .float .f32 y, .bool true, .float .f32 l, .float .f32 r, .float .f32 s][q]? = some v) => show wR.cell? ((⟨w.heap.size, 0, none⟩ : Addr).add q) = some v from by rw [add_none, Nat.zero_add, HRP2.out.cell?, ← hv]; match q, hv with | 0, _ => rfl | 1, _ => rfl | 2, _ => rfl | 3, _ => rfl | 4, _ => rfl | 5, _ => rfl | 6, _ => rfl | 7, _ => rfl | 8, _ => rfl | 9, _ => rfl | 10, _ => rfl | 11, _ => rfl | 12, _ => rfl | q + 13, hv => simp at hv)
    go_wp2_with (first | ((with_reducible refine at_load rfl ?_); (refine wpList_loadW rfl rfl rfl [.slice (some ⟨b0, o0, none⟩) n k0, .slice (some ⟨b1, o1, none⟩) n k1, v2, .int .i64 (k : Nat), .float .f32 a, .float .f32 b, .float .f32 c, .float .f32 x, .float .f32 y, .bool true, .float .f32 l, .float .f32 r, .float .f32 s] HPC.out Tryd.underlying57 rfl uinfoPipeI rfl ?_)))
    refine (HRg.out _ HLR.out).mono ?_
    rintro e wA ⟨v, rfl, ⟨q, cap, rfl, hq1, hq2, hq3⟩, hlA⟩
    have HZA := hid (HQZ.out.le hlA)
    have HLA := hid (le_trans HLR.out hlA)
    have HQ3 := hid hq3
    have HCS := hid (show ∀ (i : Nat) (yy : Nat), (#[Value.string L1, .string (scaW ++ samL yS nS), .string (filT k a b c x y)] : Array Value)[i]? ≠ some (.float .f32 yy) from fun i yy => by match i with | 0 => simp | 1 => simp | 2 => simp | i + 3 => simp)
    have HQNE := hid (show q ≠ z from fun e => by
      obtain ⟨u, c0, _, hu⟩ := HQ3.out 0 (by omega)
      rw [e, HZA.out.cell?] at c0
      have c1 : u = .string L1 := (Option.some.inj c0).symm
      rcases hu.form with ⟨e2, _⟩ | ⟨a2, cap2, e2, _⟩ <;> (rw [c1] at e2; cases e2))
    have OR := hid (show wA.ownsRow w.heap.size 9 1 (.slice (some ⟨z, 0, none⟩) 3 3) (3 + 0) (strs (LM 0)) from by
      rw [show LM 0 = [L1, scaW ++ samL yS nS, filT k a b c x y] from HL0.out]
      exact ⟨rfl, .inr ⟨z, 3, _, rfl, HZ0.out, HZA.out, Nat.le_refl _, by unfold maxLen; omega, rfl, rfl⟩⟩)
    clear hq1 hq2 hq3 hlA HPC HRP2 HQZ HLR
    go_wp2
    go_loopw [5, 35] (fun lv i wr => ∃ j : Nat, j ≤ 2 * n ∧ i = .int .i64 j ∧ Hid (wr.ownsRow w.heap.size 9 1 lv (3 + j) (strs (LM j))) ∧ Hid (∀ p, lv.ownBlock = some p → p = z ∨ wA.heap.size ≤ p) ∧ Hid (KeepZ wA wr z) ∧ Hid (le w wr)) (fun _ i _ => 2 * n - (intOf i).toNat)
    case atStart => exact ⟨0, by omega, rfl, OR.out, fun p hp => .inl (Option.some.inj hp).symm, ⟨Nat.le_refl _, fun k _ _ => rfl⟩, HLA.out⟩
    case round =>
      obtain ⟨j, hj, rfl, HO, HOB, HK, HL⟩ := hrel
      rename World => wr
      clear OR
      by_cases hlt : j < 2 * n
      · obtain ⟨u, c0, c1, hu⟩ := HQ3.out j hlt
        have d0 := HK.out.cell HQNE.out c0
        have d1 := HK.out.cell HQNE.out c1
        have HU := hid (HK.out.rds HZA.out HCS.out hu)
        have SU := hid hu.one
        have HCL := hid (fun (qi : Nat) (v : Value) (hv : [u, Value.int .i64 (zK xR xL j)][qi]? = some v) => show wr.cell? ((⟨q, 0 + j * 2, none⟩ : Addr).add qi) = some v from by
          rw [add_none, Nat.zero_add]
          match qi, hv with
          | 0, hv => simp at hv; subst hv; exact d0
          | 1, hv => simp at hv; subst hv; exact d1
          | qi + 2, hv => simp at hv)
        have HT := hid (HRT.out j hlt u)
        have HMJ := mkStr1 (ringT xR xL j)
        obtain ⟨RT, hRT⟩ : ∃ RT, RT = ringT xR xL j := ⟨_, rfl⟩
        have ES := hid (HST.out j)
        rw [← hRT] at HT HMJ ES
        clear hRT c0 c1 d0 d1 hu
        have F := Frg.nil wr
        go_wp2_with (first | (with_reducible refine wpList_indexW0 (i := j) rfl rfl rfl rfl Tryd.underlying55 uinfoRingI hlt ?_) | ((with_reducible refine at_load rfl ?_); (refine wpList_loadW rfl rfl rfl [u, .int .i64 (zK xR xL j)] HCL.out Tryd.underlying34 rfl uinfoRingI rfl ?_)) | (with_reducible refine stop_store rfl ?_))
        show wpList _ _ _ _ _ _
        clear HCL
        replace F := F.box 34 #[.slice none 0 0, .int .i64 0]
        refine wpList_storeD rfl rfl rfl (cells := #[u, .int .i64 (zK xR xL j)]) rfl (F.row m0) uinfoRingI rfl (by simp only [List.all_toArray', List.all_cons, List.all_nil, SU.out]; rfl) (fun w4 K => ?_)
        replace F := F.wr0 K
        clear K
        go_wp2_with (first | ((with_reducible refine listN F ?_); clear F; intro wN F) | ((with_reducible refine at_load rfl ?_); (with_reducible refine wpList_loadG F rfl rfl rfl m0 Tryd.underlying34 rfl uinfoRingI rfl ?_)) | (go_at_call 46; ((with_reducible refine (HT.out _ (HU.out.le F.below) (le_trans HL.out F.below)).mono ?_); rintro e w3 ⟨rfl, hl3⟩; replace F := F.le hl3; clear hl3)) | (at_builtin; refine wpList_append_own_at _ rfl _ _ 87 rfl w.heap.size 9 i0 (.string ⟨#[]⟩) 1 16 Tryd.underlying87 HIN.out.1 HIN.out.2.1 HIN.out.2.2.1 HIN.out.2.2.2 rfl (by decide) _ _ _ rfl ((ownsRow_le HO.out F.below).alloc _) ⟨_, 0, none⟩ 1 1 [.string RT] rfl rfl (fun jj x hj => by match jj, hj with | 0, hj => simp at hj; subst hj; exact (Row.new _ 9 #[.string _]).cell? 0) (fun x hx => by simp at hx; subst hx; rfl) (by unfold maxLen; omega) (by omega) (by have h1 := HL.out.size; have h2 := F.below.size; simp only [World.size_alloc]; omega) ?_; intro v' w5 hown hgr _ hob; have HOWN := hid hown; have HGR := hid hgr; have HOBN := hid hob; clear hown hgr hob))
        have HFB := hid F.below
        rename World => wX_
        go_roundw
        case rel =>
          refine ⟨j + 1, by omega, by go_num, ?_, ?_, ?_, ?_⟩
          · have := HOWN.out
            rw [strs_snoc, ← ES.out] at this
            exact this
          · intro p hp
            rcases HOBN.out with e | e
            · rw [e] at hp; exact HOB.out p hp
            · rw [e] at hp
              have := Option.some.inj hp
              have h1 := HK.out.1; have h2 := HFB.out.size
              simp only [World.size_alloc] at this
              right; omega
          · have h1 := HK.out.1; have h2 := HFB.out.size
            refine ⟨Nat.le_trans (Nat.le_trans h1 (Nat.le_trans h2 (le_alloc _ _).size)) HGR.out.size, fun k hk hz => ?_⟩
            rw [HGR.out.block k (by simp only [World.size_alloc]; omega) (fun e => by rcases HOB.out k e.symm with h | h; exact hz h; omega), (le_alloc _ _).block k (by omega), HFB.out.block k (by omega), HK.out.2 k hk hz]
          · exact Below.grown (le_trans HL.out (le_trans HFB.out (le_alloc _ _))) HGR.out (by have h1 := HL.out.size; have h2 := HFB.out.size; simp only [World.size_alloc]; omega) (fun p hp => (HO.out.lt p hp).1)
        case measure => simp [intOf]; omega
      · obtain rfl : j = 2 * n := by omega
        have HOO := HO.out
        obtain ⟨_, ⟨_, e⟩ | ⟨p, cp, cur, rfl, e1, e2, e3, e4, e5, e6⟩⟩ := HOO
        · omega
        have HJN := hid (run_JoinL p 0 cp (LM (2 * n)) nlB (3 + 2 * n) (HLN.out _).symm wr (fun jj x hx => by
          have hl : jj < 3 + 2 * n := by have := (List.getElem?_eq_some_iff.1 hx).1; rwa [HLN.out] at this
          rw [Nat.zero_add, HO.out.cellAt jj (by omega)]
          simp [strs, hx]) (by rcases Nat.lt_or_ge p wr.heap.size with h | h; exact h; rw [Array.getElem?_eq_none h] at e2; cases e2) (by rw [HLN.out]; exact e3) (by rw [HLN.out]; omega) (by have h := HSZ.out (2 * n) (Nat.le_refl _); rw [← nlc_jn _ HNE.out, ByteArray.size_append] at h; omega))
        obtain ⟨J, hJ⟩ : ∃ J, J = jnB nlB (LM (2 * n)) := ⟨_, rfl⟩
        have hJs : J.size ≤ 400000 := by have h := HSZ.out (2 * n) (Nat.le_refl _); rw [← nlc_jn _ HNE.out, ByteArray.size_append] at h; rw [hJ]; omega
        have EJ := hid (show J ++ nlB = nlc (LM (2 * n)) by rw [hJ]; exact nlc_jn _ HNE.out)
        rw [← hJ] at HJN
        clear hJ
        go_wp2_with (go_at_call 41; (refine HJN.out.mono ?_; rintro e w5 ⟨rfl, hl1⟩; skip))
        go_ret
        exact ⟨by rw [← EJ.out]; rfl, le_trans HL.out hl1⟩
end Go.Proofs.YtjihkfemejhllaaDoor

/- 'PipeText' of both. -/
namespace Go.Proofs.YtjihkfemejhllaaDoor
open Go.RowKit Go.Fk
def pipT (nR nL nS : Nat) (xR xL : Nat → CD) (yS : Nat → Nat) (k : Int) (a b c x y : Nat) (op : Bool) (l r s : Nat) : ByteArray := if okP nR nL nS xR xL yS k a b c x y l r s then nlc (pipeL op l r s yS nS k.toNat a b c x y xR xL (2 * nR)) else ⟨#[]⟩
theorem okP_more {nR nL nS : Nat} {xR xL : Nat → CD} {yS : Nat → Nat} {k : Int} {a b c x y l r s : Nat} (h : okP nR nL nS xR xL yS k a b c x y l r s = true) : (∃ q : Nat, k = q) ∧ nS ≤ 3 := by
  unfold okP at h
  simp only [Bool.and_eq_true, decide_eq_true_eq, beq_iff_eq] at h
  obtain ⟨⟨⟨⟨⟨⟨⟨⟨⟨⟨x1, x2⟩, x3⟩, x4⟩, x5⟩, _⟩, _⟩, _⟩, _⟩, _⟩, hA⟩ := h
  exact ⟨⟨1, by simpa using x5⟩, by omega⟩
set_option maxRecDepth 100000 in
set_option maxHeartbeats 4000000 in
theorem i_PipeText (B : Nat) (v0 v1 v2 : Value) (nR nL nS : Nat) (xR xL : Nat → CD) (yS : Nat → Nat) (k : Int) (a b c x y : Nat) (op : Bool) (l r s : Nat) (w : World) (h0 : (CD.sl 2 nR xR).RdN w B v0) (h1 : (CD.sl 2 nL xL).RdN w B v1) (h2 : RdS w B v2 yS nS) (p0 : RgsOk xR nR) (p1 : RgsOk xL nL) (hf : fits .f32 a ∧ fits .f32 b ∧ fits .f32 c ∧ fits .f32 x ∧ fits .f32 y) (hg : fits .f32 l ∧ fits .f32 r ∧ fits .f32 s) (hT : Tab10 w) : Calls Tryd.prog 19 #[.agg #[v0, v1, v2, .int .i64 k, .float .f32 a, .float .f32 b, .float .f32 c, .float .f32 x, .float .f32 y, .bool op, .float .f32 l, .float .f32 r, .float .f32 s]] w (Out_t (pipT nR nL nS xR xL yS k a b c x y op l r s) w) := by
  unfold pipT
  have HV := hid (fun (w' : World) (hl : le w w') => i_ValidPipe B v0 v1 v2 nR nL nS xR xL yS k a b c x y op l r s w' (h0.le hl) (h1.le hl) (h2.le hl) p0 p1 hf hg)
  cases hok : okP nR nL nS xR xL yS k a b c x y l r s
  · rw [hok] at HV
    have F := (Frg.nil w).box 57 #[v0, v1, v2, .int .i64 k, .float .f32 a, .float .f32 b, .float .f32 c, .float .f32 x, .float .f32 y, .bool op, .float .f32 l, .float .f32 r, .float .f32 s]
    clear hok h0 h1 h2 p0 p1 hf hg hT
    go_enter Tryd.func19, Tryd.ntmps19
    go_wp2_with (first | ((with_reducible refine listN F ?_); clear F; intro wN F) | ((with_reducible refine at_load rfl ?_); (with_reducible refine wpList_loadG F rfl rfl rfl m0 Tryd.underlying57 rfl uinfoPipeI rfl ?_)) | (go_at_call 40; ((with_reducible refine (HV.out _ F.below).mono ?_); rintro e w1 ⟨rfl, hl1⟩; replace F := F.le hl1; clear hl1)))
    go_ret
    exact ⟨rfl, F.below⟩
  · obtain ⟨n1, n3, rfl, hq⟩ := okP_parts hok
    obtain ⟨⟨k, rfl⟩, hS⟩ := okP_more hok
    simp only [Int.toNat_natCast]
    rw [hok] at HV
    exact i_PipeText_yes B v0 v1 v2 _ nS xR xL yS k a b c x y op l r s w h0 h1 h2 p0 p1 hf hg n1 n3 hS hq hT HV.out
set_option maxRecDepth 100000 in
set_option maxHeartbeats 4000000 in
theorem s_PipeText (B : Nat) (v0 v1 v2 : Value) (nR nL nS : Nat) (xR xL : Nat → CD) (yS : Nat → Nat) (k : Int) (a b c x y : Nat) (op : Bool) (l r s : Nat) (w : World) (h0 : (CD.sl 2 nR xR).RdN w B v0) (h1 : (CD.sl 2 nL xL).RdN w B v1) (h2 : RdS w B v2 yS nS) (p0 : RgsOk xR nR) (p1 : RgsOk xL nL) (hf : fits .f32 a ∧ fits .f32 b ∧ fits .f32 c ∧ fits .f32 x ∧ fits .f32 y) (hg : fits .f32 l ∧ fits .f32 r ∧ fits .f32 s) : Calls Tryd.prog 17 #[.agg #[v0, v1, v2, .int .i64 k, .float .f32 a, .float .f32 b, .float .f32 c, .float .f32 x, .float .f32 y, .bool op, .float .f32 l, .float .f32 r, .float .f32 s]] w (Out_t (pipT nR nL nS xR xL yS k a b c x y op l r s) w) := by
  unfold pipT
  have HV := hid (fun (w' : World) (hl : le w w') (R : Row w' w.heap.size 57 #[v0, v1, v2, .int .i64 k, .float .f32 a, .float .f32 b, .float .f32 c, .float .f32 x, .float .f32 y, .bool op, .float .f32 l, .float .f32 r, .float .f32 s]) => s_l04Ok B v0 v1 v2 nR nL nS xR xL yS k a b c x y op l r s w.heap.size w' R (h0.le hl) (h1.le hl) (h2.le hl) p0 p1 hf hg)
  cases hok : okP nR nL nS xR xL yS k a b c x y l r s
  · rw [hok] at HV
    have F := (Frg.nil w).box 57 #[v0, v1, v2, .int .i64 k, .float .f32 a, .float .f32 b, .float .f32 c, .float .f32 x, .float .f32 y, .bool op, .float .f32 l, .float .f32 r, .float .f32 s]
    clear hok h0 h1 h2 p0 p1 hf hg
    go_enter Tryd.func17, Tryd.ntmps17
    go_wp2_with (first | ((with_reducible refine listN F ?_); clear F; intro wN F) | (go_at_call 36; ((with_reducible refine (HV.out _ F.below (F.row m0)).mono ?_); rintro e w1 ⟨rfl, hl1⟩; replace F := F.le hl1; clear hl1)))
    go_ret
    exact ⟨rfl, F.below⟩
  · obtain ⟨n1, n3, rfl, hq⟩ := okP_parts hok
    obtain ⟨⟨k, rfl⟩, hS⟩ := okP_more hok
    simp only [Int.toNat_natCast]
    rw [hok] at HV
    have HX := hid (fun (w' : World) (hl : le w w') (R : Row w' w.heap.size 57 #[v0, v1, v2, .int .i64 (k : Nat), .float .f32 a, .float .f32 b, .float .f32 c, .float .f32 x, .float .f32 y, .bool op, .float .f32 l, .float .f32 r, .float .f32 s]) => s_l04Text B v0 v1 v2 _ nS xR xL yS k a b c x y op l r s w.heap.size w' R (h0.le hl) (h1.le hl) (h2.le hl) p0 p1 hf hg n1 n3 hS hq)
    have F := (Frg.nil w).box 57 #[v0, v1, v2, .int .i64 (k : Nat), .float .f32 a, .float .f32 b, .float .f32 c, .float .f32 x, .float .f32 y, .bool op, .float .f32 l, .float .f32 r, .float .f32 s]
    clear hok h0 h1 h2 p0 p1 hf hg
    go_enter Tryd.func17, Tryd.ntmps17
    go_wp2_with (first | ((with_reducible refine listN F ?_); clear F; intro wN F) | (go_at_call 36; ((with_reducible refine (HV.out _ F.below (F.row m0)).mono ?_); rintro e w1 ⟨rfl, hl1⟩; replace F := F.le hl1; clear hl1)) | (go_at_call 37; ((with_reducible refine (HX.out _ F.below (F.row m0)).mono ?_); rintro e w1 ⟨rfl, hl1⟩; replace F := F.le hl1; clear hl1)))
    go_ret
    exact ⟨rfl, F.below⟩
theorem both_PipeText (cs : List CD) (h : HasShL shPipe cs) : ∃ ar0 : ByteArray, (∀ (w : World) (B : Nat) (u : List Value), RdLN w B (cs.map CD.cp) u → Calls Tryd.prog 17 #[.agg u.toArray] w (Out_t ar0 w)) ∧ (∀ (w : World) (B : Nat) (u : List Value), RdLN w B (cs.map CD.cp) u → Tab10 w → Calls Tryd.prog 19 #[.agg u.toArray] w (Out_t ar0 w)) := by
  obtain ⟨nR, nL, nS, xR, xL, xS, k, a, b, c, x, y, op, l, r, s, rfl, p0, p1, hS⟩ := pipe_data h
  refine ⟨pipT nR nL nS (fun i => (xR i).cn) (fun i => (xL i).cn) (fun i => (xS i).cn.fx) k a b c x y op l r s, fun w B u hu => ?_, fun w B u hu hT => ?_⟩
  · obtain ⟨v0, v1, v2, rfl, h0, h1, h2, hf, hg⟩ := pipe_open hu hS
    exact s_PipeText B v0 v1 v2 nR nL nS (fun i => (xR i).cn) (fun i => (xL i).cn) (fun i => (xS i).cn.fx) k a b c x y op l r s w h0 h1 h2 p0 p1 hf hg
  · obtain ⟨v0, v1, v2, rfl, h0, h1, h2, hf, hg⟩ := pipe_open hu hS
    exact i_PipeText B v0 v1 v2 nR nL nS (fun i => (xR i).cn) (fun i => (xL i).cn) (fun i => (xS i).cn.fx) k a b c x y op l r s w h0 h1 h2 p0 p1 hf hg hT
end Go.Proofs.YtjihkfemejhllaaDoor

/- The walk of 'FnExactPipeText'. -/
namespace Go.Proofs.YtjihkfemejhllaaDoor.fnExactPipeText
open Go.RowKit Go.Fk
set_option maxRecDepth 100000 in
set_option maxHeartbeats 4000000 in
theorem core (cs0 : List CD) (vs0 : List Value) (ar0 : ByteArray) (w : World) (z0 : RdL w w.heap.size cs0 vs0) (k0 : ShOkL shPipe cs0) (hT : Tab10 w) (hz : szL cs0 ≤ 1048576)
    (hS : ∀ (w : World) (B0 : Nat) (u0 : List Value), RdLN w B0 (cs0.map CD.cp) u0 → Calls Tryd.prog 17 #[.agg u0.toArray] w (Out_t ar0 w))
    (hI : ∀ (w : World) (B0 : Nat) (u0 : List Value), RdLN w B0 (cs0.map CD.cp) u0 → Tab10 w → Calls Tryd.prog 19 #[.agg u0.toArray] w (Out_t ar0 w)) :
    Calls Tryd.prog 5 #[.agg vs0.toArray] w fun e w' => e = .returned (.bool true) ∧ Below w.heap.size w w' := by
  have Z0 := hid z0; have K0 := hid k0; have hl0 : Hid (vs0.length = 13) := z0.1.trans k0.1; clear z0 k0
  have hz0 : szL cs0 ≤ 1048576 := by omega
  have hm0 : ¬ (1048576 : Int) - (szL cs0 : Nat) < 0 := by omega
  have HS := hid hS; have HI := hid hI; clear hS hI
  have HTb := hid hT; clear hT
  have F := Frg.nil w
  replace F := F.box 52 vs0.toArray
  go_enter Tryd.func5, Tryd.ntmps5
  go_wp2_with (first | (((with_reducible refine listN F ?_); clear F; intro wN F)) | ((with_reducible refine at_loadU rfl rfl ?_); first | (with_reducible refine wpList_loadG F rfl rfl rfl (by first | exact m0 | exact m1 | exact m2 | exact m3 | exact m4 | exact m5 | exact m6 | exact m7 | exact m8) Tryd.underlying57 rfl uinfoPipeI (by simp only [List.size_toArray]; first | exact hl0.out | exact hl1.out | exact hu0.out | exact hu1.out) ?_) | (with_reducible refine wpList_loadG F rfl rfl rfl (by first | exact m0 | exact m1 | exact m2 | exact m3 | exact m4 | exact m5 | exact m6 | exact m7 | exact m8) Tryd.underlying52 rfl uinfoPipeL (by simp only [List.size_toArray]; first | exact hl0.out | exact hl1.out | exact hu0.out | exact hu1.out) ?_)) | (go_at_call 16; ((with_reducible refine (szU_Pipe _ cs0 vs0 (1048576 : Int) ((1048576 : Int) - (szL cs0 : Nat)) _ (Z0.out.le F.below) K0.out (by omega) (by omega) (lessBy_pos hm0)).mono ?_); rintro e w1 ⟨rfl, hb1⟩; replace F := F.le hb1)) | (go_at_call 18; ((with_reducible refine (toU_Pipe _ cs0 vs0 _ (Z0.out.le F.below) K0.out hz0).mono ?_); rintro e w1 ⟨usA0, rfl, ho, hl⟩; have hu0 : Hid (usA0.length = 13) := ho.1.trans ((List.length_map ..).trans K0.out.1); have ho0 := hid ho.all_one; replace F := F.lay1 hl ho; clear ho hl)))
  first | ((with_reducible refine callAt0 F ?_); clear F; intro wN F) | ((with_reducible refine callAtN F ?_); clear F; intro wN F)
  refine (HS.out _ _ _ (F.layN (by first | exact m0 | exact m1 | exact m2 | exact m3 | exact m4 | exact m5 | exact m6 | exact m7 | exact m8))).mono ?_
  rintro e wS ⟨rfl, hlS⟩
  replace F := F.le hlS
  go_wp2_with (first | (((with_reducible refine listN F ?_); clear F; intro wN F)) | ((with_reducible refine at_store rfl ?_); first | (refine wpList_storeG F rfl rfl rfl rfl rfl (by simp only [List.size_toArray]; first | (rw [hu0.out]; exact uinfoPipeI) | (rw [hu1.out]; exact uinfoPipeI)) (by simp only [List.size_toArray]; first | (rw [hu0.out]; rfl) | (rw [hu1.out]; rfl)) (by first | exact ho0.out | exact ho1.out) ?_; clear F; intro W F zW; clear zW)) | ((with_reducible refine at_loadU rfl rfl ?_); first | (with_reducible refine wpList_loadG F rfl rfl rfl (by first | exact m0 | exact m1 | exact m2 | exact m3 | exact m4 | exact m5 | exact m6 | exact m7 | exact m8) Tryd.underlying57 rfl uinfoPipeI (by simp only [List.size_toArray]; first | exact hl0.out | exact hl1.out | exact hu0.out | exact hu1.out) ?_) | (with_reducible refine wpList_loadG F rfl rfl rfl (by first | exact m0 | exact m1 | exact m2 | exact m3 | exact m4 | exact m5 | exact m6 | exact m7 | exact m8) Tryd.underlying52 rfl uinfoPipeL (by simp only [List.size_toArray]; first | exact hl0.out | exact hl1.out | exact hu0.out | exact hu1.out) ?_)) | (go_at_call 18; ((with_reducible refine (toU_Pipe _ cs0 vs0 _ (Z0.out.le F.below) K0.out hz0).mono ?_); rintro e w1 ⟨usB0, rfl, ho, hl⟩; have hu0 : Hid (usB0.length = 13) := ho.1.trans ((List.length_map ..).trans K0.out.1); have ho0 := hid ho.all_one; replace F := F.lay1 hl ho; clear ho hl)))
  first | ((with_reducible refine callAt0 F ?_); clear F; intro wN F) | ((with_reducible refine callAtN F ?_); clear F; intro wN F)
  refine (HI.out _ _ _ (F.layN (by first | exact m0 | exact m1 | exact m2 | exact m3 | exact m4 | exact m5 | exact m6 | exact m7 | exact m8)) (HTb.out.le F.below)).mono ?_
  rintro e wI ⟨rfl, hlI⟩
  replace F := F.le hlI
  go_wp2_with (first | (((with_reducible refine listN F ?_); clear F; intro wN F)) | ((with_reducible refine at_store rfl ?_); first | (refine wpList_storeG F rfl rfl rfl rfl rfl (by simp only [List.size_toArray]; first | (rw [hu0.out]; exact uinfoPipeI) | (rw [hu1.out]; exact uinfoPipeI)) (by simp only [List.size_toArray]; first | (rw [hu0.out]; rfl) | (rw [hu1.out]; rfl)) (by first | exact ho0.out | exact ho1.out) ?_; clear F; intro W F zW; clear zW)) | ((with_reducible refine at_loadU rfl rfl ?_); first | (with_reducible refine wpList_loadG F rfl rfl rfl (by first | exact m0 | exact m1 | exact m2 | exact m3 | exact m4 | exact m5 | exact m6 | exact m7 | exact m8) Tryd.underlying57 rfl uinfoPipeI (by simp only [List.size_toArray]; first | exact hl0.out | exact hl1.out | exact hu0.out | exact hu1.out) ?_) | (with_reducible refine wpList_loadG F rfl rfl rfl (by first | exact m0 | exact m1 | exact m2 | exact m3 | exact m4 | exact m5 | exact m6 | exact m7 | exact m8) Tryd.underlying52 rfl uinfoPipeL (by simp only [List.size_toArray]; first | exact hl0.out | exact hl1.out | exact hu0.out | exact hu1.out) ?_)))
  first | (refine wpAt0 F ?_; clear F; intro wN F) | (refine wpAtN F ?_; clear F; intro wN F)
  refine region_freeD (E := leX) (fun f _ w v => if f = 18 then ∃ (us : List Value) (B : Nat), v = .agg us.toArray ∧ RdL w B (cs0.map CD.cp) us else v = .bool true) (by kernel_rfl) (by kernel_rfl) ?_
  refine wpFreeD_loadG F rfl rfl rfl rfl (by first | exact m0 | exact m1 | exact m2 | exact m3 | exact m4 | exact m5 | exact m6 | exact m7 | exact m8) Tryd.underlying57 rfl uinfoPipeI (by simp only [List.size_toArray]; exact hu0.out) ?_
  simp only [Act.put, List.setIfInBounds_toArray, List.set_cons_succ, List.set_cons_zero]
  refine wpFreeD_loadG F rfl rfl rfl rfl (by first | exact m0 | exact m1 | exact m2 | exact m3 | exact m4 | exact m5 | exact m6 | exact m7 | exact m8) Tryd.underlying52 rfl uinfoPipeL (by simp only [List.size_toArray]; exact hl0.out) ?_
  simp only [Act.put, List.setIfInBounds_toArray, List.set_cons_succ, List.set_cons_zero]
  refine wpFreeD_callB rfl rfl Tryd.func18 (by kernel_rfl) (by kernel_rfl) (args := #[.agg vs0.toArray]) (by simp [Act.eval]) (fun v w1 w2 hw hv => by simp only [if_true] at hv ⊢; obtain ⟨u, B, h1, h2⟩ := hv; exact ⟨u, B, h1, h2.le hw⟩) (fun w1 hw1 _ => (toU_Pipe _ cs0 vs0 w1 (Z0.out.le (le_trans (F.drewN _).below hw1)) K0.out hz0).mono ?_) ?_
  · rintro e w2 ⟨u, rfl, ho, hl⟩
    exact ⟨_, rfl, hl, by simp only [if_true]; exact ⟨u, _, rfl, ho.rd (fun _ hj => hj.2)⟩⟩
  rintro v ⟨_, _, _, hv⟩
  simp only [if_true] at hv
  obtain ⟨u0, Bu0, rfl, _⟩ := hv
  simp only [Act.put, List.setIfInBounds_toArray, List.set_cons_succ, List.set_cons_zero]
  refine wpFreeD_callB rfl rfl Tryd.func20 (by kernel_rfl) (by kernel_rfl) (args := #[.agg usB0.toArray, .agg u0.toArray]) (by simp [Act.eval]) (fun v w1 w2 hw hv => by simp only [show ¬ (20 = 18) by decide, if_false] at hv ⊢; exact hv) (fun w1 hw1 hbe => ?_) ?_
  · have hk := (hbe ⟨2, Ground.data⟩ (by simp) (by kernel_rfl)).2 rfl
    simp only [if_true] at hk
    obtain ⟨u', B', he, hr⟩ := hk
    obtain rfl : u0 = u' := by simpa using he
    refine (eqU_Pipe _ _ (cs0.map CD.cp) _ _ _ (((F.drewN 1).le hw1).layR (by first | exact m0 | exact m1 | exact m2 | exact m3 | exact m4 | exact m5 | exact m6 | exact m7 | exact m8)) hr K0.out.cp (by rw [szL_cp]; exact hz0)).mono ?_
    rintro e w2 ⟨rfl, hl⟩
    exact ⟨_, rfl, hl, by simp only [show ¬ (20 = 18) by decide, if_false]⟩
  rintro v ⟨_, _, _, hv⟩
  simp only [show ¬ (20 = 18) by decide, if_false] at hv
  subst hv
  simp only [Act.put, List.setIfInBounds_toArray, List.set_cons_succ, List.set_cons_zero]
  refine wpFreeD_one rfl (.bool false) (fun w1 _ => by kernel_rfl) ?_
  simp only [Act.put, List.setIfInBounds_toArray, List.set_cons_succ, List.set_cons_zero]
  refine wpFreeD_nil (fun wR hwR _ => ?_)
  replace F := (F.drewN 1).le hwR
  clear hwR
  go_wp2_with (first | (((with_reducible refine listN F ?_); clear F; intro wN F)) | ((with_reducible refine at_loadU rfl rfl ?_); first | (with_reducible refine wpList_loadG F rfl rfl rfl (by first | exact m0 | exact m1 | exact m2 | exact m3 | exact m4 | exact m5 | exact m6 | exact m7 | exact m8) Tryd.underlying57 rfl uinfoPipeI (by simp only [List.size_toArray]; first | exact hl0.out | exact hl1.out | exact hu0.out | exact hu1.out) ?_) | (with_reducible refine wpList_loadG F rfl rfl rfl (by first | exact m0 | exact m1 | exact m2 | exact m3 | exact m4 | exact m5 | exact m6 | exact m7 | exact m8) Tryd.underlying52 rfl uinfoPipeL (by simp only [List.size_toArray]; first | exact hl0.out | exact hl1.out | exact hu0.out | exact hu1.out) ?_)))
  go_ret
  first | exact ⟨rfl, F.below⟩ | exact ⟨rfl, below_drewN F.below _⟩
set_option maxRecDepth 100000 in
set_option maxHeartbeats 4000000 in
theorem large0 (cs0 : List CD) (vs0 : List Value) (w : World) (z0 : RdL w w.heap.size cs0 vs0) (k0 : ShOkL shPipe cs0)  (hg : ¬ szL cs0 ≤ 1048576) :
    Calls Tryd.prog 5 #[.agg vs0.toArray] w fun e w' => e = .returned (.bool true) ∧ Below w.heap.size w w' := by
  have Z0 := hid z0; have K0 := hid k0; have hl0 : Hid (vs0.length = 13) := z0.1.trans k0.1; clear z0 k0
  have hn0 : (1048576 : Int) - (szL cs0 : Nat) < 0 := by omega
  have F := Frg.nil w
  replace F := F.box 52 vs0.toArray
  go_enter Tryd.func5, Tryd.ntmps5
  go_wp2_with (first | (((with_reducible refine listN F ?_); clear F; intro wN F)) | ((with_reducible refine at_loadU rfl rfl ?_); first | (with_reducible refine wpList_loadG F rfl rfl rfl (by first | exact m0 | exact m1 | exact m2 | exact m3 | exact m4 | exact m5 | exact m6 | exact m7 | exact m8) Tryd.underlying57 rfl uinfoPipeI (by simp only [List.size_toArray]; first | exact hl0.out | exact hl1.out | exact hu0.out | exact hu1.out) ?_) | (with_reducible refine wpList_loadG F rfl rfl rfl (by first | exact m0 | exact m1 | exact m2 | exact m3 | exact m4 | exact m5 | exact m6 | exact m7 | exact m8) Tryd.underlying52 rfl uinfoPipeL (by simp only [List.size_toArray]; first | exact hl0.out | exact hl1.out | exact hu0.out | exact hu1.out) ?_)) | (go_at_call 16; ((with_reducible refine (szU_Pipe _ cs0 vs0 (1048576 : Int) (-1 : Int) _ (Z0.out.le F.below) K0.out (by omega) (by omega) (lessBy_neg hn0)).mono ?_); rintro e w1 ⟨rfl, hb1⟩; replace F := F.le hb1)))
  go_ret
  first | exact ⟨rfl, F.below⟩ | exact ⟨rfl, below_drewN F.below _⟩
theorem walk (cs0 : List CD) (vs0 : List Value) (w : World) (k0 : HasShL shPipe cs0) (z0 : RdL w w.heap.size cs0 vs0) (hT : Tab10 w) :
    Calls Tryd.prog 5 #[.agg vs0.toArray] w fun e w' => e = .returned (.bool true) ∧ Below w.heap.size w w' := by
  by_cases g0 : szL cs0 ≤ 1048576
  · skip
    obtain ⟨ar0, hS, hI⟩ := both_PipeText cs0 k0
    exact core cs0 vs0 ar0 w z0 k0.ok hT g0 hS hI
  · exact large0 cs0 vs0 w z0 k0.ok  g0
end Go.Proofs.YtjihkfemejhllaaDoor.fnExactPipeText
