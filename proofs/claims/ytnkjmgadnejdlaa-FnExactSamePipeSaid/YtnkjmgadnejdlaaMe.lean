/- Texts of the walk, laid in one file. -/
import Derived.Test.YtnkjmgadnejdlaaMd
set_option linter.unusedVariables false
set_option linter.unusedSimpArgs false
/- 'ValidPipe' of both. -/
namespace Go.Fk
open Go Go.RowKit
/-- Is a pipe valid? -/
def okP (nR nL nS : Nat) (xR xL : Nat → CD) (yS : Nat → Nat) (k : Int) (a b c x y l r s : Nat) : Bool := decide (1 ≤ nR) && decide (nR ≤ 3) && (nL == nR) && (nS + 1 == nR) && (k == 1) && okF k a b c x y && fin l && fin r && fin s && scB yS nS && allB (secOk xR xL) nR
theorem okP_sec {nR nL nS : Nat} {xR xL : Nat → CD} {yS : Nat → Nat} {k : Int} {a b c x y l r s : Nat} (h : allB (secOk xR xL) nR = false) : okP nR nL nS xR xL yS k a b c x y l r s = false := by unfold okP; rw [h, Bool.and_false]
end Go.Fk
namespace Go.Proofs.Ytnkjmgadnejdlaa
open Go.RowKit Go.Fk
set_option maxRecDepth 100000 in
set_option maxHeartbeats 4000000 in
theorem i_ValidPipe (B : Nat) (v0 v1 v2 : Value) (nR nL nS : Nat) (xR xL : Nat → CD) (yS : Nat → Nat) (k : Int) (a b c x y : Nat) (op : Bool) (l r s : Nat) (w : World) (h0 : (CD.sl 2 nR xR).RdN w B v0) (h1 : (CD.sl 2 nL xL).RdN w B v1) (h2 : RdS w B v2 yS nS) (p0 : RgsOk xR nR) (p1 : RgsOk xL nL) (hf : fits .f32 a ∧ fits .f32 b ∧ fits .f32 c ∧ fits .f32 x ∧ fits .f32 y) (hg : fits .f32 l ∧ fits .f32 r ∧ fits .f32 s) :
    Calls Try.prog 37 #[.agg #[v0, v1, v2, .int .i64 k, .float .f32 a, .float .f32 b, .float .f32 c, .float .f32 x, .float .f32 y, .bool op, .float .f32 l, .float .f32 r, .float .f32 s]] w (Out_b (okP nR nL nS xR xL yS k a b c x y l r s) w) := by
  have L0 := hid h0.rd; have L1 := hid h1.rd; have L2 := hid h2
  have F := (Frg.nil w).box 36 #[v0, v1, v2, .int .i64 k, .float .f32 a, .float .f32 b, .float .f32 c, .float .f32 x, .float .f32 y, .bool op, .float .f32 l, .float .f32 r, .float .f32 s]
  have HV := hid (fun w' => i_ValidFilter k a b c x y w' hf)
  have HL := hid (fun w' => i_isFinite l w' hg.1)
  have HR := hid (fun w' => i_isFinite r w' hg.2.1)
  have HS := hid (fun w' => i_isFinite s w' hg.2.2)
  have HC := hid (fun (w' : World) (hl : le w w') => i_areScatters B v2 yS nS w' (h2.le hl))
  have S0 := h0.rd.small; have S1 := h1.rd.small; have S2 := h2.small
  clear hf hg h2
  by_cases g1 : nR < 1
  · have E : okP nR nL nS xR xL yS k a b c x y l r s = false := by unfold okP; rw [decide_eq_false (by omega)]; rfl
    have q1 : (nR : Int) < 1 := by omega
    rw [E]
    clear E h0 h1 p0 p1
    go_enter Try.func37, Try.ntmps37
    go_wp2_with (first | ((with_reducible refine listN F ?_); clear F; intro wN F) | ((with_reducible refine at_load rfl ?_); first | (with_reducible refine wpList_load1 F rfl rfl rfl (by first | exact m0) (f := 0) (v := v0) rfl ukindRingSI ?_) | (with_reducible refine wpList_load1 F rfl rfl rfl (by first | exact m0) (f := 1) (v := v1) rfl ukindRingSI ?_) | (with_reducible refine wpList_load1 F rfl rfl rfl (by first | exact m0) (f := 2) (v := v2) rfl ukindFloat32S ?_) | (with_reducible refine wpList_loadGP F rfl rfl rfl (by first | exact m0) Try.underlying34 rfl [.int .i64 k, .float .f32 a, .float .f32 b, .float .f32 c, .float .f32 x, .float .f32 y] (partPipe_End (v0) (v1) (v2) (.int .i64 k) (.float .f32 a) (.float .f32 b) (.float .f32 c) (.float .f32 x) (.float .f32 y) (.bool op) (.float .f32 l) (.float .f32 r) (.float .f32 s)) uinfoFilterI rfl ?_) | (with_reducible refine wpList_load1 F rfl rfl rfl (by first | exact m0) (f := 9) (v := .bool op) rfl ukindBool ?_) | (with_reducible refine wpList_load1 F rfl rfl rfl (by first | exact m0) (f := 10) (v := .float .f32 l) rfl ukindFloat32 ?_) | (with_reducible refine wpList_load1 F rfl rfl rfl (by first | exact m0) (f := 11) (v := .float .f32 r) rfl ukindFloat32 ?_) | (with_reducible refine wpList_load1 F rfl rfl rfl (by first | exact m0) (f := 12) (v := .float .f32 s) rfl ukindFloat32 ?_) | (with_reducible refine wpList_load1 F rfl rfl rfl m0 (f := 3) (v := .int .i64 k) rfl ukindInt64 ?_)) | (with_reducible refine wpList_lenC rfl rfl rfl Try.underlying33 L0.out ?_) | (with_reducible refine wpList_lenC rfl rfl rfl Try.underlying33 L1.out ?_) | (with_reducible refine wpList_lenR rfl rfl rfl Try.underlying23 L2.out ?_))
    go_ret
    exact ⟨rfl, F.below⟩
  have q1 : ¬ (nR : Int) < 1 := by omega
  by_cases g2 : 3 < nR
  · have E : okP nR nL nS xR xL yS k a b c x y l r s = false := by unfold okP; rw [decide_eq_false (p := nR ≤ 3) (by omega), Bool.and_false]; rfl
    have q2 : (3 : Int) < nR := by omega
    rw [E]
    clear E h0 h1 p0 p1
    go_enter Try.func37, Try.ntmps37
    go_wp2_with (first | ((with_reducible refine listN F ?_); clear F; intro wN F) | ((with_reducible refine at_load rfl ?_); first | (with_reducible refine wpList_load1 F rfl rfl rfl (by first | exact m0) (f := 0) (v := v0) rfl ukindRingSI ?_) | (with_reducible refine wpList_load1 F rfl rfl rfl (by first | exact m0) (f := 1) (v := v1) rfl ukindRingSI ?_) | (with_reducible refine wpList_load1 F rfl rfl rfl (by first | exact m0) (f := 2) (v := v2) rfl ukindFloat32S ?_) | (with_reducible refine wpList_loadGP F rfl rfl rfl (by first | exact m0) Try.underlying34 rfl [.int .i64 k, .float .f32 a, .float .f32 b, .float .f32 c, .float .f32 x, .float .f32 y] (partPipe_End (v0) (v1) (v2) (.int .i64 k) (.float .f32 a) (.float .f32 b) (.float .f32 c) (.float .f32 x) (.float .f32 y) (.bool op) (.float .f32 l) (.float .f32 r) (.float .f32 s)) uinfoFilterI rfl ?_) | (with_reducible refine wpList_load1 F rfl rfl rfl (by first | exact m0) (f := 9) (v := .bool op) rfl ukindBool ?_) | (with_reducible refine wpList_load1 F rfl rfl rfl (by first | exact m0) (f := 10) (v := .float .f32 l) rfl ukindFloat32 ?_) | (with_reducible refine wpList_load1 F rfl rfl rfl (by first | exact m0) (f := 11) (v := .float .f32 r) rfl ukindFloat32 ?_) | (with_reducible refine wpList_load1 F rfl rfl rfl (by first | exact m0) (f := 12) (v := .float .f32 s) rfl ukindFloat32 ?_) | (with_reducible refine wpList_load1 F rfl rfl rfl m0 (f := 3) (v := .int .i64 k) rfl ukindInt64 ?_)) | (with_reducible refine wpList_lenC rfl rfl rfl Try.underlying33 L0.out ?_) | (with_reducible refine wpList_lenC rfl rfl rfl Try.underlying33 L1.out ?_) | (with_reducible refine wpList_lenR rfl rfl rfl Try.underlying23 L2.out ?_))
    go_ret
    exact ⟨rfl, F.below⟩
  have q2 : ¬ (3 : Int) < nR := by omega
  cases g3 : (nL == nR)
  · have E : okP nR nL nS xR xL yS k a b c x y l r s = false := by unfold okP; rw [g3]; simp
    have q3 : (((nL : Nat) : Int) != ((nR : Nat) : Int)) = true := by simp only [beq_eq_false_iff_ne] at g3; simp; omega
    rw [E]
    clear E h0 h1 p0 p1 g3
    go_enter Try.func37, Try.ntmps37
    go_wp2_with (first | ((with_reducible refine listN F ?_); clear F; intro wN F) | ((with_reducible refine at_load rfl ?_); first | (with_reducible refine wpList_load1 F rfl rfl rfl (by first | exact m0) (f := 0) (v := v0) rfl ukindRingSI ?_) | (with_reducible refine wpList_load1 F rfl rfl rfl (by first | exact m0) (f := 1) (v := v1) rfl ukindRingSI ?_) | (with_reducible refine wpList_load1 F rfl rfl rfl (by first | exact m0) (f := 2) (v := v2) rfl ukindFloat32S ?_) | (with_reducible refine wpList_loadGP F rfl rfl rfl (by first | exact m0) Try.underlying34 rfl [.int .i64 k, .float .f32 a, .float .f32 b, .float .f32 c, .float .f32 x, .float .f32 y] (partPipe_End (v0) (v1) (v2) (.int .i64 k) (.float .f32 a) (.float .f32 b) (.float .f32 c) (.float .f32 x) (.float .f32 y) (.bool op) (.float .f32 l) (.float .f32 r) (.float .f32 s)) uinfoFilterI rfl ?_) | (with_reducible refine wpList_load1 F rfl rfl rfl (by first | exact m0) (f := 9) (v := .bool op) rfl ukindBool ?_) | (with_reducible refine wpList_load1 F rfl rfl rfl (by first | exact m0) (f := 10) (v := .float .f32 l) rfl ukindFloat32 ?_) | (with_reducible refine wpList_load1 F rfl rfl rfl (by first | exact m0) (f := 11) (v := .float .f32 r) rfl ukindFloat32 ?_) | (with_reducible refine wpList_load1 F rfl rfl rfl (by first | exact m0) (f := 12) (v := .float .f32 s) rfl ukindFloat32 ?_) | (with_reducible refine wpList_load1 F rfl rfl rfl m0 (f := 3) (v := .int .i64 k) rfl ukindInt64 ?_)) | (with_reducible refine wpList_lenC rfl rfl rfl Try.underlying33 L0.out ?_) | (with_reducible refine wpList_lenC rfl rfl rfl Try.underlying33 L1.out ?_) | (with_reducible refine wpList_lenR rfl rfl rfl Try.underlying23 L2.out ?_))
    go_ret
    exact ⟨rfl, F.below⟩
  obtain rfl : nL = nR := by simpa using g3
  have q3 : (((nL : Nat) : Int) != ((nL : Nat) : Int)) = false := by simp
  clear g3
  cases g4 : (nS + 1 == nL)
  · have E : okP nL nL nS xR xL yS k a b c x y l r s = false := by unfold okP; rw [g4]; simp
    have q4 : (((nS : Nat) : Int) != ((nL : Nat) : Int) - 1) = true := by simp only [beq_eq_false_iff_ne] at g4; simp; omega
    rw [E]
    clear E h0 h1 p0 p1 g4
    go_enter Try.func37, Try.ntmps37
    go_wp2_with (first | ((with_reducible refine listN F ?_); clear F; intro wN F) | ((with_reducible refine at_load rfl ?_); first | (with_reducible refine wpList_load1 F rfl rfl rfl (by first | exact m0) (f := 0) (v := v0) rfl ukindRingSI ?_) | (with_reducible refine wpList_load1 F rfl rfl rfl (by first | exact m0) (f := 1) (v := v1) rfl ukindRingSI ?_) | (with_reducible refine wpList_load1 F rfl rfl rfl (by first | exact m0) (f := 2) (v := v2) rfl ukindFloat32S ?_) | (with_reducible refine wpList_loadGP F rfl rfl rfl (by first | exact m0) Try.underlying34 rfl [.int .i64 k, .float .f32 a, .float .f32 b, .float .f32 c, .float .f32 x, .float .f32 y] (partPipe_End (v0) (v1) (v2) (.int .i64 k) (.float .f32 a) (.float .f32 b) (.float .f32 c) (.float .f32 x) (.float .f32 y) (.bool op) (.float .f32 l) (.float .f32 r) (.float .f32 s)) uinfoFilterI rfl ?_) | (with_reducible refine wpList_load1 F rfl rfl rfl (by first | exact m0) (f := 9) (v := .bool op) rfl ukindBool ?_) | (with_reducible refine wpList_load1 F rfl rfl rfl (by first | exact m0) (f := 10) (v := .float .f32 l) rfl ukindFloat32 ?_) | (with_reducible refine wpList_load1 F rfl rfl rfl (by first | exact m0) (f := 11) (v := .float .f32 r) rfl ukindFloat32 ?_) | (with_reducible refine wpList_load1 F rfl rfl rfl (by first | exact m0) (f := 12) (v := .float .f32 s) rfl ukindFloat32 ?_) | (with_reducible refine wpList_load1 F rfl rfl rfl m0 (f := 3) (v := .int .i64 k) rfl ukindInt64 ?_)) | (with_reducible refine wpList_lenC rfl rfl rfl Try.underlying33 L0.out ?_) | (with_reducible refine wpList_lenC rfl rfl rfl Try.underlying33 L1.out ?_) | (with_reducible refine wpList_lenR rfl rfl rfl Try.underlying23 L2.out ?_))
    go_ret
    exact ⟨rfl, F.below⟩
  have q4 : (((nS : Nat) : Int) != ((nL : Nat) : Int) - 1) = false := by simp only [beq_iff_eq] at g4; simp; omega
  have G4 := hid g4; clear g4
  cases g5 : (k == 1)
  · have E : okP nL nL nS xR xL yS k a b c x y l r s = false := by unfold okP; rw [g5]; simp
    have q5 : (k != 1) = true := by rw [bne, g5]; rfl
    rw [E]
    clear E h0 h1 p0 p1 g5
    go_enter Try.func37, Try.ntmps37
    go_wp2_with (first | ((with_reducible refine listN F ?_); clear F; intro wN F) | ((with_reducible refine at_load rfl ?_); first | (with_reducible refine wpList_load1 F rfl rfl rfl (by first | exact m0) (f := 0) (v := v0) rfl ukindRingSI ?_) | (with_reducible refine wpList_load1 F rfl rfl rfl (by first | exact m0) (f := 1) (v := v1) rfl ukindRingSI ?_) | (with_reducible refine wpList_load1 F rfl rfl rfl (by first | exact m0) (f := 2) (v := v2) rfl ukindFloat32S ?_) | (with_reducible refine wpList_loadGP F rfl rfl rfl (by first | exact m0) Try.underlying34 rfl [.int .i64 k, .float .f32 a, .float .f32 b, .float .f32 c, .float .f32 x, .float .f32 y] (partPipe_End (v0) (v1) (v2) (.int .i64 k) (.float .f32 a) (.float .f32 b) (.float .f32 c) (.float .f32 x) (.float .f32 y) (.bool op) (.float .f32 l) (.float .f32 r) (.float .f32 s)) uinfoFilterI rfl ?_) | (with_reducible refine wpList_load1 F rfl rfl rfl (by first | exact m0) (f := 9) (v := .bool op) rfl ukindBool ?_) | (with_reducible refine wpList_load1 F rfl rfl rfl (by first | exact m0) (f := 10) (v := .float .f32 l) rfl ukindFloat32 ?_) | (with_reducible refine wpList_load1 F rfl rfl rfl (by first | exact m0) (f := 11) (v := .float .f32 r) rfl ukindFloat32 ?_) | (with_reducible refine wpList_load1 F rfl rfl rfl (by first | exact m0) (f := 12) (v := .float .f32 s) rfl ukindFloat32 ?_) | (with_reducible refine wpList_load1 F rfl rfl rfl m0 (f := 3) (v := .int .i64 k) rfl ukindInt64 ?_)) | (with_reducible refine wpList_lenC rfl rfl rfl Try.underlying33 L0.out ?_) | (with_reducible refine wpList_lenC rfl rfl rfl Try.underlying33 L1.out ?_) | (with_reducible refine wpList_lenR rfl rfl rfl Try.underlying23 L2.out ?_))
    go_ret
    exact ⟨rfl, F.below⟩
  have q5 : (k != 1) = false := by rw [bne, g5]; rfl
  have G5 := hid g5; clear g5
  cases g6 : okF k a b c x y
  · have E : okP nL nL nS xR xL yS k a b c x y l r s = false := by unfold okP; rw [g6]; simp
    rw [g6] at HV
    rw [E]
    clear E h0 h1 p0 p1 g6
    go_enter Try.func37, Try.ntmps37
    go_wp2_with (first | ((with_reducible refine listN F ?_); clear F; intro wN F) | ((with_reducible refine at_load rfl ?_); first | (with_reducible refine wpList_load1 F rfl rfl rfl (by first | exact m0) (f := 0) (v := v0) rfl ukindRingSI ?_) | (with_reducible refine wpList_load1 F rfl rfl rfl (by first | exact m0) (f := 1) (v := v1) rfl ukindRingSI ?_) | (with_reducible refine wpList_load1 F rfl rfl rfl (by first | exact m0) (f := 2) (v := v2) rfl ukindFloat32S ?_) | (with_reducible refine wpList_loadGP F rfl rfl rfl (by first | exact m0) Try.underlying34 rfl [.int .i64 k, .float .f32 a, .float .f32 b, .float .f32 c, .float .f32 x, .float .f32 y] (partPipe_End (v0) (v1) (v2) (.int .i64 k) (.float .f32 a) (.float .f32 b) (.float .f32 c) (.float .f32 x) (.float .f32 y) (.bool op) (.float .f32 l) (.float .f32 r) (.float .f32 s)) uinfoFilterI rfl ?_) | (with_reducible refine wpList_load1 F rfl rfl rfl (by first | exact m0) (f := 9) (v := .bool op) rfl ukindBool ?_) | (with_reducible refine wpList_load1 F rfl rfl rfl (by first | exact m0) (f := 10) (v := .float .f32 l) rfl ukindFloat32 ?_) | (with_reducible refine wpList_load1 F rfl rfl rfl (by first | exact m0) (f := 11) (v := .float .f32 r) rfl ukindFloat32 ?_) | (with_reducible refine wpList_load1 F rfl rfl rfl (by first | exact m0) (f := 12) (v := .float .f32 s) rfl ukindFloat32 ?_) | (with_reducible refine wpList_load1 F rfl rfl rfl m0 (f := 3) (v := .int .i64 k) rfl ukindInt64 ?_)) | (with_reducible refine wpList_lenC rfl rfl rfl Try.underlying33 L0.out ?_) | (with_reducible refine wpList_lenC rfl rfl rfl Try.underlying33 L1.out ?_) | (with_reducible refine wpList_lenR rfl rfl rfl Try.underlying23 L2.out ?_) | (go_at_call 68; ((with_reducible refine (HV.out _).mono ?_); rintro e w1 ⟨rfl, hl⟩; replace F := F.le hl; clear hl)))
    go_ret
    exact ⟨rfl, F.below⟩
  rw [g6] at HV
  have G6 := hid g6; clear g6
  cases g7 : fin l
  · have E : okP nL nL nS xR xL yS k a b c x y l r s = false := by unfold okP; rw [g7]; simp
    rw [g7] at HL
    rw [E]
    clear E h0 h1 p0 p1 g7
    go_enter Try.func37, Try.ntmps37
    go_wp2_with (first | ((with_reducible refine listN F ?_); clear F; intro wN F) | ((with_reducible refine at_load rfl ?_); first | (with_reducible refine wpList_load1 F rfl rfl rfl (by first | exact m0) (f := 0) (v := v0) rfl ukindRingSI ?_) | (with_reducible refine wpList_load1 F rfl rfl rfl (by first | exact m0) (f := 1) (v := v1) rfl ukindRingSI ?_) | (with_reducible refine wpList_load1 F rfl rfl rfl (by first | exact m0) (f := 2) (v := v2) rfl ukindFloat32S ?_) | (with_reducible refine wpList_loadGP F rfl rfl rfl (by first | exact m0) Try.underlying34 rfl [.int .i64 k, .float .f32 a, .float .f32 b, .float .f32 c, .float .f32 x, .float .f32 y] (partPipe_End (v0) (v1) (v2) (.int .i64 k) (.float .f32 a) (.float .f32 b) (.float .f32 c) (.float .f32 x) (.float .f32 y) (.bool op) (.float .f32 l) (.float .f32 r) (.float .f32 s)) uinfoFilterI rfl ?_) | (with_reducible refine wpList_load1 F rfl rfl rfl (by first | exact m0) (f := 9) (v := .bool op) rfl ukindBool ?_) | (with_reducible refine wpList_load1 F rfl rfl rfl (by first | exact m0) (f := 10) (v := .float .f32 l) rfl ukindFloat32 ?_) | (with_reducible refine wpList_load1 F rfl rfl rfl (by first | exact m0) (f := 11) (v := .float .f32 r) rfl ukindFloat32 ?_) | (with_reducible refine wpList_load1 F rfl rfl rfl (by first | exact m0) (f := 12) (v := .float .f32 s) rfl ukindFloat32 ?_) | (with_reducible refine wpList_load1 F rfl rfl rfl m0 (f := 3) (v := .int .i64 k) rfl ukindInt64 ?_)) | (with_reducible refine wpList_lenC rfl rfl rfl Try.underlying33 L0.out ?_) | (with_reducible refine wpList_lenC rfl rfl rfl Try.underlying33 L1.out ?_) | (with_reducible refine wpList_lenR rfl rfl rfl Try.underlying23 L2.out ?_) | (go_at_call 68; ((with_reducible refine (HV.out _).mono ?_); rintro e w1 ⟨rfl, hl⟩; replace F := F.le hl; clear hl)) | (go_at_call 49; first | ((with_reducible refine (HL.out _).mono ?_); rintro e w1 ⟨rfl, rfl⟩) | ((with_reducible refine (HR.out _).mono ?_); rintro e w1 ⟨rfl, rfl⟩) | ((with_reducible refine (HS.out _).mono ?_); rintro e w1 ⟨rfl, rfl⟩)))
    go_ret
    exact ⟨rfl, F.below⟩
  rw [g7] at HL
  have G7 := hid g7; clear g7
  cases g8 : fin r
  · have E : okP nL nL nS xR xL yS k a b c x y l r s = false := by unfold okP; rw [g8]; simp
    rw [g8] at HR
    rw [E]
    clear E h0 h1 p0 p1 g8
    go_enter Try.func37, Try.ntmps37
    go_wp2_with (first | ((with_reducible refine listN F ?_); clear F; intro wN F) | ((with_reducible refine at_load rfl ?_); first | (with_reducible refine wpList_load1 F rfl rfl rfl (by first | exact m0) (f := 0) (v := v0) rfl ukindRingSI ?_) | (with_reducible refine wpList_load1 F rfl rfl rfl (by first | exact m0) (f := 1) (v := v1) rfl ukindRingSI ?_) | (with_reducible refine wpList_load1 F rfl rfl rfl (by first | exact m0) (f := 2) (v := v2) rfl ukindFloat32S ?_) | (with_reducible refine wpList_loadGP F rfl rfl rfl (by first | exact m0) Try.underlying34 rfl [.int .i64 k, .float .f32 a, .float .f32 b, .float .f32 c, .float .f32 x, .float .f32 y] (partPipe_End (v0) (v1) (v2) (.int .i64 k) (.float .f32 a) (.float .f32 b) (.float .f32 c) (.float .f32 x) (.float .f32 y) (.bool op) (.float .f32 l) (.float .f32 r) (.float .f32 s)) uinfoFilterI rfl ?_) | (with_reducible refine wpList_load1 F rfl rfl rfl (by first | exact m0) (f := 9) (v := .bool op) rfl ukindBool ?_) | (with_reducible refine wpList_load1 F rfl rfl rfl (by first | exact m0) (f := 10) (v := .float .f32 l) rfl ukindFloat32 ?_) | (with_reducible refine wpList_load1 F rfl rfl rfl (by first | exact m0) (f := 11) (v := .float .f32 r) rfl ukindFloat32 ?_) | (with_reducible refine wpList_load1 F rfl rfl rfl (by first | exact m0) (f := 12) (v := .float .f32 s) rfl ukindFloat32 ?_) | (with_reducible refine wpList_load1 F rfl rfl rfl m0 (f := 3) (v := .int .i64 k) rfl ukindInt64 ?_)) | (with_reducible refine wpList_lenC rfl rfl rfl Try.underlying33 L0.out ?_) | (with_reducible refine wpList_lenC rfl rfl rfl Try.underlying33 L1.out ?_) | (with_reducible refine wpList_lenR rfl rfl rfl Try.underlying23 L2.out ?_) | (go_at_call 68; ((with_reducible refine (HV.out _).mono ?_); rintro e w1 ⟨rfl, hl⟩; replace F := F.le hl; clear hl)) | (go_at_call 49; first | ((with_reducible refine (HL.out _).mono ?_); rintro e w1 ⟨rfl, rfl⟩) | ((with_reducible refine (HR.out _).mono ?_); rintro e w1 ⟨rfl, rfl⟩) | ((with_reducible refine (HS.out _).mono ?_); rintro e w1 ⟨rfl, rfl⟩)))
    go_ret
    exact ⟨rfl, F.below⟩
  rw [g8] at HR
  have G8 := hid g8; clear g8
  cases g9 : fin s
  · have E : okP nL nL nS xR xL yS k a b c x y l r s = false := by unfold okP; rw [g9]; simp
    rw [g9] at HS
    rw [E]
    clear E h0 h1 p0 p1 g9
    go_enter Try.func37, Try.ntmps37
    go_wp2_with (first | ((with_reducible refine listN F ?_); clear F; intro wN F) | ((with_reducible refine at_load rfl ?_); first | (with_reducible refine wpList_load1 F rfl rfl rfl (by first | exact m0) (f := 0) (v := v0) rfl ukindRingSI ?_) | (with_reducible refine wpList_load1 F rfl rfl rfl (by first | exact m0) (f := 1) (v := v1) rfl ukindRingSI ?_) | (with_reducible refine wpList_load1 F rfl rfl rfl (by first | exact m0) (f := 2) (v := v2) rfl ukindFloat32S ?_) | (with_reducible refine wpList_loadGP F rfl rfl rfl (by first | exact m0) Try.underlying34 rfl [.int .i64 k, .float .f32 a, .float .f32 b, .float .f32 c, .float .f32 x, .float .f32 y] (partPipe_End (v0) (v1) (v2) (.int .i64 k) (.float .f32 a) (.float .f32 b) (.float .f32 c) (.float .f32 x) (.float .f32 y) (.bool op) (.float .f32 l) (.float .f32 r) (.float .f32 s)) uinfoFilterI rfl ?_) | (with_reducible refine wpList_load1 F rfl rfl rfl (by first | exact m0) (f := 9) (v := .bool op) rfl ukindBool ?_) | (with_reducible refine wpList_load1 F rfl rfl rfl (by first | exact m0) (f := 10) (v := .float .f32 l) rfl ukindFloat32 ?_) | (with_reducible refine wpList_load1 F rfl rfl rfl (by first | exact m0) (f := 11) (v := .float .f32 r) rfl ukindFloat32 ?_) | (with_reducible refine wpList_load1 F rfl rfl rfl (by first | exact m0) (f := 12) (v := .float .f32 s) rfl ukindFloat32 ?_) | (with_reducible refine wpList_load1 F rfl rfl rfl m0 (f := 3) (v := .int .i64 k) rfl ukindInt64 ?_)) | (with_reducible refine wpList_lenC rfl rfl rfl Try.underlying33 L0.out ?_) | (with_reducible refine wpList_lenC rfl rfl rfl Try.underlying33 L1.out ?_) | (with_reducible refine wpList_lenR rfl rfl rfl Try.underlying23 L2.out ?_) | (go_at_call 68; ((with_reducible refine (HV.out _).mono ?_); rintro e w1 ⟨rfl, hl⟩; replace F := F.le hl; clear hl)) | (go_at_call 49; first | ((with_reducible refine (HL.out _).mono ?_); rintro e w1 ⟨rfl, rfl⟩) | ((with_reducible refine (HR.out _).mono ?_); rintro e w1 ⟨rfl, rfl⟩) | ((with_reducible refine (HS.out _).mono ?_); rintro e w1 ⟨rfl, rfl⟩)))
    go_ret
    exact ⟨rfl, F.below⟩
  rw [g9] at HS
  have G9 := hid g9; clear g9
  cases gA : scB yS nS
  · have E : okP nL nL nS xR xL yS k a b c x y l r s = false := by unfold okP; rw [gA]; simp
    rw [gA] at HC
    rw [E]
    clear E h0 h1 p0 p1 gA
    go_enter Try.func37, Try.ntmps37
    go_wp2_with (first | ((with_reducible refine listN F ?_); clear F; intro wN F) | ((with_reducible refine at_load rfl ?_); first | (with_reducible refine wpList_load1 F rfl rfl rfl (by first | exact m0) (f := 0) (v := v0) rfl ukindRingSI ?_) | (with_reducible refine wpList_load1 F rfl rfl rfl (by first | exact m0) (f := 1) (v := v1) rfl ukindRingSI ?_) | (with_reducible refine wpList_load1 F rfl rfl rfl (by first | exact m0) (f := 2) (v := v2) rfl ukindFloat32S ?_) | (with_reducible refine wpList_loadGP F rfl rfl rfl (by first | exact m0) Try.underlying34 rfl [.int .i64 k, .float .f32 a, .float .f32 b, .float .f32 c, .float .f32 x, .float .f32 y] (partPipe_End (v0) (v1) (v2) (.int .i64 k) (.float .f32 a) (.float .f32 b) (.float .f32 c) (.float .f32 x) (.float .f32 y) (.bool op) (.float .f32 l) (.float .f32 r) (.float .f32 s)) uinfoFilterI rfl ?_) | (with_reducible refine wpList_load1 F rfl rfl rfl (by first | exact m0) (f := 9) (v := .bool op) rfl ukindBool ?_) | (with_reducible refine wpList_load1 F rfl rfl rfl (by first | exact m0) (f := 10) (v := .float .f32 l) rfl ukindFloat32 ?_) | (with_reducible refine wpList_load1 F rfl rfl rfl (by first | exact m0) (f := 11) (v := .float .f32 r) rfl ukindFloat32 ?_) | (with_reducible refine wpList_load1 F rfl rfl rfl (by first | exact m0) (f := 12) (v := .float .f32 s) rfl ukindFloat32 ?_) | (with_reducible refine wpList_load1 F rfl rfl rfl m0 (f := 3) (v := .int .i64 k) rfl ukindInt64 ?_)) | (with_reducible refine wpList_lenC rfl rfl rfl Try.underlying33 L0.out ?_) | (with_reducible refine wpList_lenC rfl rfl rfl Try.underlying33 L1.out ?_) | (with_reducible refine wpList_lenR rfl rfl rfl Try.underlying23 L2.out ?_) | (go_at_call 68; ((with_reducible refine (HV.out _).mono ?_); rintro e w1 ⟨rfl, hl⟩; replace F := F.le hl; clear hl)) | (go_at_call 49; first | ((with_reducible refine (HL.out _).mono ?_); rintro e w1 ⟨rfl, rfl⟩) | ((with_reducible refine (HR.out _).mono ?_); rintro e w1 ⟨rfl, rfl⟩) | ((with_reducible refine (HS.out _).mono ?_); rintro e w1 ⟨rfl, rfl⟩)) | (go_at_call 69; ((with_reducible refine (HC.out _ F.below).mono ?_); rintro e w1 ⟨rfl, rfl⟩)))
    go_ret
    exact ⟨rfl, F.below⟩
  rw [gA] at HC
  have GA := hid gA; clear gA
  have HQ := hid (fun (w' : World) (hl : le w w') => i_areSections B B v0 v1 xR xL nL w' (h0.le hl) (h1.le hl) p0 p1)
  clear h0 h1 p0 p1
  cases gB : allB (secOk xR xL) nL
  · have E : okP nL nL nS xR xL yS k a b c x y l r s = false := okP_sec gB
    rw [gB] at HQ
    rw [E]
    clear E gB
    go_enter Try.func37, Try.ntmps37
    go_wp2_with (first | ((with_reducible refine listN F ?_); clear F; intro wN F) | ((with_reducible refine at_load rfl ?_); first | (with_reducible refine wpList_load1 F rfl rfl rfl (by first | exact m0) (f := 0) (v := v0) rfl ukindRingSI ?_) | (with_reducible refine wpList_load1 F rfl rfl rfl (by first | exact m0) (f := 1) (v := v1) rfl ukindRingSI ?_) | (with_reducible refine wpList_load1 F rfl rfl rfl (by first | exact m0) (f := 2) (v := v2) rfl ukindFloat32S ?_) | (with_reducible refine wpList_loadGP F rfl rfl rfl (by first | exact m0) Try.underlying34 rfl [.int .i64 k, .float .f32 a, .float .f32 b, .float .f32 c, .float .f32 x, .float .f32 y] (partPipe_End (v0) (v1) (v2) (.int .i64 k) (.float .f32 a) (.float .f32 b) (.float .f32 c) (.float .f32 x) (.float .f32 y) (.bool op) (.float .f32 l) (.float .f32 r) (.float .f32 s)) uinfoFilterI rfl ?_) | (with_reducible refine wpList_load1 F rfl rfl rfl (by first | exact m0) (f := 9) (v := .bool op) rfl ukindBool ?_) | (with_reducible refine wpList_load1 F rfl rfl rfl (by first | exact m0) (f := 10) (v := .float .f32 l) rfl ukindFloat32 ?_) | (with_reducible refine wpList_load1 F rfl rfl rfl (by first | exact m0) (f := 11) (v := .float .f32 r) rfl ukindFloat32 ?_) | (with_reducible refine wpList_load1 F rfl rfl rfl (by first | exact m0) (f := 12) (v := .float .f32 s) rfl ukindFloat32 ?_) | (with_reducible refine wpList_load1 F rfl rfl rfl m0 (f := 3) (v := .int .i64 k) rfl ukindInt64 ?_)) | (with_reducible refine wpList_lenC rfl rfl rfl Try.underlying33 L0.out ?_) | (with_reducible refine wpList_lenC rfl rfl rfl Try.underlying33 L1.out ?_) | (with_reducible refine wpList_lenR rfl rfl rfl Try.underlying23 L2.out ?_) | (go_at_call 68; ((with_reducible refine (HV.out _).mono ?_); rintro e w1 ⟨rfl, hl⟩; replace F := F.le hl; clear hl)) | (go_at_call 49; first | ((with_reducible refine (HL.out _).mono ?_); rintro e w1 ⟨rfl, rfl⟩) | ((with_reducible refine (HR.out _).mono ?_); rintro e w1 ⟨rfl, rfl⟩) | ((with_reducible refine (HS.out _).mono ?_); rintro e w1 ⟨rfl, rfl⟩)) | (go_at_call 69; ((with_reducible refine (HC.out _ F.below).mono ?_); rintro e w1 ⟨rfl, rfl⟩)) | (go_at_call 70; ((with_reducible refine (HQ.out _ F.below).mono ?_); rintro e w1 ⟨rfl, hl⟩; replace F := F.le hl; clear hl)))
    go_ret
    exact ⟨rfl, F.below⟩
  have E : okP nL nL nS xR xL yS k a b c x y l r s = true := by unfold okP; rw [gB, GA.out, G9.out, G8.out, G7.out, G6.out, G5.out, G4.out]; simp; omega
  rw [gB] at HQ
  rw [E]
  clear E gB
  go_enter Try.func37, Try.ntmps37
  go_wp2_with (first | ((with_reducible refine listN F ?_); clear F; intro wN F) | ((with_reducible refine at_load rfl ?_); first | (with_reducible refine wpList_load1 F rfl rfl rfl (by first | exact m0) (f := 0) (v := v0) rfl ukindRingSI ?_) | (with_reducible refine wpList_load1 F rfl rfl rfl (by first | exact m0) (f := 1) (v := v1) rfl ukindRingSI ?_) | (with_reducible refine wpList_load1 F rfl rfl rfl (by first | exact m0) (f := 2) (v := v2) rfl ukindFloat32S ?_) | (with_reducible refine wpList_loadGP F rfl rfl rfl (by first | exact m0) Try.underlying34 rfl [.int .i64 k, .float .f32 a, .float .f32 b, .float .f32 c, .float .f32 x, .float .f32 y] (partPipe_End (v0) (v1) (v2) (.int .i64 k) (.float .f32 a) (.float .f32 b) (.float .f32 c) (.float .f32 x) (.float .f32 y) (.bool op) (.float .f32 l) (.float .f32 r) (.float .f32 s)) uinfoFilterI rfl ?_) | (with_reducible refine wpList_load1 F rfl rfl rfl (by first | exact m0) (f := 9) (v := .bool op) rfl ukindBool ?_) | (with_reducible refine wpList_load1 F rfl rfl rfl (by first | exact m0) (f := 10) (v := .float .f32 l) rfl ukindFloat32 ?_) | (with_reducible refine wpList_load1 F rfl rfl rfl (by first | exact m0) (f := 11) (v := .float .f32 r) rfl ukindFloat32 ?_) | (with_reducible refine wpList_load1 F rfl rfl rfl (by first | exact m0) (f := 12) (v := .float .f32 s) rfl ukindFloat32 ?_) | (with_reducible refine wpList_load1 F rfl rfl rfl m0 (f := 3) (v := .int .i64 k) rfl ukindInt64 ?_)) | (with_reducible refine wpList_lenC rfl rfl rfl Try.underlying33 L0.out ?_) | (with_reducible refine wpList_lenC rfl rfl rfl Try.underlying33 L1.out ?_) | (with_reducible refine wpList_lenR rfl rfl rfl Try.underlying23 L2.out ?_) | (go_at_call 68; ((with_reducible refine (HV.out _).mono ?_); rintro e w1 ⟨rfl, hl⟩; replace F := F.le hl; clear hl)) | (go_at_call 49; first | ((with_reducible refine (HL.out _).mono ?_); rintro e w1 ⟨rfl, rfl⟩) | ((with_reducible refine (HR.out _).mono ?_); rintro e w1 ⟨rfl, rfl⟩) | ((with_reducible refine (HS.out _).mono ?_); rintro e w1 ⟨rfl, rfl⟩)) | (go_at_call 69; ((with_reducible refine (HC.out _ F.below).mono ?_); rintro e w1 ⟨rfl, rfl⟩)) | (go_at_call 70; ((with_reducible refine (HQ.out _ F.below).mono ?_); rintro e w1 ⟨rfl, hl⟩; replace F := F.le hl; clear hl)))
  go_ret
  exact ⟨rfl, F.below⟩
theorem l04_lens {xR xL : Nat → CD} {n : Nat} (hR : allB (rgOk xR) n = true) (hL : allB (rgOk xL) n = true) (h : ∀ i, i < n → rgN xR i = rgN xL i) : allB (secOk xR xL) n = true :=
  allB_yes (fun i hi => by unfold secOk; rw [allB_all hR i hi, allB_all hL i hi, h i hi]; simp)
theorem l04_noR {xR xL : Nat → CD} {n : Nat} (h : allB (rgOk xR) n = false) : allB (secOk xR xL) n = false := by
  obtain ⟨i, hi, hf⟩ := allB_ex h
  exact allB_no hi (by unfold secOk; rw [hf]; rfl)
theorem l04_noL {xR xL : Nat → CD} {n : Nat} (h : allB (rgOk xL) n = false) : allB (secOk xR xL) n = false := by
  obtain ⟨i, hi, hf⟩ := allB_ex h
  exact allB_no hi (by unfold secOk; rw [hf]; simp)
theorem l04_noN {xR xL : Nat → CD} {n i : Nat} (hi : i < n) (h : rgN xR i ≠ rgN xL i) : allB (secOk xR xL) n = false :=
  allB_no hi (by unfold secOk; simp [h])
def three (l r s : Nat) : Nat → Nat := fun i => match i with | 0 => can .f32 l | 1 => can .f32 r | _ => can .f32 s
theorem fin3 (l r s : Nat) : finB (three l r s) 3 = (fin l && fin r && fin s) := by
  have e : ∀ z, fin (can .f32 z) = fin z := fun z => fin_can (can_can _ _)
  simp [finB, three, List.range_succ, e, Bool.and_assoc]
set_option maxRecDepth 100000 in
set_option maxHeartbeats 4000000 in
theorem s_l04Ok (B : Nat) (v0 v1 v2 : Value) (nR nL nS : Nat) (xR xL : Nat → CD) (yS : Nat → Nat) (k : Int) (a b c x y : Nat) (op : Bool) (l r s : Nat) (g : Nat) (w : World) (R : Row w g 36 #[v0, v1, v2, .int .i64 k, .float .f32 a, .float .f32 b, .float .f32 c, .float .f32 x, .float .f32 y, .bool op, .float .f32 l, .float .f32 r, .float .f32 s]) (h0 : (CD.sl 2 nR xR).RdN w B v0) (h1 : (CD.sl 2 nL xL).RdN w B v1) (h2 : RdS w B v2 yS nS) (p0 : RgsOk xR nR) (p1 : RgsOk xL nL) (hf : fits .f32 a ∧ fits .f32 b ∧ fits .f32 c ∧ fits .f32 x ∧ fits .f32 y) (hg : fits .f32 l ∧ fits .f32 r ∧ fits .f32 s) :
    Calls Try.prog 35 #[.pointer (some ⟨g, 0, none⟩)] w (Out_b (okP nR nL nS xR xL yS k a b c x y l r s) w) := by
  have HVR := hid (fun (w' : World) (hl : le w w') => s_l04Rings B v0 xR nR w' (h0.le hl) p0)
  have HVL := hid (fun (w' : World) (hl : le w w') => s_l04Rings B v1 xL nL w' (h1.le hl) p1)
  have S0 := h0.rd.small; have S1 := h1.rd.small; have S2 := h2.small
  have L0 := hid h0.rd; have L1 := hid h1.rd; have L2 := hid h2
  have c0 := R.cell? 0; have c1 := R.cell? 1; have c2 := R.cell? 2
  have HRow := hid R
  by_cases g1 : nR < 1
  · have E : okP nR nL nS xR xL yS k a b c x y l r s = false := by unfold okP; rw [decide_eq_false (by omega)]; rfl
    have q1 : (nR : Int) < 1 := by omega
    rw [E]
    clear E h0 h1 h2 p0 p1 R hf hg
    go_enter Try.func35, Try.ntmps35
    go_wp2_with (first | (with_reducible refine wpList_lenC rfl rfl rfl Try.underlying33 L0.out ?_))
    go_ret
    exact ⟨rfl, by first | exact le_refl _ | exact le_drewN _ _⟩
  have q1 : ¬ (nR : Int) < 1 := by omega
  by_cases g2 : 3 < nR
  · have E : okP nR nL nS xR xL yS k a b c x y l r s = false := by unfold okP; rw [decide_eq_false (p := nR ≤ 3) (by omega), Bool.and_false]; rfl
    have q2 : (3 : Int) < nR := by omega
    rw [E]
    clear E h0 h1 h2 p0 p1 R hf hg
    go_enter Try.func35, Try.ntmps35
    go_wp2_with (first | (with_reducible refine wpList_lenC rfl rfl rfl Try.underlying33 L0.out ?_))
    go_ret
    exact ⟨rfl, by first | exact le_refl _ | exact le_drewN _ _⟩
  have q2 : ¬ (3 : Int) < nR := by omega
  cases g3 : (nL == nR)
  · have E : okP nR nL nS xR xL yS k a b c x y l r s = false := by unfold okP; rw [g3]; simp
    have q3 : (((nL : Nat) : Int) != ((nR : Nat) : Int)) = true := by simp only [beq_eq_false_iff_ne] at g3; simp; omega
    rw [E]
    clear E h0 h1 h2 p0 p1 R hf hg g3
    go_enter Try.func35, Try.ntmps35
    go_wp2_with (first | (with_reducible refine wpList_lenC rfl rfl rfl Try.underlying33 L0.out ?_) | (with_reducible refine wpList_lenCG rfl rfl Try.underlying33 L1.out (by kernel_rfl) ?_))
    go_ret
    exact ⟨rfl, by first | exact le_refl _ | exact le_drewN _ _⟩
  obtain rfl : nL = nR := by simpa using g3
  have q3 : (((nL : Nat) : Int) != ((nL : Nat) : Int)) = false := by simp
  clear g3
  cases g4 : (nS + 1 == nL)
  · have E : okP nL nL nS xR xL yS k a b c x y l r s = false := by unfold okP; rw [g4]; simp
    have q4 : (((nS : Nat) : Int) != ((nL : Nat) : Int) - 1) = true := by simp only [beq_eq_false_iff_ne] at g4; simp; omega
    rw [E]
    clear E h0 h1 h2 p0 p1 R hf hg g4
    go_enter Try.func35, Try.ntmps35
    go_wp2_with (first | (with_reducible refine wpList_lenC rfl rfl rfl Try.underlying33 L0.out ?_) | (with_reducible refine wpList_lenCG rfl rfl Try.underlying33 L1.out (by kernel_rfl) ?_) | (with_reducible refine wpList_lenRG rfl rfl Try.underlying23 L2.out (by kernel_rfl) ?_))
    go_ret
    exact ⟨rfl, by first | exact le_refl _ | exact le_drewN _ _⟩
  have q4 : (((nS : Nat) : Int) != ((nL : Nat) : Int) - 1) = false := by simp only [beq_iff_eq] at g4; simp; omega
  have G4 := hid g4; clear g4
  cases g5 : allB (rgOk xR) nL
  · have E : okP nL nL nS xR xL yS k a b c x y l r s = false := okP_sec (l04_noR g5)
    rw [g5] at HVR
    rw [E]
    clear E h0 h1 h2 p0 p1 R hf hg g5
    go_enter Try.func35, Try.ntmps35
    go_wp2_with (first | (with_reducible refine wpList_lenC rfl rfl rfl Try.underlying33 L0.out ?_) | (with_reducible refine wpList_lenCG rfl rfl Try.underlying33 L1.out (by kernel_rfl) ?_) | (with_reducible refine wpList_lenRG rfl rfl Try.underlying23 L2.out (by kernel_rfl) ?_) | (go_at_call 63; first | ((with_reducible refine (HVR.out _ (le_drewN _ _)).mono ?_); rintro e w' ⟨rfl, q, rfl⟩) | ((with_reducible refine (HVR.out _ (le_refl _)).mono ?_); rintro e w' ⟨rfl, q, rfl⟩) | ((with_reducible refine (HVL.out _ (le_drewN _ _)).mono ?_); rintro e w' ⟨rfl, q2, rfl⟩)))
    go_ret
    exact ⟨rfl, by first | exact le_refl _ | exact le_drewN _ _⟩
  have G5 := hid g5; rw [g5] at HVR; clear g5
  cases g6 : allB (rgOk xL) nL
  · have E : okP nL nL nS xR xL yS k a b c x y l r s = false := okP_sec (l04_noL g6)
    rw [g6] at HVL
    rw [E]
    clear E h0 h1 h2 p0 p1 R hf hg g6
    go_enter Try.func35, Try.ntmps35
    go_wp2_with (first | (with_reducible refine wpList_lenC rfl rfl rfl Try.underlying33 L0.out ?_) | (with_reducible refine wpList_lenCG rfl rfl Try.underlying33 L1.out (by kernel_rfl) ?_) | (with_reducible refine wpList_lenRG rfl rfl Try.underlying23 L2.out (by kernel_rfl) ?_) | (go_at_call 63; first | ((with_reducible refine (HVR.out _ (le_drewN _ _)).mono ?_); rintro e w' ⟨rfl, q, rfl⟩) | ((with_reducible refine (HVR.out _ (le_refl _)).mono ?_); rintro e w' ⟨rfl, q, rfl⟩) | ((with_reducible refine (HVL.out _ (le_drewN _ _)).mono ?_); rintro e w' ⟨rfl, q2, rfl⟩)))
    go_ret
    exact ⟨rfl, by first | exact le_refl _ | exact le_drewN _ _⟩
  have G6 := hid g6; rw [g6] at HVL; clear g6
  obtain ⟨b0, o0, k0, e0, hc0, hm0⟩ := h0.form.resolve_left (fun h => by have := h.2; omega)
  obtain ⟨b1, o1, k1, e1, hc1, hm1⟩ := h1.form.resolve_left (fun h => by have := h.2; omega)
  subst e0; subst e1
  have HA := hid (fun j (hj : j < nL) => p0.at h0 hj)
  have HB := hid (fun j (hj : j < nL) => p1.at h1 hj)
  have HX := hid h2
  have HF3 := hid hg; have HFF := hid hf
  unfold maxLen at hm0 hm1
  clear h0 h1 p0 p1 R h2 hf hg
  go_enter Try.func35, Try.ntmps35
  go_wp2_with (first | (with_reducible refine wpList_lenC rfl rfl rfl Try.underlying33 L0.out ?_) | (with_reducible refine wpList_lenCG rfl rfl Try.underlying33 L1.out (by kernel_rfl) ?_) | (with_reducible refine wpList_lenRG rfl rfl Try.underlying23 L2.out (by kernel_rfl) ?_) | (go_at_call 63; first | ((with_reducible refine (HVR.out _ (le_drewN _ _)).mono ?_); rintro e w' ⟨rfl, q, rfl⟩) | ((with_reducible refine (HVR.out _ (le_refl _)).mono ?_); rintro e w' ⟨rfl, q, rfl⟩) | ((with_reducible refine (HVL.out _ (le_drewN _ _)).mono ?_); rintro e w' ⟨rfl, q2, rfl⟩)))
  go_loopw [4] (fun i wr => ∃ j : Nat, j ≤ nL ∧ i = .int .i64 j ∧ Hid (∀ i, i < j → rgN xR i = rgN xL i) ∧ Hid (le w wr)) (fun i _ => nL - (intOf i).toNat)
  case atStart => exact ⟨0, by omega, rfl, fun i hi => absurd hi (by omega), le_drewN _ _⟩
  case round =>
    obtain ⟨j, hj, rfl, HJ, HL⟩ := hrel
    clear c0 c1 c2
    rename_i wr _
    by_cases hlt : j < nL
    · obtain ⟨u, d0, d1, hwu, hr⟩ := HA.out j hlt
      obtain ⟨v, f0, f1, hwv, hq⟩ := HB.out j hlt
      go_wp2_with fail
      refine region_freeD (E := leX) (fun _ _ _ _ => True) (by kernel_rfl) (by kernel_rfl) ?_
      refine wpFreeD_one rfl (.pointer (some ⟨g, 0, none⟩)) (fun w1 _ => by kernel_rfl) ?_
      simp only [Act.put, List.setIfInBounds_toArray, List.set_cons_succ, List.set_cons_zero]
      refine wpFreeD_one rfl (.pointer (some ⟨g, 0, none⟩)) (fun w1 _ => by kernel_rfl) ?_
      simp only [Act.put, List.setIfInBounds_toArray, List.set_cons_succ, List.set_cons_zero]
      refine wpFreeD_one rfl (.pointer (some ⟨g, 0, none⟩)) (fun w1 _ => by kernel_rfl) ?_
      simp only [Act.put, List.setIfInBounds_toArray, List.set_cons_succ, List.set_cons_zero]
      refine wpFreeD_load1 rfl rfl rfl (p := ⟨g, 0, none⟩) (fun w1 h1 => (Row.le HRow.out (le_trans HL.out (le_trans (le_drewN _ _) h1))).cell? 0) ukindRingSI ?_
      simp only [Act.put, List.setIfInBounds_toArray, List.set_cons_succ, List.set_cons_zero]
      refine wpFreeD_one rfl (.int .i64 j) (fun w1 _ => by kernel_rfl) ?_
      simp only [Act.put, List.setIfInBounds_toArray, List.set_cons_succ, List.set_cons_zero]
      refine wpFreeD_indexW0 rfl rfl rfl rfl Try.underlying33 uinfoRingI hlt ?_
      simp only [Act.put, List.setIfInBounds_toArray, List.set_cons_succ, List.set_cons_zero]
      refine wpFreeD_one rfl (.pointer (some ⟨b0, o0 + j * 2, none⟩)) (fun w1 _ => by kernel_rfl) ?_
      simp only [Act.put, List.setIfInBounds_toArray, List.set_cons_succ, List.set_cons_zero]
      refine wpFreeD_load1 rfl rfl rfl (p := ⟨b0, o0 + j * 2, none⟩) (fun w1 h1 => (Below.cell (le_trans HL.out (le_trans (le_drewN _ _) h1)) (cell_lt' d0)).trans d0) ukindFloat32S ?_
      simp only [Act.put, List.setIfInBounds_toArray, List.set_cons_succ, List.set_cons_zero]
      refine wpFreeD_lenR rfl rfl rfl Try.underlying23 hr ?_
      simp only [Act.put, List.setIfInBounds_toArray, List.set_cons_succ, List.set_cons_zero]
      refine wpFreeD_one rfl (.pointer (some ⟨g, 0, none⟩)) (fun w1 _ => by kernel_rfl) ?_
      simp only [Act.put, List.setIfInBounds_toArray, List.set_cons_succ, List.set_cons_zero]
      refine wpFreeD_one rfl (.pointer (some ⟨g, 0, none⟩)) (fun w1 _ => by kernel_rfl) ?_
      simp only [Act.put, List.setIfInBounds_toArray, List.set_cons_succ, List.set_cons_zero]
      refine wpFreeD_one rfl (.pointer (some ⟨g, 1, none⟩)) (fun w1 _ => by kernel_rfl) ?_
      simp only [Act.put, List.setIfInBounds_toArray, List.set_cons_succ, List.set_cons_zero]
      refine wpFreeD_load1 rfl rfl rfl (p := ⟨g, 1, none⟩) (fun w1 h1 => (Row.le HRow.out (le_trans HL.out (le_trans (le_drewN _ _) h1))).cell? 1) ukindRingSI ?_
      simp only [Act.put, List.setIfInBounds_toArray, List.set_cons_succ, List.set_cons_zero]
      refine wpFreeD_one rfl (.int .i64 j) (fun w1 _ => by kernel_rfl) ?_
      simp only [Act.put, List.setIfInBounds_toArray, List.set_cons_succ, List.set_cons_zero]
      refine wpFreeD_indexW0 rfl rfl rfl rfl Try.underlying33 uinfoRingI hlt ?_
      simp only [Act.put, List.setIfInBounds_toArray, List.set_cons_succ, List.set_cons_zero]
      refine wpFreeD_one rfl (.pointer (some ⟨b1, o1 + j * 2, none⟩)) (fun w1 _ => by kernel_rfl) ?_
      simp only [Act.put, List.setIfInBounds_toArray, List.set_cons_succ, List.set_cons_zero]
      refine wpFreeD_load1 rfl rfl rfl (p := ⟨b1, o1 + j * 2, none⟩) (fun w1 h1 => (Below.cell (le_trans HL.out (le_trans (le_drewN _ _) h1)) (cell_lt' f0)).trans f0) ukindFloat32S ?_
      simp only [Act.put, List.setIfInBounds_toArray, List.set_cons_succ, List.set_cons_zero]
      refine wpFreeD_lenR rfl rfl rfl Try.underlying23 hq ?_
      simp only [Act.put, List.setIfInBounds_toArray, List.set_cons_succ, List.set_cons_zero]
      refine wpFreeD_one rfl (.bool (((rgN xR j : Nat) : Int) != ((rgN xL j : Nat) : Int))) (fun w1 _ => by kernel_rfl) ?_
      simp only [Act.put, List.setIfInBounds_toArray, List.set_cons_succ, List.set_cons_zero]
      refine wpFreeD_nil (fun wR hwR _ => ?_)
      have HL1 := hid (le_trans HL.out (le_trans (le_drewN _ _) hwR))
      clear hwR d0 d1 f0 f1 hwu hwv hr hq
      by_cases h3 : rgN xR j = rgN xL j
      · have h4 : (((rgN xR j : Nat) : Int) != ((rgN xL j : Nat) : Int)) = false := by simp [h3]
        replace h3 := hid h3
        go_wp2
        go_roundw
        case rel => exact ⟨j + 1, by omega, by go_num, fun i hi => by rcases Nat.lt_or_ge i j with h | h; exact HJ.out i h; rw [show i = j by omega]; exact h3.out, HL1.out⟩
        case measure => simp [intOf]; omega
      · have h4 : (((rgN xR j : Nat) : Int) != ((rgN xL j : Nat) : Int)) = true := by simp; omega
        have E : okP nL nL nS xR xL yS k a b c x y l r s = false := okP_sec (l04_noN hlt h3)
        replace h3 := hid h3
        replace E := hid E
        go_wp2
        go_ret
        exact ⟨ret_b E.out.symm, HL1.out⟩
    · obtain rfl : j = nL := by omega
      have c2 := (Row.le HRow.out HL.out).cell? 2
      go_wp2
      go_loop [5] (fun i => ∃ q : Nat, q ≤ nS ∧ i = .int .i64 q ∧ Hid (∀ i, i < q → withinB (yS i) 3212836864 1065353216 = true)) (fun i => nS - (intOf i).toNat)
      case atStart => exact ⟨0, by omega, rfl, fun i hi => absurd hi (by omega)⟩
      case round =>
        obtain ⟨q, hq, rfl, HQ⟩ := hrel
        have n1 : nS + 1 = j := by have := G4.out; simpa using this
        by_cases hlt : q < nS
        · have hlt' : (q : Int) < (j : Int) - 1 := by omega
          obtain ⟨aS, kS, zS, rfl, hcS, hmS, hzS⟩ := HX.out.raw (by omega)
          unfold maxLen at hmS
          obtain ⟨z1, z2, z3⟩ := hzS q hlt
          have cz := (Below.cell HL.out (cell_lt' z1)).trans z1
          have hfy := withinB_can (l := 3212836864) (g := 1065353216) z3
          replace n1 := hid n1
          clear z1 z2 z3 hzS
          obtain ⟨T, hT⟩ : ∃ T, T = withinB (yS q) 3212836864 1065353216 := ⟨_, rfl⟩
          rw [← hT] at hfy
          unfold withinB at hfy
          replace hT := hid hT
          rcases h5 : FloatKind.f32.format.order (zS q) 3212836864 with _ | (_ | _ | _) <;> rcases h6 : FloatKind.f32.format.order (zS q) 1065353216 with _ | (_ | _ | _)
          all_goals
            rw [h5, h6] at hfy
            first
            | (replace hfy : T = true := hfy.symm.trans (by decide)
               replace hT := hid (hT.out.symm.trans hfy)
               clear hfy
               go_wp2
               go_round
               case rel => exact ⟨q + 1, by omega, by go_num, fun i hi => by rcases Nat.lt_or_ge i q with h | h; exact HQ.out i h; rw [show i = q by omega]; exact hT.out⟩
               case measure => simp [intOf]; omega)
            | (replace hfy : T = false := hfy.symm.trans (by decide)
               replace hT := hid (hT.out.symm.trans hfy)
               clear hfy
               go_wp2
               go_ret
               exact ⟨ret_b (by unfold okP; rw [show scB yS nS = false from allB_no (p := fun i => withinB (yS i) 3212836864 1065353216) hlt hT.out]; simp), HL.out⟩)
        · obtain rfl : q = nS := by omega
          have GS := hid (show scB yS q = true from allB_yes HQ.out)
          have GN := hid (l04_lens G5.out G6.out HJ.out)
          have hRw : Hid (∀ w1, le wr w1 → Row w1 g 36 #[(.slice (some ⟨b0, o0, none⟩) j k0), (.slice (some ⟨b1, o1, none⟩) j k1), v2, .int .i64 k, .float .f32 a, .float .f32 b, .float .f32 c, .float .f32 x, .float .f32 y, .bool op, .float .f32 l, .float .f32 r, .float .f32 s]) := fun w1 h1 => Row.le HRow.out (le_trans HL.out h1)
          have HOK := hid (fun (w' : World) (hl : le wr w') => s_OkAt k a b c x y g 3 w' ⟨(hRw.out w' hl).cell? 3, fun i hi => by match i, hi with | 0, _ => exact (hRw.out w' hl).cell? 4 | 1, _ => exact (hRw.out w' hl).cell? 5 | 2, _ => exact (hRw.out w' hl).cell? 6, fun i hi => by match i, hi with | 0, _ => exact (hRw.out w' hl).cell? 7 | 1, _ => exact (hRw.out w' hl).cell? 8⟩)
          have HF := hid HF3.out
          clear c2
          cases gF : okF k a b c x y
          · have E := hid (show okP j j q xR xL yS k a b c x y l r s = false by unfold okP; rw [gF]; simp)
            rw [gF] at HOK
            clear gF
            go_wp2_with fail
            refine region_freeD (E := leX) (fun f _ _ v => v = .bool false) (by kernel_rfl) (by kernel_rfl) ?_
            refine wpFreeD_one rfl (.pointer (some ⟨g, 0, none⟩)) (fun w1 _ => by kernel_rfl) ?_
            simp only [Act.put, List.setIfInBounds_toArray, List.set_cons_succ, List.set_cons_zero]
            refine wpFreeD_one rfl (.pointer (some ⟨g, 0, none⟩)) (fun w1 _ => by kernel_rfl) ?_
            simp only [Act.put, List.setIfInBounds_toArray, List.set_cons_succ, List.set_cons_zero]
            refine wpFreeD_one rfl (.pointer (some ⟨g, 3, none⟩)) (fun w1 _ => by kernel_rfl) ?_
            simp only [Act.put, List.setIfInBounds_toArray, List.set_cons_succ, List.set_cons_zero]
            refine wpFreeD_callB rfl rfl Try.func64 (by kernel_rfl) (by kernel_rfl) (args := #[.pointer (some ⟨g, 3, none⟩)]) (by simp [Act.eval]) (fun v w1 w2 hw hv => hv) (fun w1 hw1 _ => (HOK.out w1 (le_trans (le_drewN _ _) hw1)).mono ?_) ?_
            · rintro e w2 ⟨rfl, m, rfl⟩
              exact ⟨_, rfl, le_drewN _ _, rfl⟩
            rintro v ⟨_, _, _, hv⟩
            skip --FF
            subst hv
            simp only [Act.put, List.setIfInBounds_toArray, List.set_cons_succ, List.set_cons_zero]
            refine wpFreeD_one rfl (.bool false) (fun w1 _ => by kernel_rfl) ?_
            simp only [Act.put, List.setIfInBounds_toArray, List.set_cons_succ, List.set_cons_zero]
            refine wpFreeD_skip (by kernel_rfl) ?_
            simp only [Act.put, List.setIfInBounds_toArray, List.set_cons_succ, List.set_cons_zero]
            refine wpFreeD_skip (by kernel_rfl) ?_
            simp only [Act.put, List.setIfInBounds_toArray, List.set_cons_succ, List.set_cons_zero]
            refine wpFreeD_skip (by kernel_rfl) ?_
            simp only [Act.put, List.setIfInBounds_toArray, List.set_cons_succ, List.set_cons_zero]
            refine wpFreeD_skip (by kernel_rfl) ?_
            simp only [Act.put, List.setIfInBounds_toArray, List.set_cons_succ, List.set_cons_zero]
            refine wpFreeD_skip (by kernel_rfl) ?_
            simp only [Act.put, List.setIfInBounds_toArray, List.set_cons_succ, List.set_cons_zero]
            refine wpFreeD_skip (by kernel_rfl) ?_
            simp only [Act.put, List.setIfInBounds_toArray, List.set_cons_succ, List.set_cons_zero]
            refine wpFreeD_one rfl (.bool false) (fun w1 _ => by kernel_rfl) ?_
            simp only [Act.put, List.setIfInBounds_toArray, List.set_cons_succ, List.set_cons_zero]
            refine wpFreeD_one rfl (.bool false) (fun w1 _ => by kernel_rfl) ?_
            simp only [Act.put, List.setIfInBounds_toArray, List.set_cons_succ, List.set_cons_zero]
            refine wpFreeD_skip (by kernel_rfl) ?_
            simp only [Act.put, List.setIfInBounds_toArray, List.set_cons_succ, List.set_cons_zero]
            refine wpFreeD_skip (by kernel_rfl) ?_
            simp only [Act.put, List.setIfInBounds_toArray, List.set_cons_succ, List.set_cons_zero]
            refine wpFreeD_skip (by kernel_rfl) ?_
            simp only [Act.put, List.setIfInBounds_toArray, List.set_cons_succ, List.set_cons_zero]
            refine wpFreeD_skip (by kernel_rfl) ?_
            simp only [Act.put, List.setIfInBounds_toArray, List.set_cons_succ, List.set_cons_zero]
            refine wpFreeD_skip (by kernel_rfl) ?_
            simp only [Act.put, List.setIfInBounds_toArray, List.set_cons_succ, List.set_cons_zero]
            refine wpFreeD_skip (by kernel_rfl) ?_
            simp only [Act.put, List.setIfInBounds_toArray, List.set_cons_succ, List.set_cons_zero]
            refine wpFreeD_skip (by kernel_rfl) ?_
            simp only [Act.put, List.setIfInBounds_toArray, List.set_cons_succ, List.set_cons_zero]
            refine wpFreeD_skip (by kernel_rfl) ?_
            simp only [Act.put, List.setIfInBounds_toArray, List.set_cons_succ, List.set_cons_zero]
            refine wpFreeD_skip (by kernel_rfl) ?_
            simp only [Act.put, List.setIfInBounds_toArray, List.set_cons_succ, List.set_cons_zero]
            refine wpFreeD_skip (by kernel_rfl) ?_
            simp only [Act.put, List.setIfInBounds_toArray, List.set_cons_succ, List.set_cons_zero]
            refine wpFreeD_skip (by kernel_rfl) ?_
            simp only [Act.put, List.setIfInBounds_toArray, List.set_cons_succ, List.set_cons_zero]
            refine wpFreeD_skip (by kernel_rfl) ?_
            simp only [Act.put, List.setIfInBounds_toArray, List.set_cons_succ, List.set_cons_zero]
            refine wpFreeD_skip (by kernel_rfl) ?_
            simp only [Act.put, List.setIfInBounds_toArray, List.set_cons_succ, List.set_cons_zero]
            refine wpFreeD_skip (by kernel_rfl) ?_
            simp only [Act.put, List.setIfInBounds_toArray, List.set_cons_succ, List.set_cons_zero]
            refine wpFreeD_one rfl (.bool false) (fun w1 _ => by kernel_rfl) ?_
            simp only [Act.put, List.setIfInBounds_toArray, List.set_cons_succ, List.set_cons_zero]
            refine wpFreeD_one rfl (.bool false) (fun w1 _ => by kernel_rfl) ?_
            simp only [Act.put, List.setIfInBounds_toArray, List.set_cons_succ, List.set_cons_zero]
            refine wpFreeD_nil (fun wR hwR _ => ?_)
            have HL1 := hid (le_trans HL.out (le_trans (le_drewN _ _) hwR))
            clear hwR
            go_wp2
            go_ret
            exact ⟨ret_b E.out.symm, HL1.out⟩
          cases gK : (k == 1)
          · have E := hid (show okP j j q xR xL yS k a b c x y l r s = false by unfold okP; rw [gK]; simp)
            rw [gF] at HOK
            clear gF
            go_wp2_with fail
            refine region_freeD (E := leX) (fun f _ _ v => v = .bool true) (by kernel_rfl) (by kernel_rfl) ?_
            refine wpFreeD_one rfl (.pointer (some ⟨g, 0, none⟩)) (fun w1 _ => by kernel_rfl) ?_
            simp only [Act.put, List.setIfInBounds_toArray, List.set_cons_succ, List.set_cons_zero]
            refine wpFreeD_one rfl (.pointer (some ⟨g, 0, none⟩)) (fun w1 _ => by kernel_rfl) ?_
            simp only [Act.put, List.setIfInBounds_toArray, List.set_cons_succ, List.set_cons_zero]
            refine wpFreeD_one rfl (.pointer (some ⟨g, 3, none⟩)) (fun w1 _ => by kernel_rfl) ?_
            simp only [Act.put, List.setIfInBounds_toArray, List.set_cons_succ, List.set_cons_zero]
            refine wpFreeD_callB rfl rfl Try.func64 (by kernel_rfl) (by kernel_rfl) (args := #[.pointer (some ⟨g, 3, none⟩)]) (by simp [Act.eval]) (fun v w1 w2 hw hv => hv) (fun w1 hw1 _ => (HOK.out w1 (le_trans (le_drewN _ _) hw1)).mono ?_) ?_
            · rintro e w2 ⟨rfl, m, rfl⟩
              exact ⟨_, rfl, le_drewN _ _, rfl⟩
            rintro v ⟨_, _, _, hv⟩
            skip
            subst hv
            simp only [Act.put, List.setIfInBounds_toArray, List.set_cons_succ, List.set_cons_zero]
            refine wpFreeD_one rfl (.bool true) (fun w1 _ => by kernel_rfl) ?_
            simp only [Act.put, List.setIfInBounds_toArray, List.set_cons_succ, List.set_cons_zero]
            refine wpFreeD_oneW (by kernel_rfl) (.pointer (some ⟨g, 0, none⟩)) (fun w1 _ => by kernel_rfl) ?_
            simp only [Act.put, List.setIfInBounds_toArray, List.set_cons_succ, List.set_cons_zero]
            refine wpFreeD_oneW (by kernel_rfl) (.pointer (some ⟨g, 0, none⟩)) (fun w1 _ => by kernel_rfl) ?_
            simp only [Act.put, List.setIfInBounds_toArray, List.set_cons_succ, List.set_cons_zero]
            refine wpFreeD_oneW (by kernel_rfl) (.pointer (some ⟨g, 3, none⟩)) (fun w1 _ => by kernel_rfl) ?_
            simp only [Act.put, List.setIfInBounds_toArray, List.set_cons_succ, List.set_cons_zero]
            refine wpFreeD_oneW (by kernel_rfl) (.pointer (some ⟨g, 3, none⟩)) (fun w1 _ => by kernel_rfl) ?_
            simp only [Act.put, List.setIfInBounds_toArray, List.set_cons_succ, List.set_cons_zero]
            refine wpFreeD_load1W (by kernel_rfl) rfl rfl (p := ⟨g, 3, none⟩) (fun w1 h1 => (hRw.out w1 (le_trans (le_drewN _ _) h1)).cell? 3) ukindInt64 ?_
            simp only [Act.put, List.setIfInBounds_toArray, List.set_cons_succ, List.set_cons_zero]
            refine wpFreeD_oneW (by kernel_rfl) (.bool (k == 1)) (fun w1 _ => by kernel_rfl) ?_
            simp only [Act.put, List.setIfInBounds_toArray, List.set_cons_succ, List.set_cons_zero]
            rw [gK]
            refine wpFreeD_one rfl (.bool false) (fun w1 _ => by kernel_rfl) ?_
            simp only [Act.put, List.setIfInBounds_toArray, List.set_cons_succ, List.set_cons_zero]
            refine wpFreeD_one rfl (.bool false) (fun w1 _ => by kernel_rfl) ?_
            simp only [Act.put, List.setIfInBounds_toArray, List.set_cons_succ, List.set_cons_zero]
            refine wpFreeD_skip (by kernel_rfl) ?_
            simp only [Act.put, List.setIfInBounds_toArray, List.set_cons_succ, List.set_cons_zero]
            refine wpFreeD_skip (by kernel_rfl) ?_
            simp only [Act.put, List.setIfInBounds_toArray, List.set_cons_succ, List.set_cons_zero]
            refine wpFreeD_skip (by kernel_rfl) ?_
            simp only [Act.put, List.setIfInBounds_toArray, List.set_cons_succ, List.set_cons_zero]
            refine wpFreeD_skip (by kernel_rfl) ?_
            simp only [Act.put, List.setIfInBounds_toArray, List.set_cons_succ, List.set_cons_zero]
            refine wpFreeD_skip (by kernel_rfl) ?_
            simp only [Act.put, List.setIfInBounds_toArray, List.set_cons_succ, List.set_cons_zero]
            refine wpFreeD_skip (by kernel_rfl) ?_
            simp only [Act.put, List.setIfInBounds_toArray, List.set_cons_succ, List.set_cons_zero]
            refine wpFreeD_skip (by kernel_rfl) ?_
            simp only [Act.put, List.setIfInBounds_toArray, List.set_cons_succ, List.set_cons_zero]
            refine wpFreeD_skip (by kernel_rfl) ?_
            simp only [Act.put, List.setIfInBounds_toArray, List.set_cons_succ, List.set_cons_zero]
            refine wpFreeD_skip (by kernel_rfl) ?_
            simp only [Act.put, List.setIfInBounds_toArray, List.set_cons_succ, List.set_cons_zero]
            refine wpFreeD_skip (by kernel_rfl) ?_
            simp only [Act.put, List.setIfInBounds_toArray, List.set_cons_succ, List.set_cons_zero]
            refine wpFreeD_skip (by kernel_rfl) ?_
            simp only [Act.put, List.setIfInBounds_toArray, List.set_cons_succ, List.set_cons_zero]
            refine wpFreeD_skip (by kernel_rfl) ?_
            simp only [Act.put, List.setIfInBounds_toArray, List.set_cons_succ, List.set_cons_zero]
            refine wpFreeD_skip (by kernel_rfl) ?_
            simp only [Act.put, List.setIfInBounds_toArray, List.set_cons_succ, List.set_cons_zero]
            refine wpFreeD_skip (by kernel_rfl) ?_
            simp only [Act.put, List.setIfInBounds_toArray, List.set_cons_succ, List.set_cons_zero]
            refine wpFreeD_one rfl (.bool false) (fun w1 _ => by kernel_rfl) ?_
            simp only [Act.put, List.setIfInBounds_toArray, List.set_cons_succ, List.set_cons_zero]
            refine wpFreeD_one rfl (.bool false) (fun w1 _ => by kernel_rfl) ?_
            simp only [Act.put, List.setIfInBounds_toArray, List.set_cons_succ, List.set_cons_zero]
            refine wpFreeD_nil (fun wR hwR _ => ?_)
            have HL1 := hid (le_trans HL.out (le_trans (le_drewN _ _) hwR))
            clear hwR
            go_wp2
            go_ret
            exact ⟨ret_b E.out.symm, HL1.out⟩
          · have hk1 : k = 1 := by simpa using gK
            subst hk1
            have E := hid (show okP j j q xR xL yS 1 a b c x y l r s = (fin l && fin r && fin s) by unfold okP; rw [gF, GS.out, GN.out, G4.out, decide_eq_true (show 1 ≤ j by omega), decide_eq_true (show j ≤ 3 by omega)]; simp)
            rw [gF] at HOK
            clear gF gK
            go_wp2_with fail
            refine region_freeD (E := leX) (fun f _ _ v => if f = 64 then v = .bool true else v = .bool (fin l && fin r && fin s)) (by kernel_rfl) (by kernel_rfl) ?_
            refine wpFreeD_one rfl (.pointer (some ⟨g, 0, none⟩)) (fun w1 _ => by kernel_rfl) ?_
            simp only [Act.put, List.setIfInBounds_toArray, List.set_cons_succ, List.set_cons_zero]
            refine wpFreeD_one rfl (.pointer (some ⟨g, 0, none⟩)) (fun w1 _ => by kernel_rfl) ?_
            simp only [Act.put, List.setIfInBounds_toArray, List.set_cons_succ, List.set_cons_zero]
            refine wpFreeD_one rfl (.pointer (some ⟨g, 3, none⟩)) (fun w1 _ => by kernel_rfl) ?_
            simp only [Act.put, List.setIfInBounds_toArray, List.set_cons_succ, List.set_cons_zero]
            refine wpFreeD_callB rfl rfl Try.func64 (by kernel_rfl) (by kernel_rfl) (args := #[.pointer (some ⟨g, 3, none⟩)]) (by simp [Act.eval]) (fun v w1 w2 hw hv => hv) (fun w1 hw1 _ => (HOK.out w1 (le_trans (le_drewN _ _) hw1)).mono ?_) ?_
            · rintro e w2 ⟨rfl, m, rfl⟩
              exact ⟨_, rfl, le_drewN _ _, by simp only [if_true]⟩
            rintro v ⟨_, _, _, hv⟩
            simp only [if_true] at hv
            subst hv
            simp only [Act.put, List.setIfInBounds_toArray, List.set_cons_succ, List.set_cons_zero]
            refine wpFreeD_one rfl (.bool true) (fun w1 _ => by kernel_rfl) ?_
            simp only [Act.put, List.setIfInBounds_toArray, List.set_cons_succ, List.set_cons_zero]
            refine wpFreeD_oneW (by kernel_rfl) (.pointer (some ⟨g, 0, none⟩)) (fun w1 _ => by kernel_rfl) ?_
            simp only [Act.put, List.setIfInBounds_toArray, List.set_cons_succ, List.set_cons_zero]
            refine wpFreeD_oneW (by kernel_rfl) (.pointer (some ⟨g, 0, none⟩)) (fun w1 _ => by kernel_rfl) ?_
            simp only [Act.put, List.setIfInBounds_toArray, List.set_cons_succ, List.set_cons_zero]
            refine wpFreeD_oneW (by kernel_rfl) (.pointer (some ⟨g, 3, none⟩)) (fun w1 _ => by kernel_rfl) ?_
            simp only [Act.put, List.setIfInBounds_toArray, List.set_cons_succ, List.set_cons_zero]
            refine wpFreeD_oneW (by kernel_rfl) (.pointer (some ⟨g, 3, none⟩)) (fun w1 _ => by kernel_rfl) ?_
            simp only [Act.put, List.setIfInBounds_toArray, List.set_cons_succ, List.set_cons_zero]
            refine wpFreeD_load1W (by kernel_rfl) rfl rfl (p := ⟨g, 3, none⟩) (fun w1 h1 => (hRw.out w1 (le_trans (le_drewN _ _) h1)).cell? 3) ukindInt64 ?_
            simp only [Act.put, List.setIfInBounds_toArray, List.set_cons_succ, List.set_cons_zero]
            refine wpFreeD_oneW (by kernel_rfl) (.bool true) (fun w1 _ => by kernel_rfl) ?_
            simp only [Act.put, List.setIfInBounds_toArray, List.set_cons_succ, List.set_cons_zero]
            refine wpFreeD_one rfl (.bool true) (fun w1 _ => by kernel_rfl) ?_
            simp only [Act.put, List.setIfInBounds_toArray, List.set_cons_succ, List.set_cons_zero]
            refine wpFreeD_one rfl (.bool true) (fun w1 _ => by kernel_rfl) ?_
            simp only [Act.put, List.setIfInBounds_toArray, List.set_cons_succ, List.set_cons_zero]
            refine wpFreeD_oneW (by kernel_rfl) (.pointer (some ⟨g, 0, none⟩)) (fun w1 _ => by kernel_rfl) ?_
            simp only [Act.put, List.setIfInBounds_toArray, List.set_cons_succ, List.set_cons_zero]
            refine wpFreeD_oneW (by kernel_rfl) (.pointer (some ⟨g, 0, none⟩)) (fun w1 _ => by kernel_rfl) ?_
            simp only [Act.put, List.setIfInBounds_toArray, List.set_cons_succ, List.set_cons_zero]
            refine wpFreeD_oneW (by kernel_rfl) (.pointer (some ⟨g, 10, none⟩)) (fun w1 _ => by kernel_rfl) ?_
            simp only [Act.put, List.setIfInBounds_toArray, List.set_cons_succ, List.set_cons_zero]
            refine wpFreeD_load1W (by kernel_rfl) rfl rfl (p := ⟨g, 10, none⟩) (fun w1 h1 => (hRw.out w1 (le_trans (le_drewN _ _) h1)).cell? 10) ukindFloat32 ?_
            simp only [Act.put, List.setIfInBounds_toArray, List.set_cons_succ, List.set_cons_zero]
            refine wpFreeD_oneW (by kernel_rfl) (.pointer (some ⟨g, 0, none⟩)) (fun w1 _ => by kernel_rfl) ?_
            simp only [Act.put, List.setIfInBounds_toArray, List.set_cons_succ, List.set_cons_zero]
            refine wpFreeD_oneW (by kernel_rfl) (.pointer (some ⟨g, 0, none⟩)) (fun w1 _ => by kernel_rfl) ?_
            simp only [Act.put, List.setIfInBounds_toArray, List.set_cons_succ, List.set_cons_zero]
            refine wpFreeD_oneW (by kernel_rfl) (.pointer (some ⟨g, 11, none⟩)) (fun w1 _ => by kernel_rfl) ?_
            simp only [Act.put, List.setIfInBounds_toArray, List.set_cons_succ, List.set_cons_zero]
            refine wpFreeD_load1W (by kernel_rfl) rfl rfl (p := ⟨g, 11, none⟩) (fun w1 h1 => (hRw.out w1 (le_trans (le_drewN _ _) h1)).cell? 11) ukindFloat32 ?_
            simp only [Act.put, List.setIfInBounds_toArray, List.set_cons_succ, List.set_cons_zero]
            refine wpFreeD_oneW (by kernel_rfl) (.pointer (some ⟨g, 0, none⟩)) (fun w1 _ => by kernel_rfl) ?_
            simp only [Act.put, List.setIfInBounds_toArray, List.set_cons_succ, List.set_cons_zero]
            refine wpFreeD_oneW (by kernel_rfl) (.pointer (some ⟨g, 0, none⟩)) (fun w1 _ => by kernel_rfl) ?_
            simp only [Act.put, List.setIfInBounds_toArray, List.set_cons_succ, List.set_cons_zero]
            refine wpFreeD_oneW (by kernel_rfl) (.pointer (some ⟨g, 12, none⟩)) (fun w1 _ => by kernel_rfl) ?_
            simp only [Act.put, List.setIfInBounds_toArray, List.set_cons_succ, List.set_cons_zero]
            refine wpFreeD_load1W (by kernel_rfl) rfl rfl (p := ⟨g, 12, none⟩) (fun w1 h1 => (hRw.out w1 (le_trans (le_drewN _ _) h1)).cell? 12) ukindFloat32 ?_
            simp only [Act.put, List.setIfInBounds_toArray, List.set_cons_succ, List.set_cons_zero]
            refine wpFreeD_madeW (by kernel_rfl) (fun b => .slice (some ⟨b, 0, none⟩) 3 3) 24 #[.float .f32 l, .float .f32 r, .float .f32 s] (fun w1 => by kernel_rfl) (fun bN => ?_)
            simp only [Act.put, List.setIfInBounds_toArray, List.set_cons_succ, List.set_cons_zero]
            refine wpFreeD_callW (by kernel_rfl) rfl Try.func65 (by kernel_rfl) (by kernel_rfl) (args := #[.slice (some ⟨bN, 0, none⟩) 3 3]) (by simp [Act.eval]) (fun v w1 w2 hw hv => by simp only [show ¬ (65 = 64) by decide, if_false] at hv ⊢; exact hv) (fun w1 hw1 hbe => ?_) ?_
            · obtain ⟨b', e1, hrow⟩ := (hbe ⟨25, Ground.data⟩ (by simp) (by kernel_rfl)).2 rfl
              obtain rfl : bN = b' := by simpa using e1
              have hq : RdS w1 (bN + 1) (.slice (some ⟨bN, 0, none⟩) 3 3) (three l r s) 3 := .inr ⟨⟨bN, 0, none⟩, 3, rfl, Nat.le_refl _, by decide, fun i hi => ⟨Nat.lt_succ_self _, by rw [add_none, Nat.zero_add]; match i, hi with
                | 0, _ => exact ⟨l, hrow.cell? 0, HF.out.1, rfl⟩
                | 1, _ => exact ⟨r, hrow.cell? 1, HF.out.2.1, rfl⟩
                | 2, _ => exact ⟨s, hrow.cell? 2, HF.out.2.2, rfl⟩⟩⟩
              refine (s_l04All _ _ _ _ w1 hq).mono ?_
              rintro e w2 ⟨rfl, m, rfl⟩
              exact ⟨_, rfl, le_drewN _ _, by simp only [show ¬ (65 = 64) by decide, if_false]; rw [fin3]⟩
            rintro v ⟨_, _, _, hv⟩
            simp only [show ¬ (65 = 64) by decide, if_false] at hv
            subst hv
            simp only [Act.put, List.setIfInBounds_toArray, List.set_cons_succ, List.set_cons_zero]
            refine wpFreeD_one rfl (.bool (fin l && fin r && fin s)) (fun w1 _ => by kernel_rfl) ?_
            simp only [Act.put, List.setIfInBounds_toArray, List.set_cons_succ, List.set_cons_zero]
            refine wpFreeD_one rfl (.bool (fin l && fin r && fin s)) (fun w1 _ => by kernel_rfl) ?_
            simp only [Act.put, List.setIfInBounds_toArray, List.set_cons_succ, List.set_cons_zero]
            refine wpFreeD_nil (fun wR hwR _ => ?_)
            have HL1 := hid (le_trans HL.out (le_trans (le_drewN _ _) hwR))
            clear hwR
            go_wp2
            go_ret
            exact ⟨ret_b E.out.symm, HL1.out⟩
theorem pipe_data {cs : List CD} (h : HasShL shPipe cs) : ∃ (nR nL nS : Nat) (xR xL xS : Nat → CD) (k : Int) (a b c x y : Nat) (op : Bool) (l r s : Nat), cs = [.sl 2 nR xR, .sl 2 nL xL, .sl 1 nS xS, .int .i64 k, .flt .f32 a, .flt .f32 b, .flt .f32 c, .flt .f32 x, .flt .f32 y, .bool op, .flt .f32 l, .flt .f32 r, .flt .f32 s] ∧ RgsOk (fun i => (xR i).cn) nR ∧ RgsOk (fun i => (xL i).cn) nL ∧ (∀ i, i < nS → (xS i).cn.flk = some .f32) := by
  obtain ⟨c0, cs, rfl, q0, h⟩ := h.inv
  obtain ⟨c1, cs, rfl, q1, h⟩ := h.inv
  obtain ⟨c2, cs, rfl, q2, h⟩ := h.inv
  obtain ⟨c3, cs, rfl, q3, h⟩ := h.inv
  obtain ⟨c4, cs, rfl, q4, h⟩ := h.inv
  obtain ⟨c5, cs, rfl, q5, h⟩ := h.inv
  obtain ⟨c6, cs, rfl, q6, h⟩ := h.inv
  obtain ⟨c7, cs, rfl, q7, h⟩ := h.inv
  obtain ⟨c8, cs, rfl, q8, h⟩ := h.inv
  obtain ⟨c9, cs, rfl, q9, h⟩ := h.inv
  obtain ⟨c10, cs, rfl, q10, h⟩ := h.inv
  obtain ⟨c11, cs, rfl, q11, h⟩ := h.inv
  obtain ⟨c12, cs, rfl, q12, h⟩ := h.inv
  obtain rfl := h.inv0
  obtain ⟨nR, xR, rfl, r0⟩ := q0
  obtain ⟨nL, xL, rfl, r1⟩ := q1
  obtain ⟨nS, xS, rfl, r2⟩ := q2
  obtain ⟨k, rfl⟩ := q3
  obtain ⟨a, rfl⟩ := q4
  obtain ⟨b, rfl⟩ := q5
  obtain ⟨c, rfl⟩ := q6
  obtain ⟨x, rfl⟩ := q7
  obtain ⟨y, rfl⟩ := q8
  obtain ⟨op, rfl⟩ := q9
  obtain ⟨l, rfl⟩ := q10
  obtain ⟨r, rfl⟩ := q11
  obtain ⟨s, rfl⟩ := q12
  refine ⟨nR, nL, nS, xR, xL, xS, k, a, b, c, x, y, op, l, r, s, rfl, rgs_ok (fun i hi j hj => (r0 i hi j hj).ok.cn) ⟨_, rfl, rfl⟩ rfl, rgs_ok (fun i hi j hj => (r1 i hi j hj).ok.cn) ⟨_, rfl, rfl⟩ rfl, fun i hi => ?_⟩
  rw [CD.flk_cn]
  exact ShOk.flts (fun i hi j hj => (r2 i hi j hj).ok) rfl i hi
theorem pipe_open {nR nL nS : Nat} {xR xL xS : Nat → CD} {k : Int} {a b c x y : Nat} {op : Bool} {l r s : Nat} {w : World} {B : Nat} {u : List Value} (h : RdLN w B (([.sl 2 nR xR, .sl 2 nL xL, .sl 1 nS xS, .int .i64 k, .flt .f32 a, .flt .f32 b, .flt .f32 c, .flt .f32 x, .flt .f32 y, .bool op, .flt .f32 l, .flt .f32 r, .flt .f32 s] : List CD).map CD.cp) u) (hS : ∀ i, i < nS → (xS i).cn.flk = some .f32) : ∃ v0 v1 v2 : Value, u = [v0, v1, v2, .int .i64 k, .float .f32 a, .float .f32 b, .float .f32 c, .float .f32 x, .float .f32 y, .bool op, .float .f32 l, .float .f32 r, .float .f32 s] ∧ (CD.sl 2 nR (fun i => (xR i).cn)).RdN w B v0 ∧ (CD.sl 2 nL (fun i => (xL i).cn)).RdN w B v1 ∧ RdS w B v2 (fun i => (xS i).cn.fx) nS ∧ (fits .f32 a ∧ fits .f32 b ∧ fits .f32 c ∧ fits .f32 x ∧ fits .f32 y) ∧ (fits .f32 l ∧ fits .f32 r ∧ fits .f32 s) := by
  simp only [List.map_cons, List.map_nil] at h
  obtain ⟨v0, u0, rfl, q0, hh0⟩ := h.inv
  obtain ⟨v1, u1, rfl, q1, hh1⟩ := hh0.inv
  obtain ⟨v2, u2, rfl, q2, hh2⟩ := hh1.inv
  obtain ⟨v3, u3, rfl, q3, hh3⟩ := hh2.inv
  obtain ⟨v4, u4, rfl, q4, hh4⟩ := hh3.inv
  obtain ⟨v5, u5, rfl, q5, hh5⟩ := hh4.inv
  obtain ⟨v6, u6, rfl, q6, hh6⟩ := hh5.inv
  obtain ⟨v7, u7, rfl, q7, hh7⟩ := hh6.inv
  obtain ⟨v8, u8, rfl, q8, hh8⟩ := hh7.inv
  obtain ⟨v9, u9, rfl, q9, hh9⟩ := hh8.inv
  obtain ⟨v10, u10, rfl, q10, hh10⟩ := hh9.inv
  obtain ⟨v11, u11, rfl, q11, hh11⟩ := hh10.inv
  obtain ⟨v12, u12, rfl, q12, hh12⟩ := hh11.inv
  obtain rfl := hh12.inv0
  obtain ⟨rfl, _⟩ := q3
  obtain ⟨rfl, f4⟩ := q4
  obtain ⟨rfl, f5⟩ := q5
  obtain ⟨rfl, f6⟩ := q6
  obtain ⟨rfl, f7⟩ := q7
  obtain ⟨rfl, f8⟩ := q8
  obtain ⟨rfl, f10⟩ := q10
  obtain ⟨rfl, f11⟩ := q11
  obtain ⟨rfl, f12⟩ := q12
  obtain rfl := q9
  exact ⟨v0, v1, v2, rfl, q0, q1, CD.Rd.rdf (CD.RdN.rd q2) hS, ⟨f4, f5, f6, f7, f8⟩, f10, f11, f12⟩
end Go.Proofs.Ytnkjmgadnejdlaa

/- A walk of 'l04Same'. -/
namespace Go.Proofs.Ytnkjmgadnejdlaa
open Go.RowKit Go.Fk
set_option maxRecDepth 100000 in
set_option maxHeartbeats 4000000 in
theorem l04SameW0 (g g' : Nat) (v0 v1 v2 v0Z v1Z v2Z : Value) (k : Int) (a b c x y : Nat) (op : Bool) (l r s : Nat) (kZ : Int) (aZ bZ cZ xZ yZ : Nat) (opZ : Bool) (lZ rZ sZ : Nat) (w : World) (e1 e2 e3 : Bool) (hRw : Hid (∀ (w' : World), le w w' → Row w' g 36 #[v0, v1, v2, .int .i64 k, .float .f32 a, .float .f32 b, .float .f32 c, .float .f32 x, .float .f32 y, .bool op, .float .f32 l, .float .f32 r, .float .f32 s])) (hRz : Hid (∀ (w' : World), le w w' → Row w' g' 36 #[v0Z, v1Z, v2Z, .int .i64 kZ, .float .f32 aZ, .float .f32 bZ, .float .f32 cZ, .float .f32 xZ, .float .f32 yZ, .bool opZ, .float .f32 lZ, .float .f32 rZ, .float .f32 sZ]))
    (HR : Hid (∀ (w' : World), le w w' → Calls Try.prog 52 #[v0, v0Z] w' fun e w'' => e = .returned (.bool false) ∧ le w' w'')) (HL : Hid (∀ (w' : World), le w w' → Calls Try.prog 52 #[v1, v1Z] w' fun e w'' => e = .returned (.bool e1) ∧ le w' w''))
    (HS : Hid (∀ (w' : World), le w w' → Calls Try.prog 53 #[v2, v2Z] w' fun e w'' => e = .returned (.bool e2) ∧ ∃ n, w'' = w'.drewN n)) (HF : Hid (∀ (w' : World), le w w' → Calls Try.prog 54 #[.pointer (some ⟨g, 3, none⟩), .pointer (some ⟨g', 3, none⟩)] w' fun e w'' => e = .returned (.bool e3) ∧ ∃ n, w'' = w'.drewN n)) (AG : v0 = v1 → v0Z = v1Z → false = e1) : Calls Try.prog 22 #[.pointer (some ⟨g, 0, none⟩), .pointer (some ⟨g', 0, none⟩)] w (Out_b false w) := by
  go_enter Try.func22, Try.ntmps22
  go_wp2_with fail
  refine region_freeD (E := leX) (fun f args _ v => if f = 52 then (args = #[v0, v0Z] → v = .bool false) ∧ (args = #[v1, v1Z] → v = .bool e1) else if f = 53 then v = .bool e2 else if f = 54 then v = .bool e3 else ∀ p q, args = #[.float .f32 p, .float .f32 q] → v = .bool (sameB p q)) (by kernel_rfl) (by kernel_rfl) ?_
  refine wpFreeD_one rfl (.pointer (some ⟨g, 0, none⟩)) (fun w1 _ => by kernel_rfl) ?_
  simp only [Act.put, List.setIfInBounds_toArray, List.set_cons_succ, List.set_cons_zero]
  refine wpFreeD_one rfl (.pointer (some ⟨g, 0, none⟩)) (fun w1 _ => by kernel_rfl) ?_
  simp only [Act.put, List.setIfInBounds_toArray, List.set_cons_succ, List.set_cons_zero]
  refine wpFreeD_one rfl (.pointer (some ⟨g, 0, none⟩)) (fun w1 _ => by kernel_rfl) ?_
  simp only [Act.put, List.setIfInBounds_toArray, List.set_cons_succ, List.set_cons_zero]
  refine wpFreeD_load1 rfl rfl rfl (p := ⟨g, 0, none⟩) (v := v0) (fun w1 h1 => (hRw.out w1 (le_trans (le_drewN _ _) h1)).cell? 0) ukindRingSI ?_
  simp only [Act.put, List.setIfInBounds_toArray, List.set_cons_succ, List.set_cons_zero]
  refine wpFreeD_one rfl (.pointer (some ⟨g', 0, none⟩)) (fun w1 _ => by kernel_rfl) ?_
  simp only [Act.put, List.setIfInBounds_toArray, List.set_cons_succ, List.set_cons_zero]
  refine wpFreeD_one rfl (.pointer (some ⟨g', 0, none⟩)) (fun w1 _ => by kernel_rfl) ?_
  simp only [Act.put, List.setIfInBounds_toArray, List.set_cons_succ, List.set_cons_zero]
  refine wpFreeD_one rfl (.pointer (some ⟨g', 0, none⟩)) (fun w1 _ => by kernel_rfl) ?_
  simp only [Act.put, List.setIfInBounds_toArray, List.set_cons_succ, List.set_cons_zero]
  refine wpFreeD_load1 rfl rfl rfl (p := ⟨g', 0, none⟩) (v := v0Z) (fun w1 h1 => (hRz.out w1 (le_trans (le_drewN _ _) h1)).cell? 0) ukindRingSI ?_
  simp only [Act.put, List.setIfInBounds_toArray, List.set_cons_succ, List.set_cons_zero]
  refine wpFreeD_callW (by kernel_rfl) rfl Try.func52 (by kernel_rfl) (by kernel_rfl) (args := #[v0, v0Z]) (by simp [Act.eval]) (fun v w1 w2 hw hv => hv) (fun w1 hw1 _ => (HR.out w1 (le_trans (le_drewN _ _) hw1)).mono ?_) ?_
  · rintro e w2 ⟨rfl, hl⟩
    exact ⟨_, rfl, hl, by simp only [if_true]; exact ⟨fun _ => by first | rfl | trivial, fun h => by first | rfl | trivial | (simp only [Array.mk.injEq, List.cons.injEq, and_true] at h; have h9 := AG h.1 h.2; rw [h9])⟩⟩
  rintro v ⟨_, _, _, hv⟩
  simp only [if_true] at hv
  obtain rfl := hv.1 (by first | rfl | trivial)
  simp only [Act.put, List.setIfInBounds_toArray, List.set_cons_succ, List.set_cons_zero]
  refine wpFreeD_one rfl (.bool false) (fun w1 _ => by kernel_rfl) ?_
  simp only [Act.put, List.setIfInBounds_toArray, List.set_cons_succ, List.set_cons_zero]
  refine wpFreeD_skip (by kernel_rfl) ?_
  simp only [Act.put, List.setIfInBounds_toArray, List.set_cons_succ, List.set_cons_zero]
  refine wpFreeD_skip (by kernel_rfl) ?_
  simp only [Act.put, List.setIfInBounds_toArray, List.set_cons_succ, List.set_cons_zero]
  refine wpFreeD_skip (by kernel_rfl) ?_
  simp only [Act.put, List.setIfInBounds_toArray, List.set_cons_succ, List.set_cons_zero]
  refine wpFreeD_skip (by kernel_rfl) ?_
  simp only [Act.put, List.setIfInBounds_toArray, List.set_cons_succ, List.set_cons_zero]
  refine wpFreeD_skip (by kernel_rfl) ?_
  simp only [Act.put, List.setIfInBounds_toArray, List.set_cons_succ, List.set_cons_zero]
  refine wpFreeD_skip (by kernel_rfl) ?_
  simp only [Act.put, List.setIfInBounds_toArray, List.set_cons_succ, List.set_cons_zero]
  refine wpFreeD_skip (by kernel_rfl) ?_
  simp only [Act.put, List.setIfInBounds_toArray, List.set_cons_succ, List.set_cons_zero]
  refine wpFreeD_skip (by kernel_rfl) ?_
  simp only [Act.put, List.setIfInBounds_toArray, List.set_cons_succ, List.set_cons_zero]
  refine wpFreeD_skip (by kernel_rfl) ?_
  simp only [Act.put, List.setIfInBounds_toArray, List.set_cons_succ, List.set_cons_zero]
  refine wpFreeD_one rfl (.bool false) (fun w1 _ => by kernel_rfl) ?_
  simp only [Act.put, List.setIfInBounds_toArray, List.set_cons_succ, List.set_cons_zero]
  refine wpFreeD_one rfl (.bool false) (fun w1 _ => by kernel_rfl) ?_
  simp only [Act.put, List.setIfInBounds_toArray, List.set_cons_succ, List.set_cons_zero]
  refine wpFreeD_skip (by kernel_rfl) ?_
  simp only [Act.put, List.setIfInBounds_toArray, List.set_cons_succ, List.set_cons_zero]
  refine wpFreeD_skip (by kernel_rfl) ?_
  simp only [Act.put, List.setIfInBounds_toArray, List.set_cons_succ, List.set_cons_zero]
  refine wpFreeD_skip (by kernel_rfl) ?_
  simp only [Act.put, List.setIfInBounds_toArray, List.set_cons_succ, List.set_cons_zero]
  refine wpFreeD_skip (by kernel_rfl) ?_
  simp only [Act.put, List.setIfInBounds_toArray, List.set_cons_succ, List.set_cons_zero]
  refine wpFreeD_skip (by kernel_rfl) ?_
  simp only [Act.put, List.setIfInBounds_toArray, List.set_cons_succ, List.set_cons_zero]
  refine wpFreeD_skip (by kernel_rfl) ?_
  simp only [Act.put, List.setIfInBounds_toArray, List.set_cons_succ, List.set_cons_zero]
  refine wpFreeD_skip (by kernel_rfl) ?_
  simp only [Act.put, List.setIfInBounds_toArray, List.set_cons_succ, List.set_cons_zero]
  refine wpFreeD_skip (by kernel_rfl) ?_
  simp only [Act.put, List.setIfInBounds_toArray, List.set_cons_succ, List.set_cons_zero]
  refine wpFreeD_skip (by kernel_rfl) ?_
  simp only [Act.put, List.setIfInBounds_toArray, List.set_cons_succ, List.set_cons_zero]
  refine wpFreeD_one rfl (.bool false) (fun w1 _ => by kernel_rfl) ?_
  simp only [Act.put, List.setIfInBounds_toArray, List.set_cons_succ, List.set_cons_zero]
  refine wpFreeD_one rfl (.bool false) (fun w1 _ => by kernel_rfl) ?_
  simp only [Act.put, List.setIfInBounds_toArray, List.set_cons_succ, List.set_cons_zero]
  refine wpFreeD_skip (by kernel_rfl) ?_
  simp only [Act.put, List.setIfInBounds_toArray, List.set_cons_succ, List.set_cons_zero]
  refine wpFreeD_skip (by kernel_rfl) ?_
  simp only [Act.put, List.setIfInBounds_toArray, List.set_cons_succ, List.set_cons_zero]
  refine wpFreeD_skip (by kernel_rfl) ?_
  simp only [Act.put, List.setIfInBounds_toArray, List.set_cons_succ, List.set_cons_zero]
  refine wpFreeD_skip (by kernel_rfl) ?_
  simp only [Act.put, List.setIfInBounds_toArray, List.set_cons_succ, List.set_cons_zero]
  refine wpFreeD_skip (by kernel_rfl) ?_
  simp only [Act.put, List.setIfInBounds_toArray, List.set_cons_succ, List.set_cons_zero]
  refine wpFreeD_skip (by kernel_rfl) ?_
  simp only [Act.put, List.setIfInBounds_toArray, List.set_cons_succ, List.set_cons_zero]
  refine wpFreeD_skip (by kernel_rfl) ?_
  simp only [Act.put, List.setIfInBounds_toArray, List.set_cons_succ, List.set_cons_zero]
  refine wpFreeD_one rfl (.bool false) (fun w1 _ => by kernel_rfl) ?_
  simp only [Act.put, List.setIfInBounds_toArray, List.set_cons_succ, List.set_cons_zero]
  refine wpFreeD_one rfl (.bool false) (fun w1 _ => by kernel_rfl) ?_
  simp only [Act.put, List.setIfInBounds_toArray, List.set_cons_succ, List.set_cons_zero]
  refine wpFreeD_skip (by kernel_rfl) ?_
  simp only [Act.put, List.setIfInBounds_toArray, List.set_cons_succ, List.set_cons_zero]
  refine wpFreeD_skip (by kernel_rfl) ?_
  simp only [Act.put, List.setIfInBounds_toArray, List.set_cons_succ, List.set_cons_zero]
  refine wpFreeD_skip (by kernel_rfl) ?_
  simp only [Act.put, List.setIfInBounds_toArray, List.set_cons_succ, List.set_cons_zero]
  refine wpFreeD_skip (by kernel_rfl) ?_
  simp only [Act.put, List.setIfInBounds_toArray, List.set_cons_succ, List.set_cons_zero]
  refine wpFreeD_skip (by kernel_rfl) ?_
  simp only [Act.put, List.setIfInBounds_toArray, List.set_cons_succ, List.set_cons_zero]
  refine wpFreeD_skip (by kernel_rfl) ?_
  simp only [Act.put, List.setIfInBounds_toArray, List.set_cons_succ, List.set_cons_zero]
  refine wpFreeD_skip (by kernel_rfl) ?_
  simp only [Act.put, List.setIfInBounds_toArray, List.set_cons_succ, List.set_cons_zero]
  refine wpFreeD_skip (by kernel_rfl) ?_
  simp only [Act.put, List.setIfInBounds_toArray, List.set_cons_succ, List.set_cons_zero]
  refine wpFreeD_skip (by kernel_rfl) ?_
  simp only [Act.put, List.setIfInBounds_toArray, List.set_cons_succ, List.set_cons_zero]
  refine wpFreeD_one rfl (.bool false) (fun w1 _ => by kernel_rfl) ?_
  simp only [Act.put, List.setIfInBounds_toArray, List.set_cons_succ, List.set_cons_zero]
  refine wpFreeD_one rfl (.bool false) (fun w1 _ => by kernel_rfl) ?_
  simp only [Act.put, List.setIfInBounds_toArray, List.set_cons_succ, List.set_cons_zero]
  refine wpFreeD_skip (by kernel_rfl) ?_
  simp only [Act.put, List.setIfInBounds_toArray, List.set_cons_succ, List.set_cons_zero]
  refine wpFreeD_skip (by kernel_rfl) ?_
  simp only [Act.put, List.setIfInBounds_toArray, List.set_cons_succ, List.set_cons_zero]
  refine wpFreeD_skip (by kernel_rfl) ?_
  simp only [Act.put, List.setIfInBounds_toArray, List.set_cons_succ, List.set_cons_zero]
  refine wpFreeD_skip (by kernel_rfl) ?_
  simp only [Act.put, List.setIfInBounds_toArray, List.set_cons_succ, List.set_cons_zero]
  refine wpFreeD_skip (by kernel_rfl) ?_
  simp only [Act.put, List.setIfInBounds_toArray, List.set_cons_succ, List.set_cons_zero]
  refine wpFreeD_skip (by kernel_rfl) ?_
  simp only [Act.put, List.setIfInBounds_toArray, List.set_cons_succ, List.set_cons_zero]
  refine wpFreeD_skip (by kernel_rfl) ?_
  simp only [Act.put, List.setIfInBounds_toArray, List.set_cons_succ, List.set_cons_zero]
  refine wpFreeD_skip (by kernel_rfl) ?_
  simp only [Act.put, List.setIfInBounds_toArray, List.set_cons_succ, List.set_cons_zero]
  refine wpFreeD_skip (by kernel_rfl) ?_
  simp only [Act.put, List.setIfInBounds_toArray, List.set_cons_succ, List.set_cons_zero]
  refine wpFreeD_one rfl (.bool false) (fun w1 _ => by kernel_rfl) ?_
  simp only [Act.put, List.setIfInBounds_toArray, List.set_cons_succ, List.set_cons_zero]
  refine wpFreeD_one rfl (.bool false) (fun w1 _ => by kernel_rfl) ?_
  simp only [Act.put, List.setIfInBounds_toArray, List.set_cons_succ, List.set_cons_zero]
  refine wpFreeD_skip (by kernel_rfl) ?_
  simp only [Act.put, List.setIfInBounds_toArray, List.set_cons_succ, List.set_cons_zero]
  refine wpFreeD_skip (by kernel_rfl) ?_
  simp only [Act.put, List.setIfInBounds_toArray, List.set_cons_succ, List.set_cons_zero]
  refine wpFreeD_skip (by kernel_rfl) ?_
  simp only [Act.put, List.setIfInBounds_toArray, List.set_cons_succ, List.set_cons_zero]
  refine wpFreeD_skip (by kernel_rfl) ?_
  simp only [Act.put, List.setIfInBounds_toArray, List.set_cons_succ, List.set_cons_zero]
  refine wpFreeD_skip (by kernel_rfl) ?_
  simp only [Act.put, List.setIfInBounds_toArray, List.set_cons_succ, List.set_cons_zero]
  refine wpFreeD_skip (by kernel_rfl) ?_
  simp only [Act.put, List.setIfInBounds_toArray, List.set_cons_succ, List.set_cons_zero]
  refine wpFreeD_skip (by kernel_rfl) ?_
  simp only [Act.put, List.setIfInBounds_toArray, List.set_cons_succ, List.set_cons_zero]
  refine wpFreeD_skip (by kernel_rfl) ?_
  simp only [Act.put, List.setIfInBounds_toArray, List.set_cons_succ, List.set_cons_zero]
  refine wpFreeD_skip (by kernel_rfl) ?_
  simp only [Act.put, List.setIfInBounds_toArray, List.set_cons_succ, List.set_cons_zero]
  refine wpFreeD_one rfl (.bool false) (fun w1 _ => by kernel_rfl) ?_
  simp only [Act.put, List.setIfInBounds_toArray, List.set_cons_succ, List.set_cons_zero]
  refine wpFreeD_one rfl (.bool false) (fun w1 _ => by kernel_rfl) ?_
  simp only [Act.put, List.setIfInBounds_toArray, List.set_cons_succ, List.set_cons_zero]
  refine wpFreeD_skip (by kernel_rfl) ?_
  simp only [Act.put, List.setIfInBounds_toArray, List.set_cons_succ, List.set_cons_zero]
  refine wpFreeD_skip (by kernel_rfl) ?_
  simp only [Act.put, List.setIfInBounds_toArray, List.set_cons_succ, List.set_cons_zero]
  refine wpFreeD_skip (by kernel_rfl) ?_
  simp only [Act.put, List.setIfInBounds_toArray, List.set_cons_succ, List.set_cons_zero]
  refine wpFreeD_skip (by kernel_rfl) ?_
  simp only [Act.put, List.setIfInBounds_toArray, List.set_cons_succ, List.set_cons_zero]
  refine wpFreeD_skip (by kernel_rfl) ?_
  simp only [Act.put, List.setIfInBounds_toArray, List.set_cons_succ, List.set_cons_zero]
  refine wpFreeD_skip (by kernel_rfl) ?_
  simp only [Act.put, List.setIfInBounds_toArray, List.set_cons_succ, List.set_cons_zero]
  refine wpFreeD_skip (by kernel_rfl) ?_
  simp only [Act.put, List.setIfInBounds_toArray, List.set_cons_succ, List.set_cons_zero]
  refine wpFreeD_skip (by kernel_rfl) ?_
  simp only [Act.put, List.setIfInBounds_toArray, List.set_cons_succ, List.set_cons_zero]
  refine wpFreeD_skip (by kernel_rfl) ?_
  simp only [Act.put, List.setIfInBounds_toArray, List.set_cons_succ, List.set_cons_zero]
  refine wpFreeD_one rfl (.bool false) (fun w1 _ => by kernel_rfl) ?_
  simp only [Act.put, List.setIfInBounds_toArray, List.set_cons_succ, List.set_cons_zero]
  refine wpFreeD_one rfl (.bool false) (fun w1 _ => by kernel_rfl) ?_
  simp only [Act.put, List.setIfInBounds_toArray, List.set_cons_succ, List.set_cons_zero]
  refine wpFreeD_nil (fun wR hwR _ => ?_)
  have HLq := hid (le_trans (le_drewN _ _) hwR)
  clear hwR
  go_wp2
  go_ret
  exact ⟨rfl, HLq.out⟩
end Go.Proofs.Ytnkjmgadnejdlaa

/- A walk of 'l04Same'. -/
namespace Go.Proofs.Ytnkjmgadnejdlaa
open Go.RowKit Go.Fk
set_option maxRecDepth 100000 in
set_option maxHeartbeats 4000000 in
theorem l04SameW1 (g g' : Nat) (v0 v1 v2 v0Z v1Z v2Z : Value) (k : Int) (a b c x y : Nat) (op : Bool) (l r s : Nat) (kZ : Int) (aZ bZ cZ xZ yZ : Nat) (opZ : Bool) (lZ rZ sZ : Nat) (w : World) (e2 e3 : Bool) (hRw : Hid (∀ (w' : World), le w w' → Row w' g 36 #[v0, v1, v2, .int .i64 k, .float .f32 a, .float .f32 b, .float .f32 c, .float .f32 x, .float .f32 y, .bool op, .float .f32 l, .float .f32 r, .float .f32 s])) (hRz : Hid (∀ (w' : World), le w w' → Row w' g' 36 #[v0Z, v1Z, v2Z, .int .i64 kZ, .float .f32 aZ, .float .f32 bZ, .float .f32 cZ, .float .f32 xZ, .float .f32 yZ, .bool opZ, .float .f32 lZ, .float .f32 rZ, .float .f32 sZ]))
    (HR : Hid (∀ (w' : World), le w w' → Calls Try.prog 52 #[v0, v0Z] w' fun e w'' => e = .returned (.bool true) ∧ le w' w'')) (HL : Hid (∀ (w' : World), le w w' → Calls Try.prog 52 #[v1, v1Z] w' fun e w'' => e = .returned (.bool false) ∧ le w' w''))
    (HS : Hid (∀ (w' : World), le w w' → Calls Try.prog 53 #[v2, v2Z] w' fun e w'' => e = .returned (.bool e2) ∧ ∃ n, w'' = w'.drewN n)) (HF : Hid (∀ (w' : World), le w w' → Calls Try.prog 54 #[.pointer (some ⟨g, 3, none⟩), .pointer (some ⟨g', 3, none⟩)] w' fun e w'' => e = .returned (.bool e3) ∧ ∃ n, w'' = w'.drewN n)) (AG : v0 = v1 → v0Z = v1Z → true = false) : Calls Try.prog 22 #[.pointer (some ⟨g, 0, none⟩), .pointer (some ⟨g', 0, none⟩)] w (Out_b false w) := by
  go_enter Try.func22, Try.ntmps22
  go_wp2_with fail
  refine region_freeD (E := leX) (fun f args _ v => if f = 52 then (args = #[v0, v0Z] → v = .bool true) ∧ (args = #[v1, v1Z] → v = .bool false) else if f = 53 then v = .bool e2 else if f = 54 then v = .bool e3 else ∀ p q, args = #[.float .f32 p, .float .f32 q] → v = .bool (sameB p q)) (by kernel_rfl) (by kernel_rfl) ?_
  refine wpFreeD_one rfl (.pointer (some ⟨g, 0, none⟩)) (fun w1 _ => by kernel_rfl) ?_
  simp only [Act.put, List.setIfInBounds_toArray, List.set_cons_succ, List.set_cons_zero]
  refine wpFreeD_one rfl (.pointer (some ⟨g, 0, none⟩)) (fun w1 _ => by kernel_rfl) ?_
  simp only [Act.put, List.setIfInBounds_toArray, List.set_cons_succ, List.set_cons_zero]
  refine wpFreeD_one rfl (.pointer (some ⟨g, 0, none⟩)) (fun w1 _ => by kernel_rfl) ?_
  simp only [Act.put, List.setIfInBounds_toArray, List.set_cons_succ, List.set_cons_zero]
  refine wpFreeD_load1 rfl rfl rfl (p := ⟨g, 0, none⟩) (v := v0) (fun w1 h1 => (hRw.out w1 (le_trans (le_drewN _ _) h1)).cell? 0) ukindRingSI ?_
  simp only [Act.put, List.setIfInBounds_toArray, List.set_cons_succ, List.set_cons_zero]
  refine wpFreeD_one rfl (.pointer (some ⟨g', 0, none⟩)) (fun w1 _ => by kernel_rfl) ?_
  simp only [Act.put, List.setIfInBounds_toArray, List.set_cons_succ, List.set_cons_zero]
  refine wpFreeD_one rfl (.pointer (some ⟨g', 0, none⟩)) (fun w1 _ => by kernel_rfl) ?_
  simp only [Act.put, List.setIfInBounds_toArray, List.set_cons_succ, List.set_cons_zero]
  refine wpFreeD_one rfl (.pointer (some ⟨g', 0, none⟩)) (fun w1 _ => by kernel_rfl) ?_
  simp only [Act.put, List.setIfInBounds_toArray, List.set_cons_succ, List.set_cons_zero]
  refine wpFreeD_load1 rfl rfl rfl (p := ⟨g', 0, none⟩) (v := v0Z) (fun w1 h1 => (hRz.out w1 (le_trans (le_drewN _ _) h1)).cell? 0) ukindRingSI ?_
  simp only [Act.put, List.setIfInBounds_toArray, List.set_cons_succ, List.set_cons_zero]
  refine wpFreeD_callW (by kernel_rfl) rfl Try.func52 (by kernel_rfl) (by kernel_rfl) (args := #[v0, v0Z]) (by simp [Act.eval]) (fun v w1 w2 hw hv => hv) (fun w1 hw1 _ => (HR.out w1 (le_trans (le_drewN _ _) hw1)).mono ?_) ?_
  · rintro e w2 ⟨rfl, hl⟩
    exact ⟨_, rfl, hl, by simp only [if_true]; exact ⟨fun _ => by first | rfl | trivial, fun h => by first | rfl | trivial | (simp only [Array.mk.injEq, List.cons.injEq, and_true] at h; have h9 := AG h.1 h.2; rw [h9])⟩⟩
  rintro v ⟨_, _, _, hv⟩
  simp only [if_true] at hv
  obtain rfl := hv.1 (by first | rfl | trivial)
  simp only [Act.put, List.setIfInBounds_toArray, List.set_cons_succ, List.set_cons_zero]
  refine wpFreeD_one rfl (.bool true) (fun w1 _ => by kernel_rfl) ?_
  simp only [Act.put, List.setIfInBounds_toArray, List.set_cons_succ, List.set_cons_zero]
  refine wpFreeD_oneW (by kernel_rfl) (.pointer (some ⟨g, 0, none⟩)) (fun w1 _ => by kernel_rfl) ?_
  simp only [Act.put, List.setIfInBounds_toArray, List.set_cons_succ, List.set_cons_zero]
  refine wpFreeD_oneW (by kernel_rfl) (.pointer (some ⟨g, 0, none⟩)) (fun w1 _ => by kernel_rfl) ?_
  simp only [Act.put, List.setIfInBounds_toArray, List.set_cons_succ, List.set_cons_zero]
  refine wpFreeD_oneW (by kernel_rfl) (.pointer (some ⟨g, 1, none⟩)) (fun w1 _ => by kernel_rfl) ?_
  simp only [Act.put, List.setIfInBounds_toArray, List.set_cons_succ, List.set_cons_zero]
  refine wpFreeD_load1W (by kernel_rfl) rfl rfl (p := ⟨g, 1, none⟩) (v := v1) (fun w1 h1 => (hRw.out w1 (le_trans (le_drewN _ _) h1)).cell? 1) ukindRingSI ?_
  simp only [Act.put, List.setIfInBounds_toArray, List.set_cons_succ, List.set_cons_zero]
  refine wpFreeD_oneW (by kernel_rfl) (.pointer (some ⟨g', 0, none⟩)) (fun w1 _ => by kernel_rfl) ?_
  simp only [Act.put, List.setIfInBounds_toArray, List.set_cons_succ, List.set_cons_zero]
  refine wpFreeD_oneW (by kernel_rfl) (.pointer (some ⟨g', 0, none⟩)) (fun w1 _ => by kernel_rfl) ?_
  simp only [Act.put, List.setIfInBounds_toArray, List.set_cons_succ, List.set_cons_zero]
  refine wpFreeD_oneW (by kernel_rfl) (.pointer (some ⟨g', 1, none⟩)) (fun w1 _ => by kernel_rfl) ?_
  simp only [Act.put, List.setIfInBounds_toArray, List.set_cons_succ, List.set_cons_zero]
  refine wpFreeD_load1W (by kernel_rfl) rfl rfl (p := ⟨g', 1, none⟩) (v := v1Z) (fun w1 h1 => (hRz.out w1 (le_trans (le_drewN _ _) h1)).cell? 1) ukindRingSI ?_
  simp only [Act.put, List.setIfInBounds_toArray, List.set_cons_succ, List.set_cons_zero]
  refine wpFreeD_callW (by kernel_rfl) rfl Try.func52 (by kernel_rfl) (by kernel_rfl) (args := #[v1, v1Z]) (by simp [Act.eval]) (fun v w1 w2 hw hv => hv) (fun w1 hw1 _ => (HL.out w1 (le_trans (le_drewN _ _) hw1)).mono ?_) ?_
  · rintro e w2 ⟨rfl, hl⟩
    exact ⟨_, rfl, hl, by simp only [if_true]; exact ⟨fun h => by first | rfl | trivial | (simp only [Array.mk.injEq, List.cons.injEq, and_true] at h; have h9 := AG h.1.symm h.2.symm; rw [h9]), fun _ => by first | rfl | trivial⟩⟩
  rintro v ⟨_, _, _, hv⟩
  simp only [if_true] at hv
  obtain rfl := hv.2 (by first | rfl | trivial)
  simp only [Act.put, List.setIfInBounds_toArray, List.set_cons_succ, List.set_cons_zero]
  refine wpFreeD_one rfl (.bool false) (fun w1 _ => by kernel_rfl) ?_
  simp only [Act.put, List.setIfInBounds_toArray, List.set_cons_succ, List.set_cons_zero]
  refine wpFreeD_one rfl (.bool false) (fun w1 _ => by kernel_rfl) ?_
  simp only [Act.put, List.setIfInBounds_toArray, List.set_cons_succ, List.set_cons_zero]
  refine wpFreeD_skip (by kernel_rfl) ?_
  simp only [Act.put, List.setIfInBounds_toArray, List.set_cons_succ, List.set_cons_zero]
  refine wpFreeD_skip (by kernel_rfl) ?_
  simp only [Act.put, List.setIfInBounds_toArray, List.set_cons_succ, List.set_cons_zero]
  refine wpFreeD_skip (by kernel_rfl) ?_
  simp only [Act.put, List.setIfInBounds_toArray, List.set_cons_succ, List.set_cons_zero]
  refine wpFreeD_skip (by kernel_rfl) ?_
  simp only [Act.put, List.setIfInBounds_toArray, List.set_cons_succ, List.set_cons_zero]
  refine wpFreeD_skip (by kernel_rfl) ?_
  simp only [Act.put, List.setIfInBounds_toArray, List.set_cons_succ, List.set_cons_zero]
  refine wpFreeD_skip (by kernel_rfl) ?_
  simp only [Act.put, List.setIfInBounds_toArray, List.set_cons_succ, List.set_cons_zero]
  refine wpFreeD_skip (by kernel_rfl) ?_
  simp only [Act.put, List.setIfInBounds_toArray, List.set_cons_succ, List.set_cons_zero]
  refine wpFreeD_skip (by kernel_rfl) ?_
  simp only [Act.put, List.setIfInBounds_toArray, List.set_cons_succ, List.set_cons_zero]
  refine wpFreeD_skip (by kernel_rfl) ?_
  simp only [Act.put, List.setIfInBounds_toArray, List.set_cons_succ, List.set_cons_zero]
  refine wpFreeD_one rfl (.bool false) (fun w1 _ => by kernel_rfl) ?_
  simp only [Act.put, List.setIfInBounds_toArray, List.set_cons_succ, List.set_cons_zero]
  refine wpFreeD_one rfl (.bool false) (fun w1 _ => by kernel_rfl) ?_
  simp only [Act.put, List.setIfInBounds_toArray, List.set_cons_succ, List.set_cons_zero]
  refine wpFreeD_skip (by kernel_rfl) ?_
  simp only [Act.put, List.setIfInBounds_toArray, List.set_cons_succ, List.set_cons_zero]
  refine wpFreeD_skip (by kernel_rfl) ?_
  simp only [Act.put, List.setIfInBounds_toArray, List.set_cons_succ, List.set_cons_zero]
  refine wpFreeD_skip (by kernel_rfl) ?_
  simp only [Act.put, List.setIfInBounds_toArray, List.set_cons_succ, List.set_cons_zero]
  refine wpFreeD_skip (by kernel_rfl) ?_
  simp only [Act.put, List.setIfInBounds_toArray, List.set_cons_succ, List.set_cons_zero]
  refine wpFreeD_skip (by kernel_rfl) ?_
  simp only [Act.put, List.setIfInBounds_toArray, List.set_cons_succ, List.set_cons_zero]
  refine wpFreeD_skip (by kernel_rfl) ?_
  simp only [Act.put, List.setIfInBounds_toArray, List.set_cons_succ, List.set_cons_zero]
  refine wpFreeD_skip (by kernel_rfl) ?_
  simp only [Act.put, List.setIfInBounds_toArray, List.set_cons_succ, List.set_cons_zero]
  refine wpFreeD_one rfl (.bool false) (fun w1 _ => by kernel_rfl) ?_
  simp only [Act.put, List.setIfInBounds_toArray, List.set_cons_succ, List.set_cons_zero]
  refine wpFreeD_one rfl (.bool false) (fun w1 _ => by kernel_rfl) ?_
  simp only [Act.put, List.setIfInBounds_toArray, List.set_cons_succ, List.set_cons_zero]
  refine wpFreeD_skip (by kernel_rfl) ?_
  simp only [Act.put, List.setIfInBounds_toArray, List.set_cons_succ, List.set_cons_zero]
  refine wpFreeD_skip (by kernel_rfl) ?_
  simp only [Act.put, List.setIfInBounds_toArray, List.set_cons_succ, List.set_cons_zero]
  refine wpFreeD_skip (by kernel_rfl) ?_
  simp only [Act.put, List.setIfInBounds_toArray, List.set_cons_succ, List.set_cons_zero]
  refine wpFreeD_skip (by kernel_rfl) ?_
  simp only [Act.put, List.setIfInBounds_toArray, List.set_cons_succ, List.set_cons_zero]
  refine wpFreeD_skip (by kernel_rfl) ?_
  simp only [Act.put, List.setIfInBounds_toArray, List.set_cons_succ, List.set_cons_zero]
  refine wpFreeD_skip (by kernel_rfl) ?_
  simp only [Act.put, List.setIfInBounds_toArray, List.set_cons_succ, List.set_cons_zero]
  refine wpFreeD_skip (by kernel_rfl) ?_
  simp only [Act.put, List.setIfInBounds_toArray, List.set_cons_succ, List.set_cons_zero]
  refine wpFreeD_skip (by kernel_rfl) ?_
  simp only [Act.put, List.setIfInBounds_toArray, List.set_cons_succ, List.set_cons_zero]
  refine wpFreeD_skip (by kernel_rfl) ?_
  simp only [Act.put, List.setIfInBounds_toArray, List.set_cons_succ, List.set_cons_zero]
  refine wpFreeD_one rfl (.bool false) (fun w1 _ => by kernel_rfl) ?_
  simp only [Act.put, List.setIfInBounds_toArray, List.set_cons_succ, List.set_cons_zero]
  refine wpFreeD_one rfl (.bool false) (fun w1 _ => by kernel_rfl) ?_
  simp only [Act.put, List.setIfInBounds_toArray, List.set_cons_succ, List.set_cons_zero]
  refine wpFreeD_skip (by kernel_rfl) ?_
  simp only [Act.put, List.setIfInBounds_toArray, List.set_cons_succ, List.set_cons_zero]
  refine wpFreeD_skip (by kernel_rfl) ?_
  simp only [Act.put, List.setIfInBounds_toArray, List.set_cons_succ, List.set_cons_zero]
  refine wpFreeD_skip (by kernel_rfl) ?_
  simp only [Act.put, List.setIfInBounds_toArray, List.set_cons_succ, List.set_cons_zero]
  refine wpFreeD_skip (by kernel_rfl) ?_
  simp only [Act.put, List.setIfInBounds_toArray, List.set_cons_succ, List.set_cons_zero]
  refine wpFreeD_skip (by kernel_rfl) ?_
  simp only [Act.put, List.setIfInBounds_toArray, List.set_cons_succ, List.set_cons_zero]
  refine wpFreeD_skip (by kernel_rfl) ?_
  simp only [Act.put, List.setIfInBounds_toArray, List.set_cons_succ, List.set_cons_zero]
  refine wpFreeD_skip (by kernel_rfl) ?_
  simp only [Act.put, List.setIfInBounds_toArray, List.set_cons_succ, List.set_cons_zero]
  refine wpFreeD_skip (by kernel_rfl) ?_
  simp only [Act.put, List.setIfInBounds_toArray, List.set_cons_succ, List.set_cons_zero]
  refine wpFreeD_skip (by kernel_rfl) ?_
  simp only [Act.put, List.setIfInBounds_toArray, List.set_cons_succ, List.set_cons_zero]
  refine wpFreeD_one rfl (.bool false) (fun w1 _ => by kernel_rfl) ?_
  simp only [Act.put, List.setIfInBounds_toArray, List.set_cons_succ, List.set_cons_zero]
  refine wpFreeD_one rfl (.bool false) (fun w1 _ => by kernel_rfl) ?_
  simp only [Act.put, List.setIfInBounds_toArray, List.set_cons_succ, List.set_cons_zero]
  refine wpFreeD_skip (by kernel_rfl) ?_
  simp only [Act.put, List.setIfInBounds_toArray, List.set_cons_succ, List.set_cons_zero]
  refine wpFreeD_skip (by kernel_rfl) ?_
  simp only [Act.put, List.setIfInBounds_toArray, List.set_cons_succ, List.set_cons_zero]
  refine wpFreeD_skip (by kernel_rfl) ?_
  simp only [Act.put, List.setIfInBounds_toArray, List.set_cons_succ, List.set_cons_zero]
  refine wpFreeD_skip (by kernel_rfl) ?_
  simp only [Act.put, List.setIfInBounds_toArray, List.set_cons_succ, List.set_cons_zero]
  refine wpFreeD_skip (by kernel_rfl) ?_
  simp only [Act.put, List.setIfInBounds_toArray, List.set_cons_succ, List.set_cons_zero]
  refine wpFreeD_skip (by kernel_rfl) ?_
  simp only [Act.put, List.setIfInBounds_toArray, List.set_cons_succ, List.set_cons_zero]
  refine wpFreeD_skip (by kernel_rfl) ?_
  simp only [Act.put, List.setIfInBounds_toArray, List.set_cons_succ, List.set_cons_zero]
  refine wpFreeD_skip (by kernel_rfl) ?_
  simp only [Act.put, List.setIfInBounds_toArray, List.set_cons_succ, List.set_cons_zero]
  refine wpFreeD_skip (by kernel_rfl) ?_
  simp only [Act.put, List.setIfInBounds_toArray, List.set_cons_succ, List.set_cons_zero]
  refine wpFreeD_one rfl (.bool false) (fun w1 _ => by kernel_rfl) ?_
  simp only [Act.put, List.setIfInBounds_toArray, List.set_cons_succ, List.set_cons_zero]
  refine wpFreeD_one rfl (.bool false) (fun w1 _ => by kernel_rfl) ?_
  simp only [Act.put, List.setIfInBounds_toArray, List.set_cons_succ, List.set_cons_zero]
  refine wpFreeD_skip (by kernel_rfl) ?_
  simp only [Act.put, List.setIfInBounds_toArray, List.set_cons_succ, List.set_cons_zero]
  refine wpFreeD_skip (by kernel_rfl) ?_
  simp only [Act.put, List.setIfInBounds_toArray, List.set_cons_succ, List.set_cons_zero]
  refine wpFreeD_skip (by kernel_rfl) ?_
  simp only [Act.put, List.setIfInBounds_toArray, List.set_cons_succ, List.set_cons_zero]
  refine wpFreeD_skip (by kernel_rfl) ?_
  simp only [Act.put, List.setIfInBounds_toArray, List.set_cons_succ, List.set_cons_zero]
  refine wpFreeD_skip (by kernel_rfl) ?_
  simp only [Act.put, List.setIfInBounds_toArray, List.set_cons_succ, List.set_cons_zero]
  refine wpFreeD_skip (by kernel_rfl) ?_
  simp only [Act.put, List.setIfInBounds_toArray, List.set_cons_succ, List.set_cons_zero]
  refine wpFreeD_skip (by kernel_rfl) ?_
  simp only [Act.put, List.setIfInBounds_toArray, List.set_cons_succ, List.set_cons_zero]
  refine wpFreeD_skip (by kernel_rfl) ?_
  simp only [Act.put, List.setIfInBounds_toArray, List.set_cons_succ, List.set_cons_zero]
  refine wpFreeD_skip (by kernel_rfl) ?_
  simp only [Act.put, List.setIfInBounds_toArray, List.set_cons_succ, List.set_cons_zero]
  refine wpFreeD_one rfl (.bool false) (fun w1 _ => by kernel_rfl) ?_
  simp only [Act.put, List.setIfInBounds_toArray, List.set_cons_succ, List.set_cons_zero]
  refine wpFreeD_one rfl (.bool false) (fun w1 _ => by kernel_rfl) ?_
  simp only [Act.put, List.setIfInBounds_toArray, List.set_cons_succ, List.set_cons_zero]
  refine wpFreeD_nil (fun wR hwR _ => ?_)
  have HLq := hid (le_trans (le_drewN _ _) hwR)
  clear hwR
  go_wp2
  go_ret
  exact ⟨rfl, HLq.out⟩
end Go.Proofs.Ytnkjmgadnejdlaa

/- A walk of 'l04Same'. -/
namespace Go.Proofs.Ytnkjmgadnejdlaa
open Go.RowKit Go.Fk
set_option maxRecDepth 100000 in
set_option maxHeartbeats 4000000 in
theorem l04SameW2 (g g' : Nat) (v0 v1 v2 v0Z v1Z v2Z : Value) (k : Int) (a b c x y : Nat) (op : Bool) (l r s : Nat) (kZ : Int) (aZ bZ cZ xZ yZ : Nat) (opZ : Bool) (lZ rZ sZ : Nat) (w : World) (e3 : Bool) (hRw : Hid (∀ (w' : World), le w w' → Row w' g 36 #[v0, v1, v2, .int .i64 k, .float .f32 a, .float .f32 b, .float .f32 c, .float .f32 x, .float .f32 y, .bool op, .float .f32 l, .float .f32 r, .float .f32 s])) (hRz : Hid (∀ (w' : World), le w w' → Row w' g' 36 #[v0Z, v1Z, v2Z, .int .i64 kZ, .float .f32 aZ, .float .f32 bZ, .float .f32 cZ, .float .f32 xZ, .float .f32 yZ, .bool opZ, .float .f32 lZ, .float .f32 rZ, .float .f32 sZ]))
    (HR : Hid (∀ (w' : World), le w w' → Calls Try.prog 52 #[v0, v0Z] w' fun e w'' => e = .returned (.bool true) ∧ le w' w'')) (HL : Hid (∀ (w' : World), le w w' → Calls Try.prog 52 #[v1, v1Z] w' fun e w'' => e = .returned (.bool true) ∧ le w' w''))
    (HS : Hid (∀ (w' : World), le w w' → Calls Try.prog 53 #[v2, v2Z] w' fun e w'' => e = .returned (.bool false) ∧ ∃ n, w'' = w'.drewN n)) (HF : Hid (∀ (w' : World), le w w' → Calls Try.prog 54 #[.pointer (some ⟨g, 3, none⟩), .pointer (some ⟨g', 3, none⟩)] w' fun e w'' => e = .returned (.bool e3) ∧ ∃ n, w'' = w'.drewN n)) (AG : v0 = v1 → v0Z = v1Z → true = true) : Calls Try.prog 22 #[.pointer (some ⟨g, 0, none⟩), .pointer (some ⟨g', 0, none⟩)] w (Out_b false w) := by
  go_enter Try.func22, Try.ntmps22
  go_wp2_with fail
  refine region_freeD (E := leX) (fun f args _ v => if f = 52 then (args = #[v0, v0Z] → v = .bool true) ∧ (args = #[v1, v1Z] → v = .bool true) else if f = 53 then v = .bool false else if f = 54 then v = .bool e3 else ∀ p q, args = #[.float .f32 p, .float .f32 q] → v = .bool (sameB p q)) (by kernel_rfl) (by kernel_rfl) ?_
  refine wpFreeD_one rfl (.pointer (some ⟨g, 0, none⟩)) (fun w1 _ => by kernel_rfl) ?_
  simp only [Act.put, List.setIfInBounds_toArray, List.set_cons_succ, List.set_cons_zero]
  refine wpFreeD_one rfl (.pointer (some ⟨g, 0, none⟩)) (fun w1 _ => by kernel_rfl) ?_
  simp only [Act.put, List.setIfInBounds_toArray, List.set_cons_succ, List.set_cons_zero]
  refine wpFreeD_one rfl (.pointer (some ⟨g, 0, none⟩)) (fun w1 _ => by kernel_rfl) ?_
  simp only [Act.put, List.setIfInBounds_toArray, List.set_cons_succ, List.set_cons_zero]
  refine wpFreeD_load1 rfl rfl rfl (p := ⟨g, 0, none⟩) (v := v0) (fun w1 h1 => (hRw.out w1 (le_trans (le_drewN _ _) h1)).cell? 0) ukindRingSI ?_
  simp only [Act.put, List.setIfInBounds_toArray, List.set_cons_succ, List.set_cons_zero]
  refine wpFreeD_one rfl (.pointer (some ⟨g', 0, none⟩)) (fun w1 _ => by kernel_rfl) ?_
  simp only [Act.put, List.setIfInBounds_toArray, List.set_cons_succ, List.set_cons_zero]
  refine wpFreeD_one rfl (.pointer (some ⟨g', 0, none⟩)) (fun w1 _ => by kernel_rfl) ?_
  simp only [Act.put, List.setIfInBounds_toArray, List.set_cons_succ, List.set_cons_zero]
  refine wpFreeD_one rfl (.pointer (some ⟨g', 0, none⟩)) (fun w1 _ => by kernel_rfl) ?_
  simp only [Act.put, List.setIfInBounds_toArray, List.set_cons_succ, List.set_cons_zero]
  refine wpFreeD_load1 rfl rfl rfl (p := ⟨g', 0, none⟩) (v := v0Z) (fun w1 h1 => (hRz.out w1 (le_trans (le_drewN _ _) h1)).cell? 0) ukindRingSI ?_
  simp only [Act.put, List.setIfInBounds_toArray, List.set_cons_succ, List.set_cons_zero]
  refine wpFreeD_callW (by kernel_rfl) rfl Try.func52 (by kernel_rfl) (by kernel_rfl) (args := #[v0, v0Z]) (by simp [Act.eval]) (fun v w1 w2 hw hv => hv) (fun w1 hw1 _ => (HR.out w1 (le_trans (le_drewN _ _) hw1)).mono ?_) ?_
  · rintro e w2 ⟨rfl, hl⟩
    exact ⟨_, rfl, hl, by simp only [if_true]; exact ⟨fun _ => by first | rfl | trivial, fun h => by first | rfl | trivial | (simp only [Array.mk.injEq, List.cons.injEq, and_true] at h; have h9 := AG h.1 h.2; rw [h9])⟩⟩
  rintro v ⟨_, _, _, hv⟩
  simp only [if_true] at hv
  obtain rfl := hv.1 (by first | rfl | trivial)
  simp only [Act.put, List.setIfInBounds_toArray, List.set_cons_succ, List.set_cons_zero]
  refine wpFreeD_one rfl (.bool true) (fun w1 _ => by kernel_rfl) ?_
  simp only [Act.put, List.setIfInBounds_toArray, List.set_cons_succ, List.set_cons_zero]
  refine wpFreeD_oneW (by kernel_rfl) (.pointer (some ⟨g, 0, none⟩)) (fun w1 _ => by kernel_rfl) ?_
  simp only [Act.put, List.setIfInBounds_toArray, List.set_cons_succ, List.set_cons_zero]
  refine wpFreeD_oneW (by kernel_rfl) (.pointer (some ⟨g, 0, none⟩)) (fun w1 _ => by kernel_rfl) ?_
  simp only [Act.put, List.setIfInBounds_toArray, List.set_cons_succ, List.set_cons_zero]
  refine wpFreeD_oneW (by kernel_rfl) (.pointer (some ⟨g, 1, none⟩)) (fun w1 _ => by kernel_rfl) ?_
  simp only [Act.put, List.setIfInBounds_toArray, List.set_cons_succ, List.set_cons_zero]
  refine wpFreeD_load1W (by kernel_rfl) rfl rfl (p := ⟨g, 1, none⟩) (v := v1) (fun w1 h1 => (hRw.out w1 (le_trans (le_drewN _ _) h1)).cell? 1) ukindRingSI ?_
  simp only [Act.put, List.setIfInBounds_toArray, List.set_cons_succ, List.set_cons_zero]
  refine wpFreeD_oneW (by kernel_rfl) (.pointer (some ⟨g', 0, none⟩)) (fun w1 _ => by kernel_rfl) ?_
  simp only [Act.put, List.setIfInBounds_toArray, List.set_cons_succ, List.set_cons_zero]
  refine wpFreeD_oneW (by kernel_rfl) (.pointer (some ⟨g', 0, none⟩)) (fun w1 _ => by kernel_rfl) ?_
  simp only [Act.put, List.setIfInBounds_toArray, List.set_cons_succ, List.set_cons_zero]
  refine wpFreeD_oneW (by kernel_rfl) (.pointer (some ⟨g', 1, none⟩)) (fun w1 _ => by kernel_rfl) ?_
  simp only [Act.put, List.setIfInBounds_toArray, List.set_cons_succ, List.set_cons_zero]
  refine wpFreeD_load1W (by kernel_rfl) rfl rfl (p := ⟨g', 1, none⟩) (v := v1Z) (fun w1 h1 => (hRz.out w1 (le_trans (le_drewN _ _) h1)).cell? 1) ukindRingSI ?_
  simp only [Act.put, List.setIfInBounds_toArray, List.set_cons_succ, List.set_cons_zero]
  refine wpFreeD_callW (by kernel_rfl) rfl Try.func52 (by kernel_rfl) (by kernel_rfl) (args := #[v1, v1Z]) (by simp [Act.eval]) (fun v w1 w2 hw hv => hv) (fun w1 hw1 _ => (HL.out w1 (le_trans (le_drewN _ _) hw1)).mono ?_) ?_
  · rintro e w2 ⟨rfl, hl⟩
    exact ⟨_, rfl, hl, by simp only [if_true]; exact ⟨fun h => by first | rfl | trivial | (simp only [Array.mk.injEq, List.cons.injEq, and_true] at h; have h9 := AG h.1.symm h.2.symm; rw [h9]), fun _ => by first | rfl | trivial⟩⟩
  rintro v ⟨_, _, _, hv⟩
  simp only [if_true] at hv
  obtain rfl := hv.2 (by first | rfl | trivial)
  simp only [Act.put, List.setIfInBounds_toArray, List.set_cons_succ, List.set_cons_zero]
  refine wpFreeD_one rfl (.bool true) (fun w1 _ => by kernel_rfl) ?_
  simp only [Act.put, List.setIfInBounds_toArray, List.set_cons_succ, List.set_cons_zero]
  refine wpFreeD_one rfl (.bool true) (fun w1 _ => by kernel_rfl) ?_
  simp only [Act.put, List.setIfInBounds_toArray, List.set_cons_succ, List.set_cons_zero]
  refine wpFreeD_oneW (by kernel_rfl) (.pointer (some ⟨g, 0, none⟩)) (fun w1 _ => by kernel_rfl) ?_
  simp only [Act.put, List.setIfInBounds_toArray, List.set_cons_succ, List.set_cons_zero]
  refine wpFreeD_oneW (by kernel_rfl) (.pointer (some ⟨g, 0, none⟩)) (fun w1 _ => by kernel_rfl) ?_
  simp only [Act.put, List.setIfInBounds_toArray, List.set_cons_succ, List.set_cons_zero]
  refine wpFreeD_oneW (by kernel_rfl) (.pointer (some ⟨g, 2, none⟩)) (fun w1 _ => by kernel_rfl) ?_
  simp only [Act.put, List.setIfInBounds_toArray, List.set_cons_succ, List.set_cons_zero]
  refine wpFreeD_load1W (by kernel_rfl) rfl rfl (p := ⟨g, 2, none⟩) (v := v2) (fun w1 h1 => (hRw.out w1 (le_trans (le_drewN _ _) h1)).cell? 2) ukindFloat32S ?_
  simp only [Act.put, List.setIfInBounds_toArray, List.set_cons_succ, List.set_cons_zero]
  refine wpFreeD_oneW (by kernel_rfl) (.pointer (some ⟨g', 0, none⟩)) (fun w1 _ => by kernel_rfl) ?_
  simp only [Act.put, List.setIfInBounds_toArray, List.set_cons_succ, List.set_cons_zero]
  refine wpFreeD_oneW (by kernel_rfl) (.pointer (some ⟨g', 0, none⟩)) (fun w1 _ => by kernel_rfl) ?_
  simp only [Act.put, List.setIfInBounds_toArray, List.set_cons_succ, List.set_cons_zero]
  refine wpFreeD_oneW (by kernel_rfl) (.pointer (some ⟨g', 2, none⟩)) (fun w1 _ => by kernel_rfl) ?_
  simp only [Act.put, List.setIfInBounds_toArray, List.set_cons_succ, List.set_cons_zero]
  refine wpFreeD_load1W (by kernel_rfl) rfl rfl (p := ⟨g', 2, none⟩) (v := v2Z) (fun w1 h1 => (hRz.out w1 (le_trans (le_drewN _ _) h1)).cell? 2) ukindFloat32S ?_
  simp only [Act.put, List.setIfInBounds_toArray, List.set_cons_succ, List.set_cons_zero]
  refine wpFreeD_callW (by kernel_rfl) rfl Try.func53 (by kernel_rfl) (by kernel_rfl) (args := #[v2, v2Z]) (by simp [Act.eval]) (fun v w1 w2 hw hv => hv) (fun w1 hw1 _ => (HS.out w1 (le_trans (le_drewN _ _) hw1)).mono ?_) ?_
  · rintro e w2 ⟨rfl, q9, rfl⟩
    exact ⟨_, rfl, le_drewN _ _, by simp only [show ¬ (53 = 52) by decide, if_false, if_true]⟩
  rintro v ⟨_, _, _, hv⟩
  simp only [show ¬ (53 = 52) by decide, if_false, if_true] at hv
  subst hv
  simp only [Act.put, List.setIfInBounds_toArray, List.set_cons_succ, List.set_cons_zero]
  refine wpFreeD_one rfl (.bool false) (fun w1 _ => by kernel_rfl) ?_
  simp only [Act.put, List.setIfInBounds_toArray, List.set_cons_succ, List.set_cons_zero]
  refine wpFreeD_one rfl (.bool false) (fun w1 _ => by kernel_rfl) ?_
  simp only [Act.put, List.setIfInBounds_toArray, List.set_cons_succ, List.set_cons_zero]
  refine wpFreeD_skip (by kernel_rfl) ?_
  simp only [Act.put, List.setIfInBounds_toArray, List.set_cons_succ, List.set_cons_zero]
  refine wpFreeD_skip (by kernel_rfl) ?_
  simp only [Act.put, List.setIfInBounds_toArray, List.set_cons_succ, List.set_cons_zero]
  refine wpFreeD_skip (by kernel_rfl) ?_
  simp only [Act.put, List.setIfInBounds_toArray, List.set_cons_succ, List.set_cons_zero]
  refine wpFreeD_skip (by kernel_rfl) ?_
  simp only [Act.put, List.setIfInBounds_toArray, List.set_cons_succ, List.set_cons_zero]
  refine wpFreeD_skip (by kernel_rfl) ?_
  simp only [Act.put, List.setIfInBounds_toArray, List.set_cons_succ, List.set_cons_zero]
  refine wpFreeD_skip (by kernel_rfl) ?_
  simp only [Act.put, List.setIfInBounds_toArray, List.set_cons_succ, List.set_cons_zero]
  refine wpFreeD_skip (by kernel_rfl) ?_
  simp only [Act.put, List.setIfInBounds_toArray, List.set_cons_succ, List.set_cons_zero]
  refine wpFreeD_one rfl (.bool false) (fun w1 _ => by kernel_rfl) ?_
  simp only [Act.put, List.setIfInBounds_toArray, List.set_cons_succ, List.set_cons_zero]
  refine wpFreeD_one rfl (.bool false) (fun w1 _ => by kernel_rfl) ?_
  simp only [Act.put, List.setIfInBounds_toArray, List.set_cons_succ, List.set_cons_zero]
  refine wpFreeD_skip (by kernel_rfl) ?_
  simp only [Act.put, List.setIfInBounds_toArray, List.set_cons_succ, List.set_cons_zero]
  refine wpFreeD_skip (by kernel_rfl) ?_
  simp only [Act.put, List.setIfInBounds_toArray, List.set_cons_succ, List.set_cons_zero]
  refine wpFreeD_skip (by kernel_rfl) ?_
  simp only [Act.put, List.setIfInBounds_toArray, List.set_cons_succ, List.set_cons_zero]
  refine wpFreeD_skip (by kernel_rfl) ?_
  simp only [Act.put, List.setIfInBounds_toArray, List.set_cons_succ, List.set_cons_zero]
  refine wpFreeD_skip (by kernel_rfl) ?_
  simp only [Act.put, List.setIfInBounds_toArray, List.set_cons_succ, List.set_cons_zero]
  refine wpFreeD_skip (by kernel_rfl) ?_
  simp only [Act.put, List.setIfInBounds_toArray, List.set_cons_succ, List.set_cons_zero]
  refine wpFreeD_skip (by kernel_rfl) ?_
  simp only [Act.put, List.setIfInBounds_toArray, List.set_cons_succ, List.set_cons_zero]
  refine wpFreeD_skip (by kernel_rfl) ?_
  simp only [Act.put, List.setIfInBounds_toArray, List.set_cons_succ, List.set_cons_zero]
  refine wpFreeD_skip (by kernel_rfl) ?_
  simp only [Act.put, List.setIfInBounds_toArray, List.set_cons_succ, List.set_cons_zero]
  refine wpFreeD_one rfl (.bool false) (fun w1 _ => by kernel_rfl) ?_
  simp only [Act.put, List.setIfInBounds_toArray, List.set_cons_succ, List.set_cons_zero]
  refine wpFreeD_one rfl (.bool false) (fun w1 _ => by kernel_rfl) ?_
  simp only [Act.put, List.setIfInBounds_toArray, List.set_cons_succ, List.set_cons_zero]
  refine wpFreeD_skip (by kernel_rfl) ?_
  simp only [Act.put, List.setIfInBounds_toArray, List.set_cons_succ, List.set_cons_zero]
  refine wpFreeD_skip (by kernel_rfl) ?_
  simp only [Act.put, List.setIfInBounds_toArray, List.set_cons_succ, List.set_cons_zero]
  refine wpFreeD_skip (by kernel_rfl) ?_
  simp only [Act.put, List.setIfInBounds_toArray, List.set_cons_succ, List.set_cons_zero]
  refine wpFreeD_skip (by kernel_rfl) ?_
  simp only [Act.put, List.setIfInBounds_toArray, List.set_cons_succ, List.set_cons_zero]
  refine wpFreeD_skip (by kernel_rfl) ?_
  simp only [Act.put, List.setIfInBounds_toArray, List.set_cons_succ, List.set_cons_zero]
  refine wpFreeD_skip (by kernel_rfl) ?_
  simp only [Act.put, List.setIfInBounds_toArray, List.set_cons_succ, List.set_cons_zero]
  refine wpFreeD_skip (by kernel_rfl) ?_
  simp only [Act.put, List.setIfInBounds_toArray, List.set_cons_succ, List.set_cons_zero]
  refine wpFreeD_skip (by kernel_rfl) ?_
  simp only [Act.put, List.setIfInBounds_toArray, List.set_cons_succ, List.set_cons_zero]
  refine wpFreeD_skip (by kernel_rfl) ?_
  simp only [Act.put, List.setIfInBounds_toArray, List.set_cons_succ, List.set_cons_zero]
  refine wpFreeD_one rfl (.bool false) (fun w1 _ => by kernel_rfl) ?_
  simp only [Act.put, List.setIfInBounds_toArray, List.set_cons_succ, List.set_cons_zero]
  refine wpFreeD_one rfl (.bool false) (fun w1 _ => by kernel_rfl) ?_
  simp only [Act.put, List.setIfInBounds_toArray, List.set_cons_succ, List.set_cons_zero]
  refine wpFreeD_skip (by kernel_rfl) ?_
  simp only [Act.put, List.setIfInBounds_toArray, List.set_cons_succ, List.set_cons_zero]
  refine wpFreeD_skip (by kernel_rfl) ?_
  simp only [Act.put, List.setIfInBounds_toArray, List.set_cons_succ, List.set_cons_zero]
  refine wpFreeD_skip (by kernel_rfl) ?_
  simp only [Act.put, List.setIfInBounds_toArray, List.set_cons_succ, List.set_cons_zero]
  refine wpFreeD_skip (by kernel_rfl) ?_
  simp only [Act.put, List.setIfInBounds_toArray, List.set_cons_succ, List.set_cons_zero]
  refine wpFreeD_skip (by kernel_rfl) ?_
  simp only [Act.put, List.setIfInBounds_toArray, List.set_cons_succ, List.set_cons_zero]
  refine wpFreeD_skip (by kernel_rfl) ?_
  simp only [Act.put, List.setIfInBounds_toArray, List.set_cons_succ, List.set_cons_zero]
  refine wpFreeD_skip (by kernel_rfl) ?_
  simp only [Act.put, List.setIfInBounds_toArray, List.set_cons_succ, List.set_cons_zero]
  refine wpFreeD_skip (by kernel_rfl) ?_
  simp only [Act.put, List.setIfInBounds_toArray, List.set_cons_succ, List.set_cons_zero]
  refine wpFreeD_skip (by kernel_rfl) ?_
  simp only [Act.put, List.setIfInBounds_toArray, List.set_cons_succ, List.set_cons_zero]
  refine wpFreeD_one rfl (.bool false) (fun w1 _ => by kernel_rfl) ?_
  simp only [Act.put, List.setIfInBounds_toArray, List.set_cons_succ, List.set_cons_zero]
  refine wpFreeD_one rfl (.bool false) (fun w1 _ => by kernel_rfl) ?_
  simp only [Act.put, List.setIfInBounds_toArray, List.set_cons_succ, List.set_cons_zero]
  refine wpFreeD_skip (by kernel_rfl) ?_
  simp only [Act.put, List.setIfInBounds_toArray, List.set_cons_succ, List.set_cons_zero]
  refine wpFreeD_skip (by kernel_rfl) ?_
  simp only [Act.put, List.setIfInBounds_toArray, List.set_cons_succ, List.set_cons_zero]
  refine wpFreeD_skip (by kernel_rfl) ?_
  simp only [Act.put, List.setIfInBounds_toArray, List.set_cons_succ, List.set_cons_zero]
  refine wpFreeD_skip (by kernel_rfl) ?_
  simp only [Act.put, List.setIfInBounds_toArray, List.set_cons_succ, List.set_cons_zero]
  refine wpFreeD_skip (by kernel_rfl) ?_
  simp only [Act.put, List.setIfInBounds_toArray, List.set_cons_succ, List.set_cons_zero]
  refine wpFreeD_skip (by kernel_rfl) ?_
  simp only [Act.put, List.setIfInBounds_toArray, List.set_cons_succ, List.set_cons_zero]
  refine wpFreeD_skip (by kernel_rfl) ?_
  simp only [Act.put, List.setIfInBounds_toArray, List.set_cons_succ, List.set_cons_zero]
  refine wpFreeD_skip (by kernel_rfl) ?_
  simp only [Act.put, List.setIfInBounds_toArray, List.set_cons_succ, List.set_cons_zero]
  refine wpFreeD_skip (by kernel_rfl) ?_
  simp only [Act.put, List.setIfInBounds_toArray, List.set_cons_succ, List.set_cons_zero]
  refine wpFreeD_one rfl (.bool false) (fun w1 _ => by kernel_rfl) ?_
  simp only [Act.put, List.setIfInBounds_toArray, List.set_cons_succ, List.set_cons_zero]
  refine wpFreeD_one rfl (.bool false) (fun w1 _ => by kernel_rfl) ?_
  simp only [Act.put, List.setIfInBounds_toArray, List.set_cons_succ, List.set_cons_zero]
  refine wpFreeD_nil (fun wR hwR _ => ?_)
  have HLq := hid (le_trans (le_drewN _ _) hwR)
  clear hwR
  go_wp2
  go_ret
  exact ⟨rfl, HLq.out⟩
end Go.Proofs.Ytnkjmgadnejdlaa

/- A walk of 'l04Same'. -/
namespace Go.Proofs.Ytnkjmgadnejdlaa
open Go.RowKit Go.Fk
set_option maxRecDepth 100000 in
set_option maxHeartbeats 4000000 in
theorem l04SameW3 (g g' : Nat) (v0 v1 v2 v0Z v1Z v2Z : Value) (k : Int) (a b c x y : Nat) (op : Bool) (l r s : Nat) (kZ : Int) (aZ bZ cZ xZ yZ : Nat) (opZ : Bool) (lZ rZ sZ : Nat) (w : World) (hRw : Hid (∀ (w' : World), le w w' → Row w' g 36 #[v0, v1, v2, .int .i64 k, .float .f32 a, .float .f32 b, .float .f32 c, .float .f32 x, .float .f32 y, .bool op, .float .f32 l, .float .f32 r, .float .f32 s])) (hRz : Hid (∀ (w' : World), le w w' → Row w' g' 36 #[v0Z, v1Z, v2Z, .int .i64 kZ, .float .f32 aZ, .float .f32 bZ, .float .f32 cZ, .float .f32 xZ, .float .f32 yZ, .bool opZ, .float .f32 lZ, .float .f32 rZ, .float .f32 sZ]))
    (HR : Hid (∀ (w' : World), le w w' → Calls Try.prog 52 #[v0, v0Z] w' fun e w'' => e = .returned (.bool true) ∧ le w' w'')) (HL : Hid (∀ (w' : World), le w w' → Calls Try.prog 52 #[v1, v1Z] w' fun e w'' => e = .returned (.bool true) ∧ le w' w''))
    (HS : Hid (∀ (w' : World), le w w' → Calls Try.prog 53 #[v2, v2Z] w' fun e w'' => e = .returned (.bool true) ∧ ∃ n, w'' = w'.drewN n)) (HF : Hid (∀ (w' : World), le w w' → Calls Try.prog 54 #[.pointer (some ⟨g, 3, none⟩), .pointer (some ⟨g', 3, none⟩)] w' fun e w'' => e = .returned (.bool false) ∧ ∃ n, w'' = w'.drewN n)) (AG : v0 = v1 → v0Z = v1Z → true = true) : Calls Try.prog 22 #[.pointer (some ⟨g, 0, none⟩), .pointer (some ⟨g', 0, none⟩)] w (Out_b false w) := by
  go_enter Try.func22, Try.ntmps22
  go_wp2_with fail
  refine region_freeD (E := leX) (fun f args _ v => if f = 52 then (args = #[v0, v0Z] → v = .bool true) ∧ (args = #[v1, v1Z] → v = .bool true) else if f = 53 then v = .bool true else if f = 54 then v = .bool false else ∀ p q, args = #[.float .f32 p, .float .f32 q] → v = .bool (sameB p q)) (by kernel_rfl) (by kernel_rfl) ?_
  refine wpFreeD_one rfl (.pointer (some ⟨g, 0, none⟩)) (fun w1 _ => by kernel_rfl) ?_
  simp only [Act.put, List.setIfInBounds_toArray, List.set_cons_succ, List.set_cons_zero]
  refine wpFreeD_one rfl (.pointer (some ⟨g, 0, none⟩)) (fun w1 _ => by kernel_rfl) ?_
  simp only [Act.put, List.setIfInBounds_toArray, List.set_cons_succ, List.set_cons_zero]
  refine wpFreeD_one rfl (.pointer (some ⟨g, 0, none⟩)) (fun w1 _ => by kernel_rfl) ?_
  simp only [Act.put, List.setIfInBounds_toArray, List.set_cons_succ, List.set_cons_zero]
  refine wpFreeD_load1 rfl rfl rfl (p := ⟨g, 0, none⟩) (v := v0) (fun w1 h1 => (hRw.out w1 (le_trans (le_drewN _ _) h1)).cell? 0) ukindRingSI ?_
  simp only [Act.put, List.setIfInBounds_toArray, List.set_cons_succ, List.set_cons_zero]
  refine wpFreeD_one rfl (.pointer (some ⟨g', 0, none⟩)) (fun w1 _ => by kernel_rfl) ?_
  simp only [Act.put, List.setIfInBounds_toArray, List.set_cons_succ, List.set_cons_zero]
  refine wpFreeD_one rfl (.pointer (some ⟨g', 0, none⟩)) (fun w1 _ => by kernel_rfl) ?_
  simp only [Act.put, List.setIfInBounds_toArray, List.set_cons_succ, List.set_cons_zero]
  refine wpFreeD_one rfl (.pointer (some ⟨g', 0, none⟩)) (fun w1 _ => by kernel_rfl) ?_
  simp only [Act.put, List.setIfInBounds_toArray, List.set_cons_succ, List.set_cons_zero]
  refine wpFreeD_load1 rfl rfl rfl (p := ⟨g', 0, none⟩) (v := v0Z) (fun w1 h1 => (hRz.out w1 (le_trans (le_drewN _ _) h1)).cell? 0) ukindRingSI ?_
  simp only [Act.put, List.setIfInBounds_toArray, List.set_cons_succ, List.set_cons_zero]
  refine wpFreeD_callW (by kernel_rfl) rfl Try.func52 (by kernel_rfl) (by kernel_rfl) (args := #[v0, v0Z]) (by simp [Act.eval]) (fun v w1 w2 hw hv => hv) (fun w1 hw1 _ => (HR.out w1 (le_trans (le_drewN _ _) hw1)).mono ?_) ?_
  · rintro e w2 ⟨rfl, hl⟩
    exact ⟨_, rfl, hl, by simp only [if_true]; exact ⟨fun _ => by first | rfl | trivial, fun h => by first | rfl | trivial | (simp only [Array.mk.injEq, List.cons.injEq, and_true] at h; have h9 := AG h.1 h.2; rw [h9])⟩⟩
  rintro v ⟨_, _, _, hv⟩
  simp only [if_true] at hv
  obtain rfl := hv.1 (by first | rfl | trivial)
  simp only [Act.put, List.setIfInBounds_toArray, List.set_cons_succ, List.set_cons_zero]
  refine wpFreeD_one rfl (.bool true) (fun w1 _ => by kernel_rfl) ?_
  simp only [Act.put, List.setIfInBounds_toArray, List.set_cons_succ, List.set_cons_zero]
  refine wpFreeD_oneW (by kernel_rfl) (.pointer (some ⟨g, 0, none⟩)) (fun w1 _ => by kernel_rfl) ?_
  simp only [Act.put, List.setIfInBounds_toArray, List.set_cons_succ, List.set_cons_zero]
  refine wpFreeD_oneW (by kernel_rfl) (.pointer (some ⟨g, 0, none⟩)) (fun w1 _ => by kernel_rfl) ?_
  simp only [Act.put, List.setIfInBounds_toArray, List.set_cons_succ, List.set_cons_zero]
  refine wpFreeD_oneW (by kernel_rfl) (.pointer (some ⟨g, 1, none⟩)) (fun w1 _ => by kernel_rfl) ?_
  simp only [Act.put, List.setIfInBounds_toArray, List.set_cons_succ, List.set_cons_zero]
  refine wpFreeD_load1W (by kernel_rfl) rfl rfl (p := ⟨g, 1, none⟩) (v := v1) (fun w1 h1 => (hRw.out w1 (le_trans (le_drewN _ _) h1)).cell? 1) ukindRingSI ?_
  simp only [Act.put, List.setIfInBounds_toArray, List.set_cons_succ, List.set_cons_zero]
  refine wpFreeD_oneW (by kernel_rfl) (.pointer (some ⟨g', 0, none⟩)) (fun w1 _ => by kernel_rfl) ?_
  simp only [Act.put, List.setIfInBounds_toArray, List.set_cons_succ, List.set_cons_zero]
  refine wpFreeD_oneW (by kernel_rfl) (.pointer (some ⟨g', 0, none⟩)) (fun w1 _ => by kernel_rfl) ?_
  simp only [Act.put, List.setIfInBounds_toArray, List.set_cons_succ, List.set_cons_zero]
  refine wpFreeD_oneW (by kernel_rfl) (.pointer (some ⟨g', 1, none⟩)) (fun w1 _ => by kernel_rfl) ?_
  simp only [Act.put, List.setIfInBounds_toArray, List.set_cons_succ, List.set_cons_zero]
  refine wpFreeD_load1W (by kernel_rfl) rfl rfl (p := ⟨g', 1, none⟩) (v := v1Z) (fun w1 h1 => (hRz.out w1 (le_trans (le_drewN _ _) h1)).cell? 1) ukindRingSI ?_
  simp only [Act.put, List.setIfInBounds_toArray, List.set_cons_succ, List.set_cons_zero]
  refine wpFreeD_callW (by kernel_rfl) rfl Try.func52 (by kernel_rfl) (by kernel_rfl) (args := #[v1, v1Z]) (by simp [Act.eval]) (fun v w1 w2 hw hv => hv) (fun w1 hw1 _ => (HL.out w1 (le_trans (le_drewN _ _) hw1)).mono ?_) ?_
  · rintro e w2 ⟨rfl, hl⟩
    exact ⟨_, rfl, hl, by simp only [if_true]; exact ⟨fun h => by first | rfl | trivial | (simp only [Array.mk.injEq, List.cons.injEq, and_true] at h; have h9 := AG h.1.symm h.2.symm; rw [h9]), fun _ => by first | rfl | trivial⟩⟩
  rintro v ⟨_, _, _, hv⟩
  simp only [if_true] at hv
  obtain rfl := hv.2 (by first | rfl | trivial)
  simp only [Act.put, List.setIfInBounds_toArray, List.set_cons_succ, List.set_cons_zero]
  refine wpFreeD_one rfl (.bool true) (fun w1 _ => by kernel_rfl) ?_
  simp only [Act.put, List.setIfInBounds_toArray, List.set_cons_succ, List.set_cons_zero]
  refine wpFreeD_one rfl (.bool true) (fun w1 _ => by kernel_rfl) ?_
  simp only [Act.put, List.setIfInBounds_toArray, List.set_cons_succ, List.set_cons_zero]
  refine wpFreeD_oneW (by kernel_rfl) (.pointer (some ⟨g, 0, none⟩)) (fun w1 _ => by kernel_rfl) ?_
  simp only [Act.put, List.setIfInBounds_toArray, List.set_cons_succ, List.set_cons_zero]
  refine wpFreeD_oneW (by kernel_rfl) (.pointer (some ⟨g, 0, none⟩)) (fun w1 _ => by kernel_rfl) ?_
  simp only [Act.put, List.setIfInBounds_toArray, List.set_cons_succ, List.set_cons_zero]
  refine wpFreeD_oneW (by kernel_rfl) (.pointer (some ⟨g, 2, none⟩)) (fun w1 _ => by kernel_rfl) ?_
  simp only [Act.put, List.setIfInBounds_toArray, List.set_cons_succ, List.set_cons_zero]
  refine wpFreeD_load1W (by kernel_rfl) rfl rfl (p := ⟨g, 2, none⟩) (v := v2) (fun w1 h1 => (hRw.out w1 (le_trans (le_drewN _ _) h1)).cell? 2) ukindFloat32S ?_
  simp only [Act.put, List.setIfInBounds_toArray, List.set_cons_succ, List.set_cons_zero]
  refine wpFreeD_oneW (by kernel_rfl) (.pointer (some ⟨g', 0, none⟩)) (fun w1 _ => by kernel_rfl) ?_
  simp only [Act.put, List.setIfInBounds_toArray, List.set_cons_succ, List.set_cons_zero]
  refine wpFreeD_oneW (by kernel_rfl) (.pointer (some ⟨g', 0, none⟩)) (fun w1 _ => by kernel_rfl) ?_
  simp only [Act.put, List.setIfInBounds_toArray, List.set_cons_succ, List.set_cons_zero]
  refine wpFreeD_oneW (by kernel_rfl) (.pointer (some ⟨g', 2, none⟩)) (fun w1 _ => by kernel_rfl) ?_
  simp only [Act.put, List.setIfInBounds_toArray, List.set_cons_succ, List.set_cons_zero]
  refine wpFreeD_load1W (by kernel_rfl) rfl rfl (p := ⟨g', 2, none⟩) (v := v2Z) (fun w1 h1 => (hRz.out w1 (le_trans (le_drewN _ _) h1)).cell? 2) ukindFloat32S ?_
  simp only [Act.put, List.setIfInBounds_toArray, List.set_cons_succ, List.set_cons_zero]
  refine wpFreeD_callW (by kernel_rfl) rfl Try.func53 (by kernel_rfl) (by kernel_rfl) (args := #[v2, v2Z]) (by simp [Act.eval]) (fun v w1 w2 hw hv => hv) (fun w1 hw1 _ => (HS.out w1 (le_trans (le_drewN _ _) hw1)).mono ?_) ?_
  · rintro e w2 ⟨rfl, q9, rfl⟩
    exact ⟨_, rfl, le_drewN _ _, by simp only [show ¬ (53 = 52) by decide, if_false, if_true]⟩
  rintro v ⟨_, _, _, hv⟩
  simp only [show ¬ (53 = 52) by decide, if_false, if_true] at hv
  subst hv
  simp only [Act.put, List.setIfInBounds_toArray, List.set_cons_succ, List.set_cons_zero]
  refine wpFreeD_one rfl (.bool true) (fun w1 _ => by kernel_rfl) ?_
  simp only [Act.put, List.setIfInBounds_toArray, List.set_cons_succ, List.set_cons_zero]
  refine wpFreeD_one rfl (.bool true) (fun w1 _ => by kernel_rfl) ?_
  simp only [Act.put, List.setIfInBounds_toArray, List.set_cons_succ, List.set_cons_zero]
  refine wpFreeD_oneW (by kernel_rfl) (.pointer (some ⟨g, 0, none⟩)) (fun w1 _ => by kernel_rfl) ?_
  simp only [Act.put, List.setIfInBounds_toArray, List.set_cons_succ, List.set_cons_zero]
  refine wpFreeD_oneW (by kernel_rfl) (.pointer (some ⟨g, 0, none⟩)) (fun w1 _ => by kernel_rfl) ?_
  simp only [Act.put, List.setIfInBounds_toArray, List.set_cons_succ, List.set_cons_zero]
  refine wpFreeD_oneW (by kernel_rfl) (.pointer (some ⟨g, 3, none⟩)) (fun w1 _ => by kernel_rfl) ?_
  simp only [Act.put, List.setIfInBounds_toArray, List.set_cons_succ, List.set_cons_zero]
  refine wpFreeD_oneW (by kernel_rfl) (.pointer (some ⟨g', 0, none⟩)) (fun w1 _ => by kernel_rfl) ?_
  simp only [Act.put, List.setIfInBounds_toArray, List.set_cons_succ, List.set_cons_zero]
  refine wpFreeD_oneW (by kernel_rfl) (.pointer (some ⟨g', 0, none⟩)) (fun w1 _ => by kernel_rfl) ?_
  simp only [Act.put, List.setIfInBounds_toArray, List.set_cons_succ, List.set_cons_zero]
  refine wpFreeD_oneW (by kernel_rfl) (.pointer (some ⟨g', 3, none⟩)) (fun w1 _ => by kernel_rfl) ?_
  simp only [Act.put, List.setIfInBounds_toArray, List.set_cons_succ, List.set_cons_zero]
  refine wpFreeD_callW (by kernel_rfl) rfl Try.func54 (by kernel_rfl) (by kernel_rfl) (args := #[.pointer (some ⟨g, 3, none⟩), .pointer (some ⟨g', 3, none⟩)]) (by simp [Act.eval]) (fun v w1 w2 hw hv => hv) (fun w1 hw1 _ => (HF.out w1 (le_trans (le_drewN _ _) hw1)).mono ?_) ?_
  · rintro e w2 ⟨rfl, q9, rfl⟩
    exact ⟨_, rfl, le_drewN _ _, by simp only [show ¬ (54 = 52) by decide, show ¬ (54 = 53) by decide, if_false, if_true]⟩
  rintro v ⟨_, _, _, hv⟩
  simp only [show ¬ (54 = 52) by decide, show ¬ (54 = 53) by decide, if_false, if_true] at hv
  subst hv
  simp only [Act.put, List.setIfInBounds_toArray, List.set_cons_succ, List.set_cons_zero]
  refine wpFreeD_one rfl (.bool false) (fun w1 _ => by kernel_rfl) ?_
  simp only [Act.put, List.setIfInBounds_toArray, List.set_cons_succ, List.set_cons_zero]
  refine wpFreeD_one rfl (.bool false) (fun w1 _ => by kernel_rfl) ?_
  simp only [Act.put, List.setIfInBounds_toArray, List.set_cons_succ, List.set_cons_zero]
  refine wpFreeD_skip (by kernel_rfl) ?_
  simp only [Act.put, List.setIfInBounds_toArray, List.set_cons_succ, List.set_cons_zero]
  refine wpFreeD_skip (by kernel_rfl) ?_
  simp only [Act.put, List.setIfInBounds_toArray, List.set_cons_succ, List.set_cons_zero]
  refine wpFreeD_skip (by kernel_rfl) ?_
  simp only [Act.put, List.setIfInBounds_toArray, List.set_cons_succ, List.set_cons_zero]
  refine wpFreeD_skip (by kernel_rfl) ?_
  simp only [Act.put, List.setIfInBounds_toArray, List.set_cons_succ, List.set_cons_zero]
  refine wpFreeD_skip (by kernel_rfl) ?_
  simp only [Act.put, List.setIfInBounds_toArray, List.set_cons_succ, List.set_cons_zero]
  refine wpFreeD_skip (by kernel_rfl) ?_
  simp only [Act.put, List.setIfInBounds_toArray, List.set_cons_succ, List.set_cons_zero]
  refine wpFreeD_skip (by kernel_rfl) ?_
  simp only [Act.put, List.setIfInBounds_toArray, List.set_cons_succ, List.set_cons_zero]
  refine wpFreeD_skip (by kernel_rfl) ?_
  simp only [Act.put, List.setIfInBounds_toArray, List.set_cons_succ, List.set_cons_zero]
  refine wpFreeD_skip (by kernel_rfl) ?_
  simp only [Act.put, List.setIfInBounds_toArray, List.set_cons_succ, List.set_cons_zero]
  refine wpFreeD_one rfl (.bool false) (fun w1 _ => by kernel_rfl) ?_
  simp only [Act.put, List.setIfInBounds_toArray, List.set_cons_succ, List.set_cons_zero]
  refine wpFreeD_one rfl (.bool false) (fun w1 _ => by kernel_rfl) ?_
  simp only [Act.put, List.setIfInBounds_toArray, List.set_cons_succ, List.set_cons_zero]
  refine wpFreeD_skip (by kernel_rfl) ?_
  simp only [Act.put, List.setIfInBounds_toArray, List.set_cons_succ, List.set_cons_zero]
  refine wpFreeD_skip (by kernel_rfl) ?_
  simp only [Act.put, List.setIfInBounds_toArray, List.set_cons_succ, List.set_cons_zero]
  refine wpFreeD_skip (by kernel_rfl) ?_
  simp only [Act.put, List.setIfInBounds_toArray, List.set_cons_succ, List.set_cons_zero]
  refine wpFreeD_skip (by kernel_rfl) ?_
  simp only [Act.put, List.setIfInBounds_toArray, List.set_cons_succ, List.set_cons_zero]
  refine wpFreeD_skip (by kernel_rfl) ?_
  simp only [Act.put, List.setIfInBounds_toArray, List.set_cons_succ, List.set_cons_zero]
  refine wpFreeD_skip (by kernel_rfl) ?_
  simp only [Act.put, List.setIfInBounds_toArray, List.set_cons_succ, List.set_cons_zero]
  refine wpFreeD_skip (by kernel_rfl) ?_
  simp only [Act.put, List.setIfInBounds_toArray, List.set_cons_succ, List.set_cons_zero]
  refine wpFreeD_skip (by kernel_rfl) ?_
  simp only [Act.put, List.setIfInBounds_toArray, List.set_cons_succ, List.set_cons_zero]
  refine wpFreeD_skip (by kernel_rfl) ?_
  simp only [Act.put, List.setIfInBounds_toArray, List.set_cons_succ, List.set_cons_zero]
  refine wpFreeD_one rfl (.bool false) (fun w1 _ => by kernel_rfl) ?_
  simp only [Act.put, List.setIfInBounds_toArray, List.set_cons_succ, List.set_cons_zero]
  refine wpFreeD_one rfl (.bool false) (fun w1 _ => by kernel_rfl) ?_
  simp only [Act.put, List.setIfInBounds_toArray, List.set_cons_succ, List.set_cons_zero]
  refine wpFreeD_skip (by kernel_rfl) ?_
  simp only [Act.put, List.setIfInBounds_toArray, List.set_cons_succ, List.set_cons_zero]
  refine wpFreeD_skip (by kernel_rfl) ?_
  simp only [Act.put, List.setIfInBounds_toArray, List.set_cons_succ, List.set_cons_zero]
  refine wpFreeD_skip (by kernel_rfl) ?_
  simp only [Act.put, List.setIfInBounds_toArray, List.set_cons_succ, List.set_cons_zero]
  refine wpFreeD_skip (by kernel_rfl) ?_
  simp only [Act.put, List.setIfInBounds_toArray, List.set_cons_succ, List.set_cons_zero]
  refine wpFreeD_skip (by kernel_rfl) ?_
  simp only [Act.put, List.setIfInBounds_toArray, List.set_cons_succ, List.set_cons_zero]
  refine wpFreeD_skip (by kernel_rfl) ?_
  simp only [Act.put, List.setIfInBounds_toArray, List.set_cons_succ, List.set_cons_zero]
  refine wpFreeD_skip (by kernel_rfl) ?_
  simp only [Act.put, List.setIfInBounds_toArray, List.set_cons_succ, List.set_cons_zero]
  refine wpFreeD_skip (by kernel_rfl) ?_
  simp only [Act.put, List.setIfInBounds_toArray, List.set_cons_succ, List.set_cons_zero]
  refine wpFreeD_skip (by kernel_rfl) ?_
  simp only [Act.put, List.setIfInBounds_toArray, List.set_cons_succ, List.set_cons_zero]
  refine wpFreeD_one rfl (.bool false) (fun w1 _ => by kernel_rfl) ?_
  simp only [Act.put, List.setIfInBounds_toArray, List.set_cons_succ, List.set_cons_zero]
  refine wpFreeD_one rfl (.bool false) (fun w1 _ => by kernel_rfl) ?_
  simp only [Act.put, List.setIfInBounds_toArray, List.set_cons_succ, List.set_cons_zero]
  refine wpFreeD_skip (by kernel_rfl) ?_
  simp only [Act.put, List.setIfInBounds_toArray, List.set_cons_succ, List.set_cons_zero]
  refine wpFreeD_skip (by kernel_rfl) ?_
  simp only [Act.put, List.setIfInBounds_toArray, List.set_cons_succ, List.set_cons_zero]
  refine wpFreeD_skip (by kernel_rfl) ?_
  simp only [Act.put, List.setIfInBounds_toArray, List.set_cons_succ, List.set_cons_zero]
  refine wpFreeD_skip (by kernel_rfl) ?_
  simp only [Act.put, List.setIfInBounds_toArray, List.set_cons_succ, List.set_cons_zero]
  refine wpFreeD_skip (by kernel_rfl) ?_
  simp only [Act.put, List.setIfInBounds_toArray, List.set_cons_succ, List.set_cons_zero]
  refine wpFreeD_skip (by kernel_rfl) ?_
  simp only [Act.put, List.setIfInBounds_toArray, List.set_cons_succ, List.set_cons_zero]
  refine wpFreeD_skip (by kernel_rfl) ?_
  simp only [Act.put, List.setIfInBounds_toArray, List.set_cons_succ, List.set_cons_zero]
  refine wpFreeD_skip (by kernel_rfl) ?_
  simp only [Act.put, List.setIfInBounds_toArray, List.set_cons_succ, List.set_cons_zero]
  refine wpFreeD_skip (by kernel_rfl) ?_
  simp only [Act.put, List.setIfInBounds_toArray, List.set_cons_succ, List.set_cons_zero]
  refine wpFreeD_one rfl (.bool false) (fun w1 _ => by kernel_rfl) ?_
  simp only [Act.put, List.setIfInBounds_toArray, List.set_cons_succ, List.set_cons_zero]
  refine wpFreeD_one rfl (.bool false) (fun w1 _ => by kernel_rfl) ?_
  simp only [Act.put, List.setIfInBounds_toArray, List.set_cons_succ, List.set_cons_zero]
  refine wpFreeD_nil (fun wR hwR _ => ?_)
  have HLq := hid (le_trans (le_drewN _ _) hwR)
  clear hwR
  go_wp2
  go_ret
  exact ⟨rfl, HLq.out⟩
end Go.Proofs.Ytnkjmgadnejdlaa

/- 'SamePipe' of both. -/
namespace Go.Fk
open Go Go.RowKit
def sameFl (k : Int) (a b c x y : Nat) (k' : Int) (a' b' c' x' y' : Nat) : Bool := (k == k') && (eqRow (tri a b c) (tri a' b' c') 3 && eqRow (duo x y) (duo x' y') 2)
def sameP (nR nL nS : Nat) (xR xL : Nat → CD) (yS : Nat → Nat) (k : Int) (a b c x y : Nat) (op : Bool) (l r s : Nat) (nRZ nLZ nSZ : Nat) (xRZ xLZ : Nat → CD) (ySZ : Nat → Nat) (kZ : Int) (aZ bZ cZ xZ yZ : Nat) (opZ : Bool) (lZ rZ sZ : Nat) : Bool := sameRgs xR xRZ nR nRZ && sameRgs xL xLZ nL nLZ && sameS yS ySZ nS nSZ && sameFl k a b c x y kZ aZ bZ cZ xZ yZ && (op == opZ) && sameB l lZ && sameB r rZ && sameB s sZ
end Go.Fk
namespace Go.Proofs.Ytnkjmgadnejdlaa
open Go.RowKit Go.Fk
set_option maxRecDepth 100000 in
set_option maxHeartbeats 4000000 in
theorem i_SamePipe (B BZ : Nat) (v0 v1 v2 v0Z v1Z v2Z : Value) (nR nL nS : Nat) (xR xL : Nat → CD) (yS : Nat → Nat) (k : Int) (a b c x y : Nat) (op : Bool) (l r s : Nat) (nRZ nLZ nSZ : Nat) (xRZ xLZ : Nat → CD) (ySZ : Nat → Nat) (kZ : Int) (aZ bZ cZ xZ yZ : Nat) (opZ : Bool) (lZ rZ sZ : Nat) (w : World) (h0 : (CD.sl 2 nR xR).RdN w B v0) (h1 : (CD.sl 2 nL xL).RdN w B v1) (h2 : RdS w B v2 yS nS) (p0 : RgsOk xR nR) (p1 : RgsOk xL nL) (h0Z : (CD.sl 2 nRZ xRZ).RdN w BZ v0Z) (h1Z : (CD.sl 2 nLZ xLZ).RdN w BZ v1Z) (h2Z : RdS w BZ v2Z ySZ nSZ) (p0Z : RgsOk xRZ nRZ) (p1Z : RgsOk xLZ nLZ) :
    Calls Try.prog 10 #[.agg #[v0, v1, v2, .int .i64 k, .float .f32 a, .float .f32 b, .float .f32 c, .float .f32 x, .float .f32 y, .bool op, .float .f32 l, .float .f32 r, .float .f32 s], .agg #[v0Z, v1Z, v2Z, .int .i64 kZ, .float .f32 aZ, .float .f32 bZ, .float .f32 cZ, .float .f32 xZ, .float .f32 yZ, .bool opZ, .float .f32 lZ, .float .f32 rZ, .float .f32 sZ]] w (Out_b (sameP nR nL nS xR xL yS k a b c x y op l r s nRZ nLZ nSZ xRZ xLZ ySZ kZ aZ bZ cZ xZ yZ opZ lZ rZ sZ) w) := by
  have HR := hid (fun (w' : World) (hl : le w w') => i_EqualRings B BZ v0 v0Z xR xRZ nR nRZ w' (h0.le hl) (h0Z.le hl) p0 p0Z)
  have HL := hid (fun (w' : World) (hl : le w w') => i_EqualRings B BZ v1 v1Z xL xLZ nL nLZ w' (h1.le hl) (h1Z.le hl) p1 p1Z)
  have HS := hid (fun (w' : World) (hl : le w w') => i_EqualFuncR B BZ v2 v2Z yS ySZ nS nSZ w' (h2.le hl) (h2Z.le hl))
  have HF := hid (fun (w' : World) => i_SameFilter k a b c x y kZ aZ bZ cZ xZ yZ w')
  have F := ((Frg.nil w).box 36 #[v0, v1, v2, .int .i64 k, .float .f32 a, .float .f32 b, .float .f32 c, .float .f32 x, .float .f32 y, .bool op, .float .f32 l, .float .f32 r, .float .f32 s]).box 36 #[v0Z, v1Z, v2Z, .int .i64 kZ, .float .f32 aZ, .float .f32 bZ, .float .f32 cZ, .float .f32 xZ, .float .f32 yZ, .bool opZ, .float .f32 lZ, .float .f32 rZ, .float .f32 sZ]
  simp only [World.size_alloc] at F
  have HN0 := hid (fun (w' : World) => i_SameSample l lZ w')
  have HN1 := hid (fun (w' : World) => i_SameSample r rZ w')
  have HN2 := hid (fun (w' : World) => i_SameSample s sZ w')
  clear h0 h1 h2 p0 p1 h0Z h1Z h2Z p0Z p1Z
  change Calls _ _ _ _ (Out_b (sameRgs xR xRZ nR nRZ && sameRgs xL xLZ nL nLZ && sameS yS ySZ nS nSZ && sameFl k a b c x y kZ aZ bZ cZ xZ yZ && (op == opZ) && sameB l lZ && sameB r rZ && sameB s sZ) w)
  rcases bool_ft (sameRgs xR xRZ nR nRZ) with e0 | e0
  · have E := hid (show (sameRgs xR xRZ nR nRZ && sameRgs xL xLZ nL nLZ && sameS yS ySZ nS nSZ && sameFl k a b c x y kZ aZ bZ cZ xZ yZ && (op == opZ) && sameB l lZ && sameB r rZ && sameB s sZ) = false by simp [e0])
    rw [e0] at HR
    clear e0
    go_enter Try.func10, Try.ntmps10
    go_wp2_with (first | ((with_reducible refine listN F ?_); clear F; intro wN F) | ((with_reducible refine at_load rfl ?_); first | (with_reducible refine wpList_load1C rfl (g := w.heap.size) (f := 0) rfl (v := v0) (by kernel_rfl) (F.row m1) rfl ukindRingSI ?_) | (with_reducible refine wpList_load1C rfl (g := w.heap.size) (f := 1) rfl (v := v1) (by kernel_rfl) (F.row m1) rfl ukindRingSI ?_) | (with_reducible refine wpList_load1C rfl (g := w.heap.size) (f := 2) rfl (v := v2) (by kernel_rfl) (F.row m1) rfl ukindFloat32S ?_) | (with_reducible refine wpList_load1C rfl (g := w.heap.size) (f := 9) rfl (v := .bool _) (by kernel_rfl) (F.row m1) rfl ukindBool ?_) | (with_reducible refine wpList_load1C rfl (g := w.heap.size) (f := 10) rfl (v := .float .f32 l) (by kernel_rfl) (F.row m1) rfl ukindFloat32 ?_) | (with_reducible refine wpList_load1C rfl (g := w.heap.size) (f := 11) rfl (v := .float .f32 r) (by kernel_rfl) (F.row m1) rfl ukindFloat32 ?_) | (with_reducible refine wpList_load1C rfl (g := w.heap.size) (f := 12) rfl (v := .float .f32 s) (by kernel_rfl) (F.row m1) rfl ukindFloat32 ?_) | (with_reducible refine wpList_loadWC rfl (p := ⟨w.heap.size, 3, none⟩) rfl [.int .i64 k, .float .f32 a, .float .f32 b, .float .f32 c, .float .f32 x, .float .f32 y] (by kernel_rfl) (Row.at_part (F.row m1) (partPipe_End _ _ _ _ _ _ _ _ _ _ _ _ _)) Try.underlying34 rfl uinfoFilterI rfl ?_) | (with_reducible refine wpList_load1C rfl (g := w.heap.size + 1) (f := 0) rfl (v := v0Z) (by kernel_rfl) (F.row m0) rfl ukindRingSI ?_) | (with_reducible refine wpList_load1C rfl (g := w.heap.size + 1) (f := 1) rfl (v := v1Z) (by kernel_rfl) (F.row m0) rfl ukindRingSI ?_) | (with_reducible refine wpList_load1C rfl (g := w.heap.size + 1) (f := 2) rfl (v := v2Z) (by kernel_rfl) (F.row m0) rfl ukindFloat32S ?_) | (with_reducible refine wpList_load1C rfl (g := w.heap.size + 1) (f := 9) rfl (v := .bool _) (by kernel_rfl) (F.row m0) rfl ukindBool ?_) | (with_reducible refine wpList_load1C rfl (g := w.heap.size + 1) (f := 10) rfl (v := .float .f32 lZ) (by kernel_rfl) (F.row m0) rfl ukindFloat32 ?_) | (with_reducible refine wpList_load1C rfl (g := w.heap.size + 1) (f := 11) rfl (v := .float .f32 rZ) (by kernel_rfl) (F.row m0) rfl ukindFloat32 ?_) | (with_reducible refine wpList_load1C rfl (g := w.heap.size + 1) (f := 12) rfl (v := .float .f32 sZ) (by kernel_rfl) (F.row m0) rfl ukindFloat32 ?_) | (with_reducible refine wpList_loadWC rfl (p := ⟨w.heap.size + 1, 3, none⟩) rfl [.int .i64 kZ, .float .f32 aZ, .float .f32 bZ, .float .f32 cZ, .float .f32 xZ, .float .f32 yZ] (by kernel_rfl) (Row.at_part (F.row m0) (partPipe_End _ _ _ _ _ _ _ _ _ _ _ _ _)) Try.underlying34 rfl uinfoFilterI rfl ?_)) | (go_at_call 26; first | ((with_reducible refine (HR.out _ F.below).mono ?_); rintro e w1 ⟨rfl, hl⟩; replace F := F.le hl; clear hl) | ((with_reducible refine (HL.out _ F.below).mono ?_); rintro e w1 ⟨rfl, hl⟩; replace F := F.le hl; clear hl)) | (go_at_call 28; first | ((with_reducible refine (HS.out _ F.below).mono ?_); rintro e w1 ⟨rfl, rfl⟩; skip)) | (go_at_call 30; first | ((with_reducible refine (HF.out _).mono ?_); rintro e w1 ⟨rfl, hl⟩; replace F := F.le hl; clear hl)) | (go_at_call 29; first | ((with_reducible refine (HN0.out _).mono ?_); rintro e w1 ⟨rfl, rfl⟩; skip) | ((with_reducible refine (HN1.out _).mono ?_); rintro e w1 ⟨rfl, rfl⟩; skip) | ((with_reducible refine (HN2.out _).mono ?_); rintro e w1 ⟨rfl, rfl⟩; skip)))
    go_ret
    exact ⟨ret_b E.out.symm, F.below⟩
  have t0 := hid e0
  rw [e0] at HR
  clear e0
  rcases bool_ft (sameRgs xL xLZ nL nLZ) with e1 | e1
  · have E := hid (show (sameRgs xR xRZ nR nRZ && sameRgs xL xLZ nL nLZ && sameS yS ySZ nS nSZ && sameFl k a b c x y kZ aZ bZ cZ xZ yZ && (op == opZ) && sameB l lZ && sameB r rZ && sameB s sZ) = false by simp [e1])
    rw [e1] at HL
    clear e1
    go_enter Try.func10, Try.ntmps10
    go_wp2_with (first | ((with_reducible refine listN F ?_); clear F; intro wN F) | ((with_reducible refine at_load rfl ?_); first | (with_reducible refine wpList_load1C rfl (g := w.heap.size) (f := 0) rfl (v := v0) (by kernel_rfl) (F.row m1) rfl ukindRingSI ?_) | (with_reducible refine wpList_load1C rfl (g := w.heap.size) (f := 1) rfl (v := v1) (by kernel_rfl) (F.row m1) rfl ukindRingSI ?_) | (with_reducible refine wpList_load1C rfl (g := w.heap.size) (f := 2) rfl (v := v2) (by kernel_rfl) (F.row m1) rfl ukindFloat32S ?_) | (with_reducible refine wpList_load1C rfl (g := w.heap.size) (f := 9) rfl (v := .bool _) (by kernel_rfl) (F.row m1) rfl ukindBool ?_) | (with_reducible refine wpList_load1C rfl (g := w.heap.size) (f := 10) rfl (v := .float .f32 l) (by kernel_rfl) (F.row m1) rfl ukindFloat32 ?_) | (with_reducible refine wpList_load1C rfl (g := w.heap.size) (f := 11) rfl (v := .float .f32 r) (by kernel_rfl) (F.row m1) rfl ukindFloat32 ?_) | (with_reducible refine wpList_load1C rfl (g := w.heap.size) (f := 12) rfl (v := .float .f32 s) (by kernel_rfl) (F.row m1) rfl ukindFloat32 ?_) | (with_reducible refine wpList_loadWC rfl (p := ⟨w.heap.size, 3, none⟩) rfl [.int .i64 k, .float .f32 a, .float .f32 b, .float .f32 c, .float .f32 x, .float .f32 y] (by kernel_rfl) (Row.at_part (F.row m1) (partPipe_End _ _ _ _ _ _ _ _ _ _ _ _ _)) Try.underlying34 rfl uinfoFilterI rfl ?_) | (with_reducible refine wpList_load1C rfl (g := w.heap.size + 1) (f := 0) rfl (v := v0Z) (by kernel_rfl) (F.row m0) rfl ukindRingSI ?_) | (with_reducible refine wpList_load1C rfl (g := w.heap.size + 1) (f := 1) rfl (v := v1Z) (by kernel_rfl) (F.row m0) rfl ukindRingSI ?_) | (with_reducible refine wpList_load1C rfl (g := w.heap.size + 1) (f := 2) rfl (v := v2Z) (by kernel_rfl) (F.row m0) rfl ukindFloat32S ?_) | (with_reducible refine wpList_load1C rfl (g := w.heap.size + 1) (f := 9) rfl (v := .bool _) (by kernel_rfl) (F.row m0) rfl ukindBool ?_) | (with_reducible refine wpList_load1C rfl (g := w.heap.size + 1) (f := 10) rfl (v := .float .f32 lZ) (by kernel_rfl) (F.row m0) rfl ukindFloat32 ?_) | (with_reducible refine wpList_load1C rfl (g := w.heap.size + 1) (f := 11) rfl (v := .float .f32 rZ) (by kernel_rfl) (F.row m0) rfl ukindFloat32 ?_) | (with_reducible refine wpList_load1C rfl (g := w.heap.size + 1) (f := 12) rfl (v := .float .f32 sZ) (by kernel_rfl) (F.row m0) rfl ukindFloat32 ?_) | (with_reducible refine wpList_loadWC rfl (p := ⟨w.heap.size + 1, 3, none⟩) rfl [.int .i64 kZ, .float .f32 aZ, .float .f32 bZ, .float .f32 cZ, .float .f32 xZ, .float .f32 yZ] (by kernel_rfl) (Row.at_part (F.row m0) (partPipe_End _ _ _ _ _ _ _ _ _ _ _ _ _)) Try.underlying34 rfl uinfoFilterI rfl ?_)) | (go_at_call 26; first | ((with_reducible refine (HR.out _ F.below).mono ?_); rintro e w1 ⟨rfl, hl⟩; replace F := F.le hl; clear hl) | ((with_reducible refine (HL.out _ F.below).mono ?_); rintro e w1 ⟨rfl, hl⟩; replace F := F.le hl; clear hl)) | (go_at_call 28; first | ((with_reducible refine (HS.out _ F.below).mono ?_); rintro e w1 ⟨rfl, rfl⟩; skip)) | (go_at_call 30; first | ((with_reducible refine (HF.out _).mono ?_); rintro e w1 ⟨rfl, hl⟩; replace F := F.le hl; clear hl)) | (go_at_call 29; first | ((with_reducible refine (HN0.out _).mono ?_); rintro e w1 ⟨rfl, rfl⟩; skip) | ((with_reducible refine (HN1.out _).mono ?_); rintro e w1 ⟨rfl, rfl⟩; skip) | ((with_reducible refine (HN2.out _).mono ?_); rintro e w1 ⟨rfl, rfl⟩; skip)))
    go_ret
    exact ⟨ret_b E.out.symm, F.below⟩
  have t1 := hid e1
  rw [e1] at HL
  clear e1
  rcases bool_ft (sameS yS ySZ nS nSZ) with e2 | e2
  · have E := hid (show (sameRgs xR xRZ nR nRZ && sameRgs xL xLZ nL nLZ && sameS yS ySZ nS nSZ && sameFl k a b c x y kZ aZ bZ cZ xZ yZ && (op == opZ) && sameB l lZ && sameB r rZ && sameB s sZ) = false by simp [e2])
    rw [e2] at HS
    clear e2
    go_enter Try.func10, Try.ntmps10
    go_wp2_with (first | ((with_reducible refine listN F ?_); clear F; intro wN F) | ((with_reducible refine at_load rfl ?_); first | (with_reducible refine wpList_load1C rfl (g := w.heap.size) (f := 0) rfl (v := v0) (by kernel_rfl) (F.row m1) rfl ukindRingSI ?_) | (with_reducible refine wpList_load1C rfl (g := w.heap.size) (f := 1) rfl (v := v1) (by kernel_rfl) (F.row m1) rfl ukindRingSI ?_) | (with_reducible refine wpList_load1C rfl (g := w.heap.size) (f := 2) rfl (v := v2) (by kernel_rfl) (F.row m1) rfl ukindFloat32S ?_) | (with_reducible refine wpList_load1C rfl (g := w.heap.size) (f := 9) rfl (v := .bool _) (by kernel_rfl) (F.row m1) rfl ukindBool ?_) | (with_reducible refine wpList_load1C rfl (g := w.heap.size) (f := 10) rfl (v := .float .f32 l) (by kernel_rfl) (F.row m1) rfl ukindFloat32 ?_) | (with_reducible refine wpList_load1C rfl (g := w.heap.size) (f := 11) rfl (v := .float .f32 r) (by kernel_rfl) (F.row m1) rfl ukindFloat32 ?_) | (with_reducible refine wpList_load1C rfl (g := w.heap.size) (f := 12) rfl (v := .float .f32 s) (by kernel_rfl) (F.row m1) rfl ukindFloat32 ?_) | (with_reducible refine wpList_loadWC rfl (p := ⟨w.heap.size, 3, none⟩) rfl [.int .i64 k, .float .f32 a, .float .f32 b, .float .f32 c, .float .f32 x, .float .f32 y] (by kernel_rfl) (Row.at_part (F.row m1) (partPipe_End _ _ _ _ _ _ _ _ _ _ _ _ _)) Try.underlying34 rfl uinfoFilterI rfl ?_) | (with_reducible refine wpList_load1C rfl (g := w.heap.size + 1) (f := 0) rfl (v := v0Z) (by kernel_rfl) (F.row m0) rfl ukindRingSI ?_) | (with_reducible refine wpList_load1C rfl (g := w.heap.size + 1) (f := 1) rfl (v := v1Z) (by kernel_rfl) (F.row m0) rfl ukindRingSI ?_) | (with_reducible refine wpList_load1C rfl (g := w.heap.size + 1) (f := 2) rfl (v := v2Z) (by kernel_rfl) (F.row m0) rfl ukindFloat32S ?_) | (with_reducible refine wpList_load1C rfl (g := w.heap.size + 1) (f := 9) rfl (v := .bool _) (by kernel_rfl) (F.row m0) rfl ukindBool ?_) | (with_reducible refine wpList_load1C rfl (g := w.heap.size + 1) (f := 10) rfl (v := .float .f32 lZ) (by kernel_rfl) (F.row m0) rfl ukindFloat32 ?_) | (with_reducible refine wpList_load1C rfl (g := w.heap.size + 1) (f := 11) rfl (v := .float .f32 rZ) (by kernel_rfl) (F.row m0) rfl ukindFloat32 ?_) | (with_reducible refine wpList_load1C rfl (g := w.heap.size + 1) (f := 12) rfl (v := .float .f32 sZ) (by kernel_rfl) (F.row m0) rfl ukindFloat32 ?_) | (with_reducible refine wpList_loadWC rfl (p := ⟨w.heap.size + 1, 3, none⟩) rfl [.int .i64 kZ, .float .f32 aZ, .float .f32 bZ, .float .f32 cZ, .float .f32 xZ, .float .f32 yZ] (by kernel_rfl) (Row.at_part (F.row m0) (partPipe_End _ _ _ _ _ _ _ _ _ _ _ _ _)) Try.underlying34 rfl uinfoFilterI rfl ?_)) | (go_at_call 26; first | ((with_reducible refine (HR.out _ F.below).mono ?_); rintro e w1 ⟨rfl, hl⟩; replace F := F.le hl; clear hl) | ((with_reducible refine (HL.out _ F.below).mono ?_); rintro e w1 ⟨rfl, hl⟩; replace F := F.le hl; clear hl)) | (go_at_call 28; first | ((with_reducible refine (HS.out _ F.below).mono ?_); rintro e w1 ⟨rfl, rfl⟩; skip)) | (go_at_call 30; first | ((with_reducible refine (HF.out _).mono ?_); rintro e w1 ⟨rfl, hl⟩; replace F := F.le hl; clear hl)) | (go_at_call 29; first | ((with_reducible refine (HN0.out _).mono ?_); rintro e w1 ⟨rfl, rfl⟩; skip) | ((with_reducible refine (HN1.out _).mono ?_); rintro e w1 ⟨rfl, rfl⟩; skip) | ((with_reducible refine (HN2.out _).mono ?_); rintro e w1 ⟨rfl, rfl⟩; skip)))
    go_ret
    exact ⟨ret_b E.out.symm, F.below⟩
  have t2 := hid e2
  rw [e2] at HS
  clear e2
  rcases bool_ft (sameFl k a b c x y kZ aZ bZ cZ xZ yZ) with e3 | e3
  · have E := hid (show (sameRgs xR xRZ nR nRZ && sameRgs xL xLZ nL nLZ && sameS yS ySZ nS nSZ && sameFl k a b c x y kZ aZ bZ cZ xZ yZ && (op == opZ) && sameB l lZ && sameB r rZ && sameB s sZ) = false by simp [e3])
    unfold sameFl at e3
    rw [e3] at HF
    clear e3
    go_enter Try.func10, Try.ntmps10
    go_wp2_with (first | ((with_reducible refine listN F ?_); clear F; intro wN F) | ((with_reducible refine at_load rfl ?_); first | (with_reducible refine wpList_load1C rfl (g := w.heap.size) (f := 0) rfl (v := v0) (by kernel_rfl) (F.row m1) rfl ukindRingSI ?_) | (with_reducible refine wpList_load1C rfl (g := w.heap.size) (f := 1) rfl (v := v1) (by kernel_rfl) (F.row m1) rfl ukindRingSI ?_) | (with_reducible refine wpList_load1C rfl (g := w.heap.size) (f := 2) rfl (v := v2) (by kernel_rfl) (F.row m1) rfl ukindFloat32S ?_) | (with_reducible refine wpList_load1C rfl (g := w.heap.size) (f := 9) rfl (v := .bool _) (by kernel_rfl) (F.row m1) rfl ukindBool ?_) | (with_reducible refine wpList_load1C rfl (g := w.heap.size) (f := 10) rfl (v := .float .f32 l) (by kernel_rfl) (F.row m1) rfl ukindFloat32 ?_) | (with_reducible refine wpList_load1C rfl (g := w.heap.size) (f := 11) rfl (v := .float .f32 r) (by kernel_rfl) (F.row m1) rfl ukindFloat32 ?_) | (with_reducible refine wpList_load1C rfl (g := w.heap.size) (f := 12) rfl (v := .float .f32 s) (by kernel_rfl) (F.row m1) rfl ukindFloat32 ?_) | (with_reducible refine wpList_loadWC rfl (p := ⟨w.heap.size, 3, none⟩) rfl [.int .i64 k, .float .f32 a, .float .f32 b, .float .f32 c, .float .f32 x, .float .f32 y] (by kernel_rfl) (Row.at_part (F.row m1) (partPipe_End _ _ _ _ _ _ _ _ _ _ _ _ _)) Try.underlying34 rfl uinfoFilterI rfl ?_) | (with_reducible refine wpList_load1C rfl (g := w.heap.size + 1) (f := 0) rfl (v := v0Z) (by kernel_rfl) (F.row m0) rfl ukindRingSI ?_) | (with_reducible refine wpList_load1C rfl (g := w.heap.size + 1) (f := 1) rfl (v := v1Z) (by kernel_rfl) (F.row m0) rfl ukindRingSI ?_) | (with_reducible refine wpList_load1C rfl (g := w.heap.size + 1) (f := 2) rfl (v := v2Z) (by kernel_rfl) (F.row m0) rfl ukindFloat32S ?_) | (with_reducible refine wpList_load1C rfl (g := w.heap.size + 1) (f := 9) rfl (v := .bool _) (by kernel_rfl) (F.row m0) rfl ukindBool ?_) | (with_reducible refine wpList_load1C rfl (g := w.heap.size + 1) (f := 10) rfl (v := .float .f32 lZ) (by kernel_rfl) (F.row m0) rfl ukindFloat32 ?_) | (with_reducible refine wpList_load1C rfl (g := w.heap.size + 1) (f := 11) rfl (v := .float .f32 rZ) (by kernel_rfl) (F.row m0) rfl ukindFloat32 ?_) | (with_reducible refine wpList_load1C rfl (g := w.heap.size + 1) (f := 12) rfl (v := .float .f32 sZ) (by kernel_rfl) (F.row m0) rfl ukindFloat32 ?_) | (with_reducible refine wpList_loadWC rfl (p := ⟨w.heap.size + 1, 3, none⟩) rfl [.int .i64 kZ, .float .f32 aZ, .float .f32 bZ, .float .f32 cZ, .float .f32 xZ, .float .f32 yZ] (by kernel_rfl) (Row.at_part (F.row m0) (partPipe_End _ _ _ _ _ _ _ _ _ _ _ _ _)) Try.underlying34 rfl uinfoFilterI rfl ?_)) | (go_at_call 26; first | ((with_reducible refine (HR.out _ F.below).mono ?_); rintro e w1 ⟨rfl, hl⟩; replace F := F.le hl; clear hl) | ((with_reducible refine (HL.out _ F.below).mono ?_); rintro e w1 ⟨rfl, hl⟩; replace F := F.le hl; clear hl)) | (go_at_call 28; first | ((with_reducible refine (HS.out _ F.below).mono ?_); rintro e w1 ⟨rfl, rfl⟩; skip)) | (go_at_call 30; first | ((with_reducible refine (HF.out _).mono ?_); rintro e w1 ⟨rfl, hl⟩; replace F := F.le hl; clear hl)) | (go_at_call 29; first | ((with_reducible refine (HN0.out _).mono ?_); rintro e w1 ⟨rfl, rfl⟩; skip) | ((with_reducible refine (HN1.out _).mono ?_); rintro e w1 ⟨rfl, rfl⟩; skip) | ((with_reducible refine (HN2.out _).mono ?_); rintro e w1 ⟨rfl, rfl⟩; skip)))
    go_ret
    exact ⟨ret_b E.out.symm, F.below⟩
  have t3 := hid e3
  unfold sameFl at e3
  rw [e3] at HF
  clear e3
  rcases bool_ft ((op == opZ)) with e4 | e4
  · have E := hid (show (sameRgs xR xRZ nR nRZ && sameRgs xL xLZ nL nLZ && sameS yS ySZ nS nSZ && sameFl k a b c x y kZ aZ bZ cZ xZ yZ && (op == opZ) && sameB l lZ && sameB r rZ && sameB s sZ) = false by simp [e4])
    have hop : op = !opZ := by cases op <;> cases opZ <;> simp at e4 ⊢
    clear e4
    subst hop
    cases opZ
    all_goals
      simp only [Bool.not_true, Bool.not_false] at *
      go_enter Try.func10, Try.ntmps10
      go_wp2_with (first | ((with_reducible refine listN F ?_); clear F; intro wN F) | ((with_reducible refine at_load rfl ?_); first | (with_reducible refine wpList_load1C rfl (g := w.heap.size) (f := 0) rfl (v := v0) (by kernel_rfl) (F.row m1) rfl ukindRingSI ?_) | (with_reducible refine wpList_load1C rfl (g := w.heap.size) (f := 1) rfl (v := v1) (by kernel_rfl) (F.row m1) rfl ukindRingSI ?_) | (with_reducible refine wpList_load1C rfl (g := w.heap.size) (f := 2) rfl (v := v2) (by kernel_rfl) (F.row m1) rfl ukindFloat32S ?_) | (with_reducible refine wpList_load1C rfl (g := w.heap.size) (f := 9) rfl (v := .bool _) (by kernel_rfl) (F.row m1) rfl ukindBool ?_) | (with_reducible refine wpList_load1C rfl (g := w.heap.size) (f := 10) rfl (v := .float .f32 l) (by kernel_rfl) (F.row m1) rfl ukindFloat32 ?_) | (with_reducible refine wpList_load1C rfl (g := w.heap.size) (f := 11) rfl (v := .float .f32 r) (by kernel_rfl) (F.row m1) rfl ukindFloat32 ?_) | (with_reducible refine wpList_load1C rfl (g := w.heap.size) (f := 12) rfl (v := .float .f32 s) (by kernel_rfl) (F.row m1) rfl ukindFloat32 ?_) | (with_reducible refine wpList_loadWC rfl (p := ⟨w.heap.size, 3, none⟩) rfl [.int .i64 k, .float .f32 a, .float .f32 b, .float .f32 c, .float .f32 x, .float .f32 y] (by kernel_rfl) (Row.at_part (F.row m1) (partPipe_End _ _ _ _ _ _ _ _ _ _ _ _ _)) Try.underlying34 rfl uinfoFilterI rfl ?_) | (with_reducible refine wpList_load1C rfl (g := w.heap.size + 1) (f := 0) rfl (v := v0Z) (by kernel_rfl) (F.row m0) rfl ukindRingSI ?_) | (with_reducible refine wpList_load1C rfl (g := w.heap.size + 1) (f := 1) rfl (v := v1Z) (by kernel_rfl) (F.row m0) rfl ukindRingSI ?_) | (with_reducible refine wpList_load1C rfl (g := w.heap.size + 1) (f := 2) rfl (v := v2Z) (by kernel_rfl) (F.row m0) rfl ukindFloat32S ?_) | (with_reducible refine wpList_load1C rfl (g := w.heap.size + 1) (f := 9) rfl (v := .bool _) (by kernel_rfl) (F.row m0) rfl ukindBool ?_) | (with_reducible refine wpList_load1C rfl (g := w.heap.size + 1) (f := 10) rfl (v := .float .f32 lZ) (by kernel_rfl) (F.row m0) rfl ukindFloat32 ?_) | (with_reducible refine wpList_load1C rfl (g := w.heap.size + 1) (f := 11) rfl (v := .float .f32 rZ) (by kernel_rfl) (F.row m0) rfl ukindFloat32 ?_) | (with_reducible refine wpList_load1C rfl (g := w.heap.size + 1) (f := 12) rfl (v := .float .f32 sZ) (by kernel_rfl) (F.row m0) rfl ukindFloat32 ?_) | (with_reducible refine wpList_loadWC rfl (p := ⟨w.heap.size + 1, 3, none⟩) rfl [.int .i64 kZ, .float .f32 aZ, .float .f32 bZ, .float .f32 cZ, .float .f32 xZ, .float .f32 yZ] (by kernel_rfl) (Row.at_part (F.row m0) (partPipe_End _ _ _ _ _ _ _ _ _ _ _ _ _)) Try.underlying34 rfl uinfoFilterI rfl ?_)) | (go_at_call 26; first | ((with_reducible refine (HR.out _ F.below).mono ?_); rintro e w1 ⟨rfl, hl⟩; replace F := F.le hl; clear hl) | ((with_reducible refine (HL.out _ F.below).mono ?_); rintro e w1 ⟨rfl, hl⟩; replace F := F.le hl; clear hl)) | (go_at_call 28; first | ((with_reducible refine (HS.out _ F.below).mono ?_); rintro e w1 ⟨rfl, rfl⟩; skip)) | (go_at_call 30; first | ((with_reducible refine (HF.out _).mono ?_); rintro e w1 ⟨rfl, hl⟩; replace F := F.le hl; clear hl)) | (go_at_call 29; first | ((with_reducible refine (HN0.out _).mono ?_); rintro e w1 ⟨rfl, rfl⟩; skip) | ((with_reducible refine (HN1.out _).mono ?_); rintro e w1 ⟨rfl, rfl⟩; skip) | ((with_reducible refine (HN2.out _).mono ?_); rintro e w1 ⟨rfl, rfl⟩; skip)))
      go_ret
      exact ⟨ret_b E.out.symm, F.below⟩
  obtain rfl : op = opZ := by simpa using e4
  clear e4
  rcases bool_ft (sameB l lZ) with e5 | e5
  · have E := hid (show (sameRgs xR xRZ nR nRZ && sameRgs xL xLZ nL nLZ && sameS yS ySZ nS nSZ && sameFl k a b c x y kZ aZ bZ cZ xZ yZ && (op == op) && sameB l lZ && sameB r rZ && sameB s sZ) = false by simp [e5])
    rw [e5] at HN0
    clear e5
    go_enter Try.func10, Try.ntmps10
    go_wp2_with (first | ((with_reducible refine listN F ?_); clear F; intro wN F) | ((with_reducible refine at_load rfl ?_); first | (with_reducible refine wpList_load1C rfl (g := w.heap.size) (f := 0) rfl (v := v0) (by kernel_rfl) (F.row m1) rfl ukindRingSI ?_) | (with_reducible refine wpList_load1C rfl (g := w.heap.size) (f := 1) rfl (v := v1) (by kernel_rfl) (F.row m1) rfl ukindRingSI ?_) | (with_reducible refine wpList_load1C rfl (g := w.heap.size) (f := 2) rfl (v := v2) (by kernel_rfl) (F.row m1) rfl ukindFloat32S ?_) | (with_reducible refine wpList_load1C rfl (g := w.heap.size) (f := 9) rfl (v := .bool _) (by kernel_rfl) (F.row m1) rfl ukindBool ?_) | (with_reducible refine wpList_load1C rfl (g := w.heap.size) (f := 10) rfl (v := .float .f32 l) (by kernel_rfl) (F.row m1) rfl ukindFloat32 ?_) | (with_reducible refine wpList_load1C rfl (g := w.heap.size) (f := 11) rfl (v := .float .f32 r) (by kernel_rfl) (F.row m1) rfl ukindFloat32 ?_) | (with_reducible refine wpList_load1C rfl (g := w.heap.size) (f := 12) rfl (v := .float .f32 s) (by kernel_rfl) (F.row m1) rfl ukindFloat32 ?_) | (with_reducible refine wpList_loadWC rfl (p := ⟨w.heap.size, 3, none⟩) rfl [.int .i64 k, .float .f32 a, .float .f32 b, .float .f32 c, .float .f32 x, .float .f32 y] (by kernel_rfl) (Row.at_part (F.row m1) (partPipe_End _ _ _ _ _ _ _ _ _ _ _ _ _)) Try.underlying34 rfl uinfoFilterI rfl ?_) | (with_reducible refine wpList_load1C rfl (g := w.heap.size + 1) (f := 0) rfl (v := v0Z) (by kernel_rfl) (F.row m0) rfl ukindRingSI ?_) | (with_reducible refine wpList_load1C rfl (g := w.heap.size + 1) (f := 1) rfl (v := v1Z) (by kernel_rfl) (F.row m0) rfl ukindRingSI ?_) | (with_reducible refine wpList_load1C rfl (g := w.heap.size + 1) (f := 2) rfl (v := v2Z) (by kernel_rfl) (F.row m0) rfl ukindFloat32S ?_) | (with_reducible refine wpList_load1C rfl (g := w.heap.size + 1) (f := 9) rfl (v := .bool _) (by kernel_rfl) (F.row m0) rfl ukindBool ?_) | (with_reducible refine wpList_load1C rfl (g := w.heap.size + 1) (f := 10) rfl (v := .float .f32 lZ) (by kernel_rfl) (F.row m0) rfl ukindFloat32 ?_) | (with_reducible refine wpList_load1C rfl (g := w.heap.size + 1) (f := 11) rfl (v := .float .f32 rZ) (by kernel_rfl) (F.row m0) rfl ukindFloat32 ?_) | (with_reducible refine wpList_load1C rfl (g := w.heap.size + 1) (f := 12) rfl (v := .float .f32 sZ) (by kernel_rfl) (F.row m0) rfl ukindFloat32 ?_) | (with_reducible refine wpList_loadWC rfl (p := ⟨w.heap.size + 1, 3, none⟩) rfl [.int .i64 kZ, .float .f32 aZ, .float .f32 bZ, .float .f32 cZ, .float .f32 xZ, .float .f32 yZ] (by kernel_rfl) (Row.at_part (F.row m0) (partPipe_End _ _ _ _ _ _ _ _ _ _ _ _ _)) Try.underlying34 rfl uinfoFilterI rfl ?_)) | (go_at_call 26; first | ((with_reducible refine (HR.out _ F.below).mono ?_); rintro e w1 ⟨rfl, hl⟩; replace F := F.le hl; clear hl) | ((with_reducible refine (HL.out _ F.below).mono ?_); rintro e w1 ⟨rfl, hl⟩; replace F := F.le hl; clear hl)) | (go_at_call 28; first | ((with_reducible refine (HS.out _ F.below).mono ?_); rintro e w1 ⟨rfl, rfl⟩; skip)) | (go_at_call 30; first | ((with_reducible refine (HF.out _).mono ?_); rintro e w1 ⟨rfl, hl⟩; replace F := F.le hl; clear hl)) | (go_at_call 29; first | ((with_reducible refine (HN0.out _).mono ?_); rintro e w1 ⟨rfl, rfl⟩; skip) | ((with_reducible refine (HN1.out _).mono ?_); rintro e w1 ⟨rfl, rfl⟩; skip) | ((with_reducible refine (HN2.out _).mono ?_); rintro e w1 ⟨rfl, rfl⟩; skip)))
    go_ret
    exact ⟨ret_b E.out.symm, F.below⟩
  have t5 := hid e5
  rw [e5] at HN0
  clear e5
  rcases bool_ft (sameB r rZ) with e6 | e6
  · have E := hid (show (sameRgs xR xRZ nR nRZ && sameRgs xL xLZ nL nLZ && sameS yS ySZ nS nSZ && sameFl k a b c x y kZ aZ bZ cZ xZ yZ && (op == op) && sameB l lZ && sameB r rZ && sameB s sZ) = false by simp [e6])
    rw [e6] at HN1
    clear e6
    go_enter Try.func10, Try.ntmps10
    go_wp2_with (first | ((with_reducible refine listN F ?_); clear F; intro wN F) | ((with_reducible refine at_load rfl ?_); first | (with_reducible refine wpList_load1C rfl (g := w.heap.size) (f := 0) rfl (v := v0) (by kernel_rfl) (F.row m1) rfl ukindRingSI ?_) | (with_reducible refine wpList_load1C rfl (g := w.heap.size) (f := 1) rfl (v := v1) (by kernel_rfl) (F.row m1) rfl ukindRingSI ?_) | (with_reducible refine wpList_load1C rfl (g := w.heap.size) (f := 2) rfl (v := v2) (by kernel_rfl) (F.row m1) rfl ukindFloat32S ?_) | (with_reducible refine wpList_load1C rfl (g := w.heap.size) (f := 9) rfl (v := .bool _) (by kernel_rfl) (F.row m1) rfl ukindBool ?_) | (with_reducible refine wpList_load1C rfl (g := w.heap.size) (f := 10) rfl (v := .float .f32 l) (by kernel_rfl) (F.row m1) rfl ukindFloat32 ?_) | (with_reducible refine wpList_load1C rfl (g := w.heap.size) (f := 11) rfl (v := .float .f32 r) (by kernel_rfl) (F.row m1) rfl ukindFloat32 ?_) | (with_reducible refine wpList_load1C rfl (g := w.heap.size) (f := 12) rfl (v := .float .f32 s) (by kernel_rfl) (F.row m1) rfl ukindFloat32 ?_) | (with_reducible refine wpList_loadWC rfl (p := ⟨w.heap.size, 3, none⟩) rfl [.int .i64 k, .float .f32 a, .float .f32 b, .float .f32 c, .float .f32 x, .float .f32 y] (by kernel_rfl) (Row.at_part (F.row m1) (partPipe_End _ _ _ _ _ _ _ _ _ _ _ _ _)) Try.underlying34 rfl uinfoFilterI rfl ?_) | (with_reducible refine wpList_load1C rfl (g := w.heap.size + 1) (f := 0) rfl (v := v0Z) (by kernel_rfl) (F.row m0) rfl ukindRingSI ?_) | (with_reducible refine wpList_load1C rfl (g := w.heap.size + 1) (f := 1) rfl (v := v1Z) (by kernel_rfl) (F.row m0) rfl ukindRingSI ?_) | (with_reducible refine wpList_load1C rfl (g := w.heap.size + 1) (f := 2) rfl (v := v2Z) (by kernel_rfl) (F.row m0) rfl ukindFloat32S ?_) | (with_reducible refine wpList_load1C rfl (g := w.heap.size + 1) (f := 9) rfl (v := .bool _) (by kernel_rfl) (F.row m0) rfl ukindBool ?_) | (with_reducible refine wpList_load1C rfl (g := w.heap.size + 1) (f := 10) rfl (v := .float .f32 lZ) (by kernel_rfl) (F.row m0) rfl ukindFloat32 ?_) | (with_reducible refine wpList_load1C rfl (g := w.heap.size + 1) (f := 11) rfl (v := .float .f32 rZ) (by kernel_rfl) (F.row m0) rfl ukindFloat32 ?_) | (with_reducible refine wpList_load1C rfl (g := w.heap.size + 1) (f := 12) rfl (v := .float .f32 sZ) (by kernel_rfl) (F.row m0) rfl ukindFloat32 ?_) | (with_reducible refine wpList_loadWC rfl (p := ⟨w.heap.size + 1, 3, none⟩) rfl [.int .i64 kZ, .float .f32 aZ, .float .f32 bZ, .float .f32 cZ, .float .f32 xZ, .float .f32 yZ] (by kernel_rfl) (Row.at_part (F.row m0) (partPipe_End _ _ _ _ _ _ _ _ _ _ _ _ _)) Try.underlying34 rfl uinfoFilterI rfl ?_)) | (go_at_call 26; first | ((with_reducible refine (HR.out _ F.below).mono ?_); rintro e w1 ⟨rfl, hl⟩; replace F := F.le hl; clear hl) | ((with_reducible refine (HL.out _ F.below).mono ?_); rintro e w1 ⟨rfl, hl⟩; replace F := F.le hl; clear hl)) | (go_at_call 28; first | ((with_reducible refine (HS.out _ F.below).mono ?_); rintro e w1 ⟨rfl, rfl⟩; skip)) | (go_at_call 30; first | ((with_reducible refine (HF.out _).mono ?_); rintro e w1 ⟨rfl, hl⟩; replace F := F.le hl; clear hl)) | (go_at_call 29; first | ((with_reducible refine (HN0.out _).mono ?_); rintro e w1 ⟨rfl, rfl⟩; skip) | ((with_reducible refine (HN1.out _).mono ?_); rintro e w1 ⟨rfl, rfl⟩; skip) | ((with_reducible refine (HN2.out _).mono ?_); rintro e w1 ⟨rfl, rfl⟩; skip)))
    go_ret
    exact ⟨ret_b E.out.symm, F.below⟩
  have t6 := hid e6
  rw [e6] at HN1
  clear e6
  have E := hid (show (sameRgs xR xRZ nR nRZ && sameRgs xL xLZ nL nLZ && sameS yS ySZ nS nSZ && sameFl k a b c x y kZ aZ bZ cZ xZ yZ && (op == op) && sameB l lZ && sameB r rZ && sameB s sZ) = sameB s sZ by simp [t0.out, t1.out, t2.out, t3.out, t5.out, t6.out])
  cases op
  all_goals
    go_enter Try.func10, Try.ntmps10
    go_wp2_with (first | ((with_reducible refine listN F ?_); clear F; intro wN F) | ((with_reducible refine at_load rfl ?_); first | (with_reducible refine wpList_load1C rfl (g := w.heap.size) (f := 0) rfl (v := v0) (by kernel_rfl) (F.row m1) rfl ukindRingSI ?_) | (with_reducible refine wpList_load1C rfl (g := w.heap.size) (f := 1) rfl (v := v1) (by kernel_rfl) (F.row m1) rfl ukindRingSI ?_) | (with_reducible refine wpList_load1C rfl (g := w.heap.size) (f := 2) rfl (v := v2) (by kernel_rfl) (F.row m1) rfl ukindFloat32S ?_) | (with_reducible refine wpList_load1C rfl (g := w.heap.size) (f := 9) rfl (v := .bool _) (by kernel_rfl) (F.row m1) rfl ukindBool ?_) | (with_reducible refine wpList_load1C rfl (g := w.heap.size) (f := 10) rfl (v := .float .f32 l) (by kernel_rfl) (F.row m1) rfl ukindFloat32 ?_) | (with_reducible refine wpList_load1C rfl (g := w.heap.size) (f := 11) rfl (v := .float .f32 r) (by kernel_rfl) (F.row m1) rfl ukindFloat32 ?_) | (with_reducible refine wpList_load1C rfl (g := w.heap.size) (f := 12) rfl (v := .float .f32 s) (by kernel_rfl) (F.row m1) rfl ukindFloat32 ?_) | (with_reducible refine wpList_loadWC rfl (p := ⟨w.heap.size, 3, none⟩) rfl [.int .i64 k, .float .f32 a, .float .f32 b, .float .f32 c, .float .f32 x, .float .f32 y] (by kernel_rfl) (Row.at_part (F.row m1) (partPipe_End _ _ _ _ _ _ _ _ _ _ _ _ _)) Try.underlying34 rfl uinfoFilterI rfl ?_) | (with_reducible refine wpList_load1C rfl (g := w.heap.size + 1) (f := 0) rfl (v := v0Z) (by kernel_rfl) (F.row m0) rfl ukindRingSI ?_) | (with_reducible refine wpList_load1C rfl (g := w.heap.size + 1) (f := 1) rfl (v := v1Z) (by kernel_rfl) (F.row m0) rfl ukindRingSI ?_) | (with_reducible refine wpList_load1C rfl (g := w.heap.size + 1) (f := 2) rfl (v := v2Z) (by kernel_rfl) (F.row m0) rfl ukindFloat32S ?_) | (with_reducible refine wpList_load1C rfl (g := w.heap.size + 1) (f := 9) rfl (v := .bool _) (by kernel_rfl) (F.row m0) rfl ukindBool ?_) | (with_reducible refine wpList_load1C rfl (g := w.heap.size + 1) (f := 10) rfl (v := .float .f32 lZ) (by kernel_rfl) (F.row m0) rfl ukindFloat32 ?_) | (with_reducible refine wpList_load1C rfl (g := w.heap.size + 1) (f := 11) rfl (v := .float .f32 rZ) (by kernel_rfl) (F.row m0) rfl ukindFloat32 ?_) | (with_reducible refine wpList_load1C rfl (g := w.heap.size + 1) (f := 12) rfl (v := .float .f32 sZ) (by kernel_rfl) (F.row m0) rfl ukindFloat32 ?_) | (with_reducible refine wpList_loadWC rfl (p := ⟨w.heap.size + 1, 3, none⟩) rfl [.int .i64 kZ, .float .f32 aZ, .float .f32 bZ, .float .f32 cZ, .float .f32 xZ, .float .f32 yZ] (by kernel_rfl) (Row.at_part (F.row m0) (partPipe_End _ _ _ _ _ _ _ _ _ _ _ _ _)) Try.underlying34 rfl uinfoFilterI rfl ?_)) | (go_at_call 26; first | ((with_reducible refine (HR.out _ F.below).mono ?_); rintro e w1 ⟨rfl, hl⟩; replace F := F.le hl; clear hl) | ((with_reducible refine (HL.out _ F.below).mono ?_); rintro e w1 ⟨rfl, hl⟩; replace F := F.le hl; clear hl)) | (go_at_call 28; first | ((with_reducible refine (HS.out _ F.below).mono ?_); rintro e w1 ⟨rfl, rfl⟩; skip)) | (go_at_call 30; first | ((with_reducible refine (HF.out _).mono ?_); rintro e w1 ⟨rfl, hl⟩; replace F := F.le hl; clear hl)) | (go_at_call 29; first | ((with_reducible refine (HN0.out _).mono ?_); rintro e w1 ⟨rfl, rfl⟩; skip) | ((with_reducible refine (HN1.out _).mono ?_); rintro e w1 ⟨rfl, rfl⟩; skip) | ((with_reducible refine (HN2.out _).mono ?_); rintro e w1 ⟨rfl, rfl⟩; skip)))
    go_ret
    exact ⟨ret_b E.out.symm, F.below⟩
end Go.Proofs.Ytnkjmgadnejdlaa
