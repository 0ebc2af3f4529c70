/- Texts of the walk, laid in one file. -/
import Derived.Test.YtgjdmoenobacgaaRows
import Derived.Handy
import Derived.Test.YtgjdmoenobacgaaMe
set_option linter.unusedVariables false
set_option linter.unusedSimpArgs false
/- 'ValidJet' of both. -/
namespace Go.Fk
open Go Go.RowKit
def okJet (x y : Nat → Nat) (nx ny : Nat) (j k : Int) (fk : Int) (a b c p q : Nat) (gk : Int) (a2 b2 c2 p2 q2 : Nat) (m o : Nat) : Bool := (fk == 1) && okF fk a b c p q && (gk == 5) && okF gk a2 b2 c2 p2 q2 && rngB x nx j && rngB y ny k && fin m && fin o
end Go.Fk
namespace Go.Proofs.Ytgjdmoenobacgaa
open Go.RowKit Go.Fk
set_option maxRecDepth 100000 in
set_option maxHeartbeats 4000000 in
@[go_sem] theorem taJet (v : Value) (w : World) : (Instr.typeAssert (.iface 67 v) 168 31 true).run Try.prog w = .ok (.tuple #[.agg #[.slice none 0 0, .int .i64 0, .slice none 0 0, .int .i64 0, .int .i64 0, .float .f32 0, .float .f32 0, .float .f32 0, .float .f32 0, .float .f32 0, .float .f32 0, .float .f32 0], .bool false]) w := by rfl
set_option maxRecDepth 100000 in
set_option maxHeartbeats 4000000 in
theorem i_filtersJet (s t : Value) (j k fk gk : Int) (a b c p q a2 b2 c2 p2 q2 m o : Nat) (w : World)  : Calls Try.prog 175 #[.agg #[s, .int .i64 j, t, .int .i64 k, .int .i64 fk, .float .f32 a, .float .f32 b, .float .f32 c, .float .f32 p, .float .f32 q, .int .i64 gk, .float .f32 a2, .float .f32 b2, .float .f32 c2, .float .f32 p2, .float .f32 q2, .float .f32 m, .float .f32 o]] w (OutSl 29 2 #[.int .i64 fk, .float .f32 a, .float .f32 b, .float .f32 c, .float .f32 p, .float .f32 q, .int .i64 gk, .float .f32 a2, .float .f32 b2, .float .f32 c2, .float .f32 p2, .float .f32 q2] w) := by
  have F := (Frg.nil w).box 67 #[s, .int .i64 j, t, .int .i64 k, .int .i64 fk, .float .f32 a, .float .f32 b, .float .f32 c, .float .f32 p, .float .f32 q, .int .i64 gk, .float .f32 a2, .float .f32 b2, .float .f32 c2, .float .f32 p2, .float .f32 q2, .float .f32 m, .float .f32 o]
  go_enter Try.func175, Try.ntmps175
  go_wp2_with (first | ((with_reducible refine at_load rfl ?_); first | (with_reducible refine wpList_loadGP F rfl rfl rfl (by first | exact m0 | exact m1 | exact m2) Try.underlying25 rfl [s, .int .i64 j] (partJet_Throat (s) (.int .i64 j) (t) (.int .i64 k) (.int .i64 fk) (.float .f32 a) (.float .f32 b) (.float .f32 c) (.float .f32 p) (.float .f32 q) (.int .i64 gk) (.float .f32 a2) (.float .f32 b2) (.float .f32 c2) (.float .f32 p2) (.float .f32 q2) (.float .f32 m) (.float .f32 o)) uinfoRingI rfl ?_) | (with_reducible refine wpList_loadGP F rfl rfl rfl (by first | exact m0 | exact m1 | exact m2) Try.underlying25 rfl [t, .int .i64 k] (partJet_Bore (s) (.int .i64 j) (t) (.int .i64 k) (.int .i64 fk) (.float .f32 a) (.float .f32 b) (.float .f32 c) (.float .f32 p) (.float .f32 q) (.int .i64 gk) (.float .f32 a2) (.float .f32 b2) (.float .f32 c2) (.float .f32 p2) (.float .f32 q2) (.float .f32 m) (.float .f32 o)) uinfoRingI rfl ?_) | (with_reducible refine wpList_loadGP F rfl rfl rfl (by first | exact m0 | exact m1 | exact m2) Try.underlying29 rfl [.int .i64 fk, .float .f32 a, .float .f32 b, .float .f32 c, .float .f32 p, .float .f32 q] (partJet_Low (s) (.int .i64 j) (t) (.int .i64 k) (.int .i64 fk) (.float .f32 a) (.float .f32 b) (.float .f32 c) (.float .f32 p) (.float .f32 q) (.int .i64 gk) (.float .f32 a2) (.float .f32 b2) (.float .f32 c2) (.float .f32 p2) (.float .f32 q2) (.float .f32 m) (.float .f32 o)) uinfoFilterI rfl ?_) | (with_reducible refine wpList_loadGP F rfl rfl rfl (by first | exact m0 | exact m1 | exact m2) Try.underlying29 rfl [.int .i64 gk, .float .f32 a2, .float .f32 b2, .float .f32 c2, .float .f32 p2, .float .f32 q2] (partJet_Dc (s) (.int .i64 j) (t) (.int .i64 k) (.int .i64 fk) (.float .f32 a) (.float .f32 b) (.float .f32 c) (.float .f32 p) (.float .f32 q) (.int .i64 gk) (.float .f32 a2) (.float .f32 b2) (.float .f32 c2) (.float .f32 p2) (.float .f32 q2) (.float .f32 m) (.float .f32 o)) uinfoFilterI rfl ?_) | (with_reducible refine wpList_load1 F rfl rfl rfl (by first | exact m0 | exact m1 | exact m2) (f := 16) (v := .float .f32 m) rfl ukindFloat32 ?_) | (with_reducible refine wpList_load1 F rfl rfl rfl (by first | exact m0 | exact m1 | exact m2) (f := 17) (v := .float .f32 o) rfl ukindFloat32 ?_)))
  go_ret
  exact ⟨w.heap.size + 1, rfl, by omega, Row.new' _ _ _ (by simp), le_trans (le_alloc _ _) (le_alloc _ _)⟩
set_option maxRecDepth 100000 in
set_option maxHeartbeats 4000000 in
theorem i_ringsJet (s t : Value) (j k fk gk : Int) (a b c p q a2 b2 c2 p2 q2 m o : Nat) (w : World)  : Calls Try.prog 177 #[.agg #[s, .int .i64 j, t, .int .i64 k, .int .i64 fk, .float .f32 a, .float .f32 b, .float .f32 c, .float .f32 p, .float .f32 q, .int .i64 gk, .float .f32 a2, .float .f32 b2, .float .f32 c2, .float .f32 p2, .float .f32 q2, .float .f32 m, .float .f32 o]] w (OutSl 25 2 #[s, .int .i64 j, t, .int .i64 k] w) := by
  have F := (Frg.nil w).box 67 #[s, .int .i64 j, t, .int .i64 k, .int .i64 fk, .float .f32 a, .float .f32 b, .float .f32 c, .float .f32 p, .float .f32 q, .int .i64 gk, .float .f32 a2, .float .f32 b2, .float .f32 c2, .float .f32 p2, .float .f32 q2, .float .f32 m, .float .f32 o]
  go_enter Try.func177, Try.ntmps177
  go_wp2_with (first | ((with_reducible refine at_load rfl ?_); first | (with_reducible refine wpList_loadGP F rfl rfl rfl (by first | exact m0 | exact m1 | exact m2) Try.underlying25 rfl [s, .int .i64 j] (partJet_Throat (s) (.int .i64 j) (t) (.int .i64 k) (.int .i64 fk) (.float .f32 a) (.float .f32 b) (.float .f32 c) (.float .f32 p) (.float .f32 q) (.int .i64 gk) (.float .f32 a2) (.float .f32 b2) (.float .f32 c2) (.float .f32 p2) (.float .f32 q2) (.float .f32 m) (.float .f32 o)) uinfoRingI rfl ?_) | (with_reducible refine wpList_loadGP F rfl rfl rfl (by first | exact m0 | exact m1 | exact m2) Try.underlying25 rfl [t, .int .i64 k] (partJet_Bore (s) (.int .i64 j) (t) (.int .i64 k) (.int .i64 fk) (.float .f32 a) (.float .f32 b) (.float .f32 c) (.float .f32 p) (.float .f32 q) (.int .i64 gk) (.float .f32 a2) (.float .f32 b2) (.float .f32 c2) (.float .f32 p2) (.float .f32 q2) (.float .f32 m) (.float .f32 o)) uinfoRingI rfl ?_) | (with_reducible refine wpList_loadGP F rfl rfl rfl (by first | exact m0 | exact m1 | exact m2) Try.underlying29 rfl [.int .i64 fk, .float .f32 a, .float .f32 b, .float .f32 c, .float .f32 p, .float .f32 q] (partJet_Low (s) (.int .i64 j) (t) (.int .i64 k) (.int .i64 fk) (.float .f32 a) (.float .f32 b) (.float .f32 c) (.float .f32 p) (.float .f32 q) (.int .i64 gk) (.float .f32 a2) (.float .f32 b2) (.float .f32 c2) (.float .f32 p2) (.float .f32 q2) (.float .f32 m) (.float .f32 o)) uinfoFilterI rfl ?_) | (with_reducible refine wpList_loadGP F rfl rfl rfl (by first | exact m0 | exact m1 | exact m2) Try.underlying29 rfl [.int .i64 gk, .float .f32 a2, .float .f32 b2, .float .f32 c2, .float .f32 p2, .float .f32 q2] (partJet_Dc (s) (.int .i64 j) (t) (.int .i64 k) (.int .i64 fk) (.float .f32 a) (.float .f32 b) (.float .f32 c) (.float .f32 p) (.float .f32 q) (.int .i64 gk) (.float .f32 a2) (.float .f32 b2) (.float .f32 c2) (.float .f32 p2) (.float .f32 q2) (.float .f32 m) (.float .f32 o)) uinfoFilterI rfl ?_) | (with_reducible refine wpList_load1 F rfl rfl rfl (by first | exact m0 | exact m1 | exact m2) (f := 16) (v := .float .f32 m) rfl ukindFloat32 ?_) | (with_reducible refine wpList_load1 F rfl rfl rfl (by first | exact m0 | exact m1 | exact m2) (f := 17) (v := .float .f32 o) rfl ukindFloat32 ?_)))
  go_ret
  exact ⟨w.heap.size + 1, rfl, by omega, Row.new' _ _ _ (by simp), le_trans (le_alloc _ _) (le_alloc _ _)⟩
set_option maxRecDepth 100000 in
set_option maxHeartbeats 4000000 in
theorem i_numbersJet (s t : Value) (j k fk gk : Int) (a b c p q a2 b2 c2 p2 q2 m o : Nat) (w : World)  : Calls Try.prog 176 #[.agg #[s, .int .i64 j, t, .int .i64 k, .int .i64 fk, .float .f32 a, .float .f32 b, .float .f32 c, .float .f32 p, .float .f32 q, .int .i64 gk, .float .f32 a2, .float .f32 b2, .float .f32 c2, .float .f32 p2, .float .f32 q2, .float .f32 m, .float .f32 o]] w (OutSl 22 2 #[.float .f32 m, .float .f32 o] w) := by
  have F := (Frg.nil w).box 67 #[s, .int .i64 j, t, .int .i64 k, .int .i64 fk, .float .f32 a, .float .f32 b, .float .f32 c, .float .f32 p, .float .f32 q, .int .i64 gk, .float .f32 a2, .float .f32 b2, .float .f32 c2, .float .f32 p2, .float .f32 q2, .float .f32 m, .float .f32 o]
  go_enter Try.func176, Try.ntmps176
  go_wp2_with (first | ((with_reducible refine at_load rfl ?_); first | (with_reducible refine wpList_loadGP F rfl rfl rfl (by first | exact m0 | exact m1 | exact m2) Try.underlying25 rfl [s, .int .i64 j] (partJet_Throat (s) (.int .i64 j) (t) (.int .i64 k) (.int .i64 fk) (.float .f32 a) (.float .f32 b) (.float .f32 c) (.float .f32 p) (.float .f32 q) (.int .i64 gk) (.float .f32 a2) (.float .f32 b2) (.float .f32 c2) (.float .f32 p2) (.float .f32 q2) (.float .f32 m) (.float .f32 o)) uinfoRingI rfl ?_) | (with_reducible refine wpList_loadGP F rfl rfl rfl (by first | exact m0 | exact m1 | exact m2) Try.underlying25 rfl [t, .int .i64 k] (partJet_Bore (s) (.int .i64 j) (t) (.int .i64 k) (.int .i64 fk) (.float .f32 a) (.float .f32 b) (.float .f32 c) (.float .f32 p) (.float .f32 q) (.int .i64 gk) (.float .f32 a2) (.float .f32 b2) (.float .f32 c2) (.float .f32 p2) (.float .f32 q2) (.float .f32 m) (.float .f32 o)) uinfoRingI rfl ?_) | (with_reducible refine wpList_loadGP F rfl rfl rfl (by first | exact m0 | exact m1 | exact m2) Try.underlying29 rfl [.int .i64 fk, .float .f32 a, .float .f32 b, .float .f32 c, .float .f32 p, .float .f32 q] (partJet_Low (s) (.int .i64 j) (t) (.int .i64 k) (.int .i64 fk) (.float .f32 a) (.float .f32 b) (.float .f32 c) (.float .f32 p) (.float .f32 q) (.int .i64 gk) (.float .f32 a2) (.float .f32 b2) (.float .f32 c2) (.float .f32 p2) (.float .f32 q2) (.float .f32 m) (.float .f32 o)) uinfoFilterI rfl ?_) | (with_reducible refine wpList_loadGP F rfl rfl rfl (by first | exact m0 | exact m1 | exact m2) Try.underlying29 rfl [.int .i64 gk, .float .f32 a2, .float .f32 b2, .float .f32 c2, .float .f32 p2, .float .f32 q2] (partJet_Dc (s) (.int .i64 j) (t) (.int .i64 k) (.int .i64 fk) (.float .f32 a) (.float .f32 b) (.float .f32 c) (.float .f32 p) (.float .f32 q) (.int .i64 gk) (.float .f32 a2) (.float .f32 b2) (.float .f32 c2) (.float .f32 p2) (.float .f32 q2) (.float .f32 m) (.float .f32 o)) uinfoFilterI rfl ?_) | (with_reducible refine wpList_load1 F rfl rfl rfl (by first | exact m0 | exact m1 | exact m2) (f := 16) (v := .float .f32 m) rfl ukindFloat32 ?_) | (with_reducible refine wpList_load1 F rfl rfl rfl (by first | exact m0 | exact m1 | exact m2) (f := 17) (v := .float .f32 o) rfl ukindFloat32 ?_)))
  go_ret
  exact ⟨w.heap.size + 1, rfl, by omega, Row.new' _ _ _ (by simp), le_trans (le_alloc _ _) (le_alloc _ _)⟩
def wordVJet : ByteArray := ⟨#[106, 101, 116]⟩
set_option maxRecDepth 100000 in
set_option maxHeartbeats 4000000 in
theorem i_wordJet (v : Value) (w : World) : Calls Try.prog 134 #[.iface 67 v] w fun e w' => ∃ g, e = .returned (.tuple #[.string wordVJet, .slice (some ⟨g, 0, none⟩) 2 2]) ∧ w.heap.size ≤ g ∧ Row w' g 2 #[.int .i64 1, .int .i64 5] ∧ le w w' := by
  go_enter Try.func134, Try.ntmps134
  go_wp2
  go_ret2
  exact ⟨w.heap.size, rfl, Nat.le_refl _, Row.new _ _ _, le_alloc _ _⟩
theorem filAtJet0 (fk : Int) (a b c p q : Nat) (gk : Int) (a2 b2 c2 p2 q2 : Nat) : ∀ j, j < ([.int .i64 fk, .float .f32 a, .float .f32 b, .float .f32 c, .float .f32 p, .float .f32 q] : List Value).length → (#[.int .i64 fk, .float .f32 a, .float .f32 b, .float .f32 c, .float .f32 p, .float .f32 q, .int .i64 gk, .float .f32 a2, .float .f32 b2, .float .f32 c2, .float .f32 p2, .float .f32 q2] : Array Value)[0 + j]? = ([.int .i64 fk, .float .f32 a, .float .f32 b, .float .f32 c, .float .f32 p, .float .f32 q] : List Value)[j]? := fun j hj => by match j, hj with | 0, _ => rfl | 1, _ => rfl | 2, _ => rfl | 3, _ => rfl | 4, _ => rfl | 5, _ => rfl
theorem filAtJet1 (fk : Int) (a b c p q : Nat) (gk : Int) (a2 b2 c2 p2 q2 : Nat) : ∀ j, j < ([.int .i64 gk, .float .f32 a2, .float .f32 b2, .float .f32 c2, .float .f32 p2, .float .f32 q2] : List Value).length → (#[.int .i64 fk, .float .f32 a, .float .f32 b, .float .f32 c, .float .f32 p, .float .f32 q, .int .i64 gk, .float .f32 a2, .float .f32 b2, .float .f32 c2, .float .f32 p2, .float .f32 q2] : Array Value)[6 + j]? = ([.int .i64 gk, .float .f32 a2, .float .f32 b2, .float .f32 c2, .float .f32 p2, .float .f32 q2] : List Value)[j]? := fun j hj => by match j, hj with | 0, _ => rfl | 1, _ => rfl | 2, _ => rfl | 3, _ => rfl | 4, _ => rfl | 5, _ => rfl
set_option maxRecDepth 100000 in
set_option maxHeartbeats 4000000 in
theorem i_validPartsJet (x y : Nat → Nat) (nx ny : Nat) (j k : Int) (fk : Int) (a b c p q : Nat) (gk : Int) (a2 b2 c2 p2 q2 : Nat) (m o : Nat) (B : Nat) (s t : Value) (w : World) (hs : (slT x nx).RdN w B s) (ht : (slT y ny).RdN w B t) (wf : (Lit.int .i64 j).wf = true ∧ (Lit.int .i64 k).wf = true) (hf : (fits .f32 a ∧ fits .f32 b ∧ fits .f32 c ∧ fits .f32 p ∧ fits .f32 q ∧ fits .f32 a2 ∧ fits .f32 b2 ∧ fits .f32 c2 ∧ fits .f32 p2 ∧ fits .f32 q2 ∧ fits .f32 m ∧ fits .f32 o)) :
    Calls Try.prog 114 #[.iface 67 (.agg #[s, .int .i64 j, t, .int .i64 k, .int .i64 fk, .float .f32 a, .float .f32 b, .float .f32 c, .float .f32 p, .float .f32 q, .int .i64 gk, .float .f32 a2, .float .f32 b2, .float .f32 c2, .float .f32 p2, .float .f32 q2, .float .f32 m, .float .f32 o])] w (Out_b (okJet x y nx ny j k fk a b c p q gk a2 b2 c2 p2 q2 m o) w) := by
  obtain ⟨fa, fb, fc, fp, fq, fa2, fb2, fc2, fp2, fq2, fm, fo⟩ := hf
  obtain ⟨wj, wk⟩ := wf
  have HV0 := hid (fun w' => i_ValidFilter fk a b c p q w' ⟨fa, fb, fc, fp, fq⟩)
  have HV1 := hid (fun w' => i_ValidFilter gk a2 b2 c2 p2 q2 w' ⟨fa2, fb2, fc2, fp2, fq2⟩)
  have HX := hid (fun (w' : World) (hl : le w w') => i_isFiniteRing B s x nx j w' ((slT_rds hs).le hl))
  have HY := hid (fun (w' : World) (hl : le w w') => i_isFiniteRing B t y ny k w' ((slT_rds ht).le hl))
  have HN := hid (fun (b : Nat) (w' : World) (R : Row w' b 22 #[.float .f32 m, .float .f32 o]) => i_areFiniteQ (b + 1) (.slice (some ⟨b, 0, none⟩) 2 2) (two m o) 2 w' (two_rd fm fo R))
  have HW := hid (fun (w' : World) => i_wordJet (.agg #[s, .int .i64 j, t, .int .i64 k, .int .i64 fk, .float .f32 a, .float .f32 b, .float .f32 c, .float .f32 p, .float .f32 q, .int .i64 gk, .float .f32 a2, .float .f32 b2, .float .f32 c2, .float .f32 p2, .float .f32 q2, .float .f32 m, .float .f32 o]) w')
  have HF := hid (fun (w' : World) => i_filtersJet s t j k fk gk a b c p q a2 b2 c2 p2 q2 m o w')
  have HR := hid (fun (w' : World) => i_ringsJet s t j k fk gk a b c p q a2 b2 c2 p2 q2 m o w')
  have HM := hid (fun (w' : World) => i_numbersJet s t j k fk gk a b c p q a2 b2 c2 p2 q2 m o w')
  have SO0 := hid (slT_rds hs).one; have SO1 := hid (slT_rds ht).one
  clear hs ht wj wk fa fb fc fp fq fa2 fb2 fc2 fp2 fq2 fm fo
  change Calls _ _ _ _ (Out_b ((fk == 1) && okF fk a b c p q && (gk == 5) && okF gk a2 b2 c2 p2 q2 && rngB x nx j && rngB y ny k && fin m && fin o) w)
  rw [show ((fk == 1) && okF fk a b c p q && (gk == 5) && okF gk a2 b2 c2 p2 q2 && rngB x nx j && rngB y ny k && fin m && fin o) = ((fk == 1) && okF fk a b c p q && (gk == 5) && okF gk a2 b2 c2 p2 q2 && rngB x nx j && rngB y ny k && finB (two m o) 2) by rw [fin_two, ← Bool.and_assoc]]
  go_enter Try.func114, Try.ntmps114
  have F := Frg.nil w
  go_wp2_with (first | (go_at_call 134; ((with_reducible refine (HW.out _).mono ?_); rintro e w1 ⟨gK, rfl, hgK, hrK, hlK⟩; replace F := F.rowS hlK hgK hrK; clear hgK hrK hlK)) | (go_at_call 175; ((with_reducible refine (HF.out _).mono ?_); rintro e w2 ⟨gF, rfl, hgF, hrF, hlF⟩; replace F := F.rowS hlF hgF hrF; clear hgF hrF hlF)))
  go_loopw [17] (fun i wr => ∃ n : Nat, n ≤ 2 ∧ i = .int .i64 n ∧ Hid ((0 < n → (fk == 1) = true ∧ okF fk a b c p q = true) ∧ (1 < n → (gk == 5) = true ∧ okF gk a2 b2 c2 p2 q2 = true)) ∧ Hid (Frg w wr [rowF gF 29 #[.int .i64 fk, .float .f32 a, .float .f32 b, .float .f32 c, .float .f32 p, .float .f32 q, .int .i64 gk, .float .f32 a2, .float .f32 b2, .float .f32 c2, .float .f32 p2, .float .f32 q2], rowF gK 2 #[.int .i64 1, .int .i64 5]])) (fun i _ => 2 - (intOf i).toNat)
  case atStart => exact ⟨0, by omega, rfl, ⟨fun h => absurd h (by omega), fun h => absurd h (by omega)⟩, F⟩
  case round =>
    clear F
    obtain ⟨n, hn, rfl, HP, HF0⟩ := hrel
    rename_i wr _
    match n, hn with
    | 0, _ =>
      have F := HF0.out
      go_wp2_with (first | ((with_reducible refine listN F ?_); clear F; intro wN F) | (with_reducible refine wpList_indexW0 (i := 0) rfl rfl rfl rfl Try.underlying172 uinfoFilterI (by decide) ?_) | ((with_reducible refine at_load rfl ?_); (with_reducible refine wpList_loadGP F rfl rfl rfl (by first | exact m0 | exact m1 | exact m2 | exact m3 | exact m4 | exact m5 | exact m6 | exact m7) Try.underlying29 rfl [.int .i64 fk, .float .f32 a, .float .f32 b, .float .f32 c, .float .f32 p, .float .f32 q] (filAtJet0 fk a b c p q gk a2 b2 c2 p2 q2) uinfoFilterI rfl ?_)))
      replace F := F.box 29 #[.int .i64 fk, .float .f32 a, .float .f32 b, .float .f32 c, .float .f32 p, .float .f32 q]
      cases hc : (fk == 1)
      · have hne := hid (show (fk != 1) = true by rw [bne, hc]; rfl)
        obtain ⟨hp0, hp1⟩ := HP.out
        have E := hid (show ((fk == 1) && okF fk a b c p q && (gk == 5) && okF gk a2 b2 c2 p2 q2 && rngB x nx j && rngB y ny k && finB (two m o) 2) = false by simp [hc])
        clear hc hp0 hp1
        refine region_freeD (E := leX) (fun _ _ _ v => v = .bool false) (by kernel_rfl) (by kernel_rfl) ?_
        refine wpFreeD_one rfl (.pointer (some ⟨wr.heap.size, 0, none⟩)) (fun w1 _ => by kernel_rfl) ?_
        simp only [Act.put, List.setIfInBounds_toArray, List.set_cons_succ, List.set_cons_zero]
        refine wpFreeD_load1 rfl rfl rfl (p := ⟨wr.heap.size, 0, none⟩) (fun w1 h1 => (((F.drewN 1).le h1).row m0).cell? 0) ukindInt64 ?_
        simp only [Act.put, List.setIfInBounds_toArray, List.set_cons_succ, List.set_cons_zero]
        refine wpFreeD_one rfl (.slice (some ⟨gK, 0, none⟩) 2 2) (fun w1 _ => by kernel_rfl) ?_
        simp only [Act.put, List.setIfInBounds_toArray, List.set_cons_succ, List.set_cons_zero]
        refine wpFreeD_one rfl (.int .i64 0) (fun w1 _ => by kernel_rfl) ?_
        simp only [Act.put, List.setIfInBounds_toArray, List.set_cons_succ, List.set_cons_zero]
        refine wpFreeD_indexW0 rfl rfl (i := 0) rfl rfl Try.underlying169 uinfo1Int64 (by decide) ?_
        simp only [Act.put, List.setIfInBounds_toArray, List.set_cons_succ, List.set_cons_zero]
        refine wpFreeD_load1 rfl rfl rfl (p := ⟨gK, 0 + 0 * 1, none⟩) (fun w1 h1 => (((F.drewN 1).le h1).row m2).cell? 0) ukindInt64 ?_
        simp only [Act.put, List.setIfInBounds_toArray, List.set_cons_succ, List.set_cons_zero]
        refine wpFreeD_one rfl (.bool (fk != 1)) (fun w1 _ => by kernel_rfl) ?_
        simp only [Act.put, List.setIfInBounds_toArray, List.set_cons_succ, List.set_cons_zero]
        rw [hne.out]
        refine wpFreeD_one rfl (.bool true) (fun w1 _ => by kernel_rfl) ?_
        simp only [Act.put, List.setIfInBounds_toArray, List.set_cons_succ, List.set_cons_zero]
        refine wpFreeD_skip (by kernel_rfl) ?_
        simp only [Act.put, List.setIfInBounds_toArray, List.set_cons_succ, List.set_cons_zero]
        refine wpFreeD_skip (by kernel_rfl) ?_
        simp only [Act.put, List.setIfInBounds_toArray, List.set_cons_succ, List.set_cons_zero]
        refine wpFreeD_skip (by kernel_rfl) ?_
        simp only [Act.put, List.setIfInBounds_toArray, List.set_cons_succ, List.set_cons_zero]
        refine wpFreeD_one rfl (.bool true) (fun w1 _ => by kernel_rfl) ?_
        simp only [Act.put, List.setIfInBounds_toArray, List.set_cons_succ, List.set_cons_zero]
        refine wpFreeD_nil (fun wR hwR _ => ?_)
        replace F := (F.drewN 1).le hwR
        clear hwR
        go_wp2
        go_ret
        exact ⟨ret_b E.out.symm, F.below⟩
      have hne := hid (show (fk != 1) = false by rw [bne, hc]; rfl)
      cases hk : okF fk a b c p q
      · rw [hk] at HV0
        obtain ⟨hp0, hp1⟩ := HP.out
        have E := hid (show ((fk == 1) && okF fk a b c p q && (gk == 5) && okF gk a2 b2 c2 p2 q2 && rngB x nx j && rngB y ny k && finB (two m o) 2) = false by simp [hk])
        clear hc hk hp0 hp1
        refine region_freeD (E := leX) (fun _ _ _ v => v = .bool false) (by kernel_rfl) (by kernel_rfl) ?_
        refine wpFreeD_one rfl (.pointer (some ⟨wr.heap.size, 0, none⟩)) (fun w1 _ => by kernel_rfl) ?_
        simp only [Act.put, List.setIfInBounds_toArray, List.set_cons_succ, List.set_cons_zero]
        refine wpFreeD_load1 rfl rfl rfl (p := ⟨wr.heap.size, 0, none⟩) (fun w1 h1 => (((F.drewN 1).le h1).row m0).cell? 0) ukindInt64 ?_
        simp only [Act.put, List.setIfInBounds_toArray, List.set_cons_succ, List.set_cons_zero]
        refine wpFreeD_one rfl (.slice (some ⟨gK, 0, none⟩) 2 2) (fun w1 _ => by kernel_rfl) ?_
        simp only [Act.put, List.setIfInBounds_toArray, List.set_cons_succ, List.set_cons_zero]
        refine wpFreeD_one rfl (.int .i64 0) (fun w1 _ => by kernel_rfl) ?_
        simp only [Act.put, List.setIfInBounds_toArray, List.set_cons_succ, List.set_cons_zero]
        refine wpFreeD_indexW0 rfl rfl (i := 0) rfl rfl Try.underlying169 uinfo1Int64 (by decide) ?_
        simp only [Act.put, List.setIfInBounds_toArray, List.set_cons_succ, List.set_cons_zero]
        refine wpFreeD_load1 rfl rfl rfl (p := ⟨gK, 0 + 0 * 1, none⟩) (fun w1 h1 => (((F.drewN 1).le h1).row m2).cell? 0) ukindInt64 ?_
        simp only [Act.put, List.setIfInBounds_toArray, List.set_cons_succ, List.set_cons_zero]
        refine wpFreeD_one rfl (.bool (fk != 1)) (fun w1 _ => by kernel_rfl) ?_
        simp only [Act.put, List.setIfInBounds_toArray, List.set_cons_succ, List.set_cons_zero]
        rw [hne.out]
        refine wpFreeD_one rfl (.bool false) (fun w1 _ => by kernel_rfl) ?_
        simp only [Act.put, List.setIfInBounds_toArray, List.set_cons_succ, List.set_cons_zero]
        refine wpFreeD_loadGW F rfl (by kernel_rfl) rfl rfl m0 Try.underlying29 rfl uinfoFilterI rfl ?_
        simp only [Act.put, List.setIfInBounds_toArray, List.set_cons_succ, List.set_cons_zero]
        refine wpFreeD_callW (by kernel_rfl) rfl Try.func135 (by kernel_rfl) (by kernel_rfl) (args := #[.agg #[.int .i64 fk, .float .f32 a, .float .f32 b, .float .f32 c, .float .f32 p, .float .f32 q]]) (by simp [Act.eval]) (fun v w1 w2 hw hv => hv) (fun w1 hw1 _ => (HV0.out w1).mono ?_) ?_
        · rintro e w2 ⟨rfl, hl⟩
          exact ⟨_, rfl, hl, rfl⟩
        rintro v ⟨_, _, _, rfl⟩
        simp only [Act.put, List.setIfInBounds_toArray, List.set_cons_succ, List.set_cons_zero]
        refine wpFreeD_oneW (by kernel_rfl) (.bool true) (fun w1 _ => by kernel_rfl) ?_
        simp only [Act.put, List.setIfInBounds_toArray, List.set_cons_succ, List.set_cons_zero]
        refine wpFreeD_one rfl (.bool true) (fun w1 _ => by kernel_rfl) ?_
        simp only [Act.put, List.setIfInBounds_toArray, List.set_cons_succ, List.set_cons_zero]
        refine wpFreeD_nil (fun wR hwR _ => ?_)
        replace F := (F.drewN 1).le hwR
        clear hwR
        go_wp2
        go_ret
        exact ⟨ret_b E.out.symm, F.below⟩
      · rw [hk] at HV0
        have hkk := hid hk; have hcc := hid hc
        clear hc hk
        refine region_freeD (E := leX) (fun _ _ _ v => v = .bool true) (by kernel_rfl) (by kernel_rfl) ?_
        refine wpFreeD_one rfl (.pointer (some ⟨wr.heap.size, 0, none⟩)) (fun w1 _ => by kernel_rfl) ?_
        simp only [Act.put, List.setIfInBounds_toArray, List.set_cons_succ, List.set_cons_zero]
        refine wpFreeD_load1 rfl rfl rfl (p := ⟨wr.heap.size, 0, none⟩) (fun w1 h1 => (((F.drewN 1).le h1).row m0).cell? 0) ukindInt64 ?_
        simp only [Act.put, List.setIfInBounds_toArray, List.set_cons_succ, List.set_cons_zero]
        refine wpFreeD_one rfl (.slice (some ⟨gK, 0, none⟩) 2 2) (fun w1 _ => by kernel_rfl) ?_
        simp only [Act.put, List.setIfInBounds_toArray, List.set_cons_succ, List.set_cons_zero]
        refine wpFreeD_one rfl (.int .i64 0) (fun w1 _ => by kernel_rfl) ?_
        simp only [Act.put, List.setIfInBounds_toArray, List.set_cons_succ, List.set_cons_zero]
        refine wpFreeD_indexW0 rfl rfl (i := 0) rfl rfl Try.underlying169 uinfo1Int64 (by decide) ?_
        simp only [Act.put, List.setIfInBounds_toArray, List.set_cons_succ, List.set_cons_zero]
        refine wpFreeD_load1 rfl rfl rfl (p := ⟨gK, 0 + 0 * 1, none⟩) (fun w1 h1 => (((F.drewN 1).le h1).row m2).cell? 0) ukindInt64 ?_
        simp only [Act.put, List.setIfInBounds_toArray, List.set_cons_succ, List.set_cons_zero]
        refine wpFreeD_one rfl (.bool (fk != 1)) (fun w1 _ => by kernel_rfl) ?_
        simp only [Act.put, List.setIfInBounds_toArray, List.set_cons_succ, List.set_cons_zero]
        rw [hne.out]
        refine wpFreeD_one rfl (.bool false) (fun w1 _ => by kernel_rfl) ?_
        simp only [Act.put, List.setIfInBounds_toArray, List.set_cons_succ, List.set_cons_zero]
        refine wpFreeD_loadGW F rfl (by kernel_rfl) rfl rfl m0 Try.underlying29 rfl uinfoFilterI rfl ?_
        simp only [Act.put, List.setIfInBounds_toArray, List.set_cons_succ, List.set_cons_zero]
        refine wpFreeD_callW (by kernel_rfl) rfl Try.func135 (by kernel_rfl) (by kernel_rfl) (args := #[.agg #[.int .i64 fk, .float .f32 a, .float .f32 b, .float .f32 c, .float .f32 p, .float .f32 q]]) (by simp [Act.eval]) (fun v w1 w2 hw hv => hv) (fun w1 hw1 _ => (HV0.out w1).mono ?_) ?_
        · rintro e w2 ⟨rfl, hl⟩
          exact ⟨_, rfl, hl, rfl⟩
        rintro v ⟨_, _, _, rfl⟩
        simp only [Act.put, List.setIfInBounds_toArray, List.set_cons_succ, List.set_cons_zero]
        refine wpFreeD_oneW (by kernel_rfl) (.bool false) (fun w1 _ => by kernel_rfl) ?_
        simp only [Act.put, List.setIfInBounds_toArray, List.set_cons_succ, List.set_cons_zero]
        refine wpFreeD_one rfl (.bool false) (fun w1 _ => by kernel_rfl) ?_
        simp only [Act.put, List.setIfInBounds_toArray, List.set_cons_succ, List.set_cons_zero]
        refine wpFreeD_nil (fun wR hwR _ => ?_)
        replace F := (F.drewN 1).le hwR
        clear hwR
        go_wp2
        go_roundw
        case rel => exact ⟨1, by omega, by go_num, ⟨fun _ => ⟨hcc.out, hkk.out⟩, fun h => absurd h (by omega)⟩, F.tl⟩
        case measure => simp [intOf]
    | 1, _ =>
      have F := HF0.out
      go_wp2_with (first | ((with_reducible refine listN F ?_); clear F; intro wN F) | (with_reducible refine wpList_indexW0 (i := 1) rfl rfl rfl rfl Try.underlying172 uinfoFilterI (by decide) ?_) | ((with_reducible refine at_load rfl ?_); (with_reducible refine wpList_loadGP F rfl rfl rfl (by first | exact m0 | exact m1 | exact m2 | exact m3 | exact m4 | exact m5 | exact m6 | exact m7) Try.underlying29 rfl [.int .i64 gk, .float .f32 a2, .float .f32 b2, .float .f32 c2, .float .f32 p2, .float .f32 q2] (filAtJet1 fk a b c p q gk a2 b2 c2 p2 q2) uinfoFilterI rfl ?_)))
      replace F := F.box 29 #[.int .i64 gk, .float .f32 a2, .float .f32 b2, .float .f32 c2, .float .f32 p2, .float .f32 q2]
      cases hc : (gk == 5)
      · have hne := hid (show (gk != 5) = true by rw [bne, hc]; rfl)
        obtain ⟨hp0, hp1⟩ := HP.out
        have E := hid (show ((fk == 1) && okF fk a b c p q && (gk == 5) && okF gk a2 b2 c2 p2 q2 && rngB x nx j && rngB y ny k && finB (two m o) 2) = false by simp [hc, (hp0 (by omega)).1, (hp0 (by omega)).2])
        clear hc hp0 hp1
        refine region_freeD (E := leX) (fun _ _ _ v => v = .bool false) (by kernel_rfl) (by kernel_rfl) ?_
        refine wpFreeD_one rfl (.pointer (some ⟨wr.heap.size, 0, none⟩)) (fun w1 _ => by kernel_rfl) ?_
        simp only [Act.put, List.setIfInBounds_toArray, List.set_cons_succ, List.set_cons_zero]
        refine wpFreeD_load1 rfl rfl rfl (p := ⟨wr.heap.size, 0, none⟩) (fun w1 h1 => (((F.drewN 1).le h1).row m0).cell? 0) ukindInt64 ?_
        simp only [Act.put, List.setIfInBounds_toArray, List.set_cons_succ, List.set_cons_zero]
        refine wpFreeD_one rfl (.slice (some ⟨gK, 0, none⟩) 2 2) (fun w1 _ => by kernel_rfl) ?_
        simp only [Act.put, List.setIfInBounds_toArray, List.set_cons_succ, List.set_cons_zero]
        refine wpFreeD_one rfl (.int .i64 1) (fun w1 _ => by kernel_rfl) ?_
        simp only [Act.put, List.setIfInBounds_toArray, List.set_cons_succ, List.set_cons_zero]
        refine wpFreeD_indexW0 rfl rfl (i := 1) rfl rfl Try.underlying169 uinfo1Int64 (by decide) ?_
        simp only [Act.put, List.setIfInBounds_toArray, List.set_cons_succ, List.set_cons_zero]
        refine wpFreeD_load1 rfl rfl rfl (p := ⟨gK, 0 + 1 * 1, none⟩) (fun w1 h1 => (((F.drewN 1).le h1).row m2).cell? 1) ukindInt64 ?_
        simp only [Act.put, List.setIfInBounds_toArray, List.set_cons_succ, List.set_cons_zero]
        refine wpFreeD_one rfl (.bool (gk != 5)) (fun w1 _ => by kernel_rfl) ?_
        simp only [Act.put, List.setIfInBounds_toArray, List.set_cons_succ, List.set_cons_zero]
        rw [hne.out]
        refine wpFreeD_one rfl (.bool true) (fun w1 _ => by kernel_rfl) ?_
        simp only [Act.put, List.setIfInBounds_toArray, List.set_cons_succ, List.set_cons_zero]
        refine wpFreeD_skip (by kernel_rfl) ?_
        simp only [Act.put, List.setIfInBounds_toArray, List.set_cons_succ, List.set_cons_zero]
        refine wpFreeD_skip (by kernel_rfl) ?_
        simp only [Act.put, List.setIfInBounds_toArray, List.set_cons_succ, List.set_cons_zero]
        refine wpFreeD_skip (by kernel_rfl) ?_
        simp only [Act.put, List.setIfInBounds_toArray, List.set_cons_succ, List.set_cons_zero]
        refine wpFreeD_one rfl (.bool true) (fun w1 _ => by kernel_rfl) ?_
        simp only [Act.put, List.setIfInBounds_toArray, List.set_cons_succ, List.set_cons_zero]
        refine wpFreeD_nil (fun wR hwR _ => ?_)
        replace F := (F.drewN 1).le hwR
        clear hwR
        go_wp2
        go_ret
        exact ⟨ret_b E.out.symm, F.below⟩
      have hne := hid (show (gk != 5) = false by rw [bne, hc]; rfl)
      cases hk : okF gk a2 b2 c2 p2 q2
      · rw [hk] at HV1
        obtain ⟨hp0, hp1⟩ := HP.out
        have E := hid (show ((fk == 1) && okF fk a b c p q && (gk == 5) && okF gk a2 b2 c2 p2 q2 && rngB x nx j && rngB y ny k && finB (two m o) 2) = false by simp [hk, (hp0 (by omega)).1, (hp0 (by omega)).2])
        clear hc hk hp0 hp1
        refine region_freeD (E := leX) (fun _ _ _ v => v = .bool false) (by kernel_rfl) (by kernel_rfl) ?_
        refine wpFreeD_one rfl (.pointer (some ⟨wr.heap.size, 0, none⟩)) (fun w1 _ => by kernel_rfl) ?_
        simp only [Act.put, List.setIfInBounds_toArray, List.set_cons_succ, List.set_cons_zero]
        refine wpFreeD_load1 rfl rfl rfl (p := ⟨wr.heap.size, 0, none⟩) (fun w1 h1 => (((F.drewN 1).le h1).row m0).cell? 0) ukindInt64 ?_
        simp only [Act.put, List.setIfInBounds_toArray, List.set_cons_succ, List.set_cons_zero]
        refine wpFreeD_one rfl (.slice (some ⟨gK, 0, none⟩) 2 2) (fun w1 _ => by kernel_rfl) ?_
        simp only [Act.put, List.setIfInBounds_toArray, List.set_cons_succ, List.set_cons_zero]
        refine wpFreeD_one rfl (.int .i64 1) (fun w1 _ => by kernel_rfl) ?_
        simp only [Act.put, List.setIfInBounds_toArray, List.set_cons_succ, List.set_cons_zero]
        refine wpFreeD_indexW0 rfl rfl (i := 1) rfl rfl Try.underlying169 uinfo1Int64 (by decide) ?_
        simp only [Act.put, List.setIfInBounds_toArray, List.set_cons_succ, List.set_cons_zero]
        refine wpFreeD_load1 rfl rfl rfl (p := ⟨gK, 0 + 1 * 1, none⟩) (fun w1 h1 => (((F.drewN 1).le h1).row m2).cell? 1) ukindInt64 ?_
        simp only [Act.put, List.setIfInBounds_toArray, List.set_cons_succ, List.set_cons_zero]
        refine wpFreeD_one rfl (.bool (gk != 5)) (fun w1 _ => by kernel_rfl) ?_
        simp only [Act.put, List.setIfInBounds_toArray, List.set_cons_succ, List.set_cons_zero]
        rw [hne.out]
        refine wpFreeD_one rfl (.bool false) (fun w1 _ => by kernel_rfl) ?_
        simp only [Act.put, List.setIfInBounds_toArray, List.set_cons_succ, List.set_cons_zero]
        refine wpFreeD_loadGW F rfl (by kernel_rfl) rfl rfl m0 Try.underlying29 rfl uinfoFilterI rfl ?_
        simp only [Act.put, List.setIfInBounds_toArray, List.set_cons_succ, List.set_cons_zero]
        refine wpFreeD_callW (by kernel_rfl) rfl Try.func135 (by kernel_rfl) (by kernel_rfl) (args := #[.agg #[.int .i64 gk, .float .f32 a2, .float .f32 b2, .float .f32 c2, .float .f32 p2, .float .f32 q2]]) (by simp [Act.eval]) (fun v w1 w2 hw hv => hv) (fun w1 hw1 _ => (HV1.out w1).mono ?_) ?_
        · rintro e w2 ⟨rfl, hl⟩
          exact ⟨_, rfl, hl, rfl⟩
        rintro v ⟨_, _, _, rfl⟩
        simp only [Act.put, List.setIfInBounds_toArray, List.set_cons_succ, List.set_cons_zero]
        refine wpFreeD_oneW (by kernel_rfl) (.bool true) (fun w1 _ => by kernel_rfl) ?_
        simp only [Act.put, List.setIfInBounds_toArray, List.set_cons_succ, List.set_cons_zero]
        refine wpFreeD_one rfl (.bool true) (fun w1 _ => by kernel_rfl) ?_
        simp only [Act.put, List.setIfInBounds_toArray, List.set_cons_succ, List.set_cons_zero]
        refine wpFreeD_nil (fun wR hwR _ => ?_)
        replace F := (F.drewN 1).le hwR
        clear hwR
        go_wp2
        go_ret
        exact ⟨ret_b E.out.symm, F.below⟩
      · rw [hk] at HV1
        have hkk := hid hk; have hcc := hid hc
        clear hc hk
        refine region_freeD (E := leX) (fun _ _ _ v => v = .bool true) (by kernel_rfl) (by kernel_rfl) ?_
        refine wpFreeD_one rfl (.pointer (some ⟨wr.heap.size, 0, none⟩)) (fun w1 _ => by kernel_rfl) ?_
        simp only [Act.put, List.setIfInBounds_toArray, List.set_cons_succ, List.set_cons_zero]
        refine wpFreeD_load1 rfl rfl rfl (p := ⟨wr.heap.size, 0, none⟩) (fun w1 h1 => (((F.drewN 1).le h1).row m0).cell? 0) ukindInt64 ?_
        simp only [Act.put, List.setIfInBounds_toArray, List.set_cons_succ, List.set_cons_zero]
        refine wpFreeD_one rfl (.slice (some ⟨gK, 0, none⟩) 2 2) (fun w1 _ => by kernel_rfl) ?_
        simp only [Act.put, List.setIfInBounds_toArray, List.set_cons_succ, List.set_cons_zero]
        refine wpFreeD_one rfl (.int .i64 1) (fun w1 _ => by kernel_rfl) ?_
        simp only [Act.put, List.setIfInBounds_toArray, List.set_cons_succ, List.set_cons_zero]
        refine wpFreeD_indexW0 rfl rfl (i := 1) rfl rfl Try.underlying169 uinfo1Int64 (by decide) ?_
        simp only [Act.put, List.setIfInBounds_toArray, List.set_cons_succ, List.set_cons_zero]
        refine wpFreeD_load1 rfl rfl rfl (p := ⟨gK, 0 + 1 * 1, none⟩) (fun w1 h1 => (((F.drewN 1).le h1).row m2).cell? 1) ukindInt64 ?_
        simp only [Act.put, List.setIfInBounds_toArray, List.set_cons_succ, List.set_cons_zero]
        refine wpFreeD_one rfl (.bool (gk != 5)) (fun w1 _ => by kernel_rfl) ?_
        simp only [Act.put, List.setIfInBounds_toArray, List.set_cons_succ, List.set_cons_zero]
        rw [hne.out]
        refine wpFreeD_one rfl (.bool false) (fun w1 _ => by kernel_rfl) ?_
        simp only [Act.put, List.setIfInBounds_toArray, List.set_cons_succ, List.set_cons_zero]
        refine wpFreeD_loadGW F rfl (by kernel_rfl) rfl rfl m0 Try.underlying29 rfl uinfoFilterI rfl ?_
        simp only [Act.put, List.setIfInBounds_toArray, List.set_cons_succ, List.set_cons_zero]
        refine wpFreeD_callW (by kernel_rfl) rfl Try.func135 (by kernel_rfl) (by kernel_rfl) (args := #[.agg #[.int .i64 gk, .float .f32 a2, .float .f32 b2, .float .f32 c2, .float .f32 p2, .float .f32 q2]]) (by simp [Act.eval]) (fun v w1 w2 hw hv => hv) (fun w1 hw1 _ => (HV1.out w1).mono ?_) ?_
        · rintro e w2 ⟨rfl, hl⟩
          exact ⟨_, rfl, hl, rfl⟩
        rintro v ⟨_, _, _, rfl⟩
        simp only [Act.put, List.setIfInBounds_toArray, List.set_cons_succ, List.set_cons_zero]
        refine wpFreeD_oneW (by kernel_rfl) (.bool false) (fun w1 _ => by kernel_rfl) ?_
        simp only [Act.put, List.setIfInBounds_toArray, List.set_cons_succ, List.set_cons_zero]
        refine wpFreeD_one rfl (.bool false) (fun w1 _ => by kernel_rfl) ?_
        simp only [Act.put, List.setIfInBounds_toArray, List.set_cons_succ, List.set_cons_zero]
        refine wpFreeD_nil (fun wR hwR _ => ?_)
        replace F := (F.drewN 1).le hwR
        clear hwR
        go_wp2
        go_roundw
        case rel => exact ⟨2, by omega, by go_num, ⟨fun _ => HP.out.1 (by omega), fun _ => ⟨hcc.out, hkk.out⟩⟩, F.tl⟩
        case measure => simp [intOf]
    | 2, _ =>
      have F := HF0.out
      clear HF0
      go_wp2_with (first | (go_at_call 177; ((with_reducible refine (HR.out _).mono ?_); rintro e w3 ⟨gR, rfl, hgR, hrR, hlR⟩; replace F := F.rowS hlR hgR hrR; clear hgR hrR hlR)))
      go_loopw [38] (fun i wr => ∃ n : Nat, n ≤ 2 ∧ i = .int .i64 n ∧ Hid ((0 < n → rngB x nx j = true) ∧ (1 < n → rngB y ny k = true)) ∧ Hid (Frg w wr [rowF gR 25 #[s, .int .i64 j, t, .int .i64 k]])) (fun i _ => 2 - (intOf i).toNat)
      case atStart => exact ⟨0, by omega, rfl, ⟨fun h => absurd h (by omega), fun h => absurd h (by omega)⟩, F.sub (by simp)⟩
      case round =>
        clear F
        obtain ⟨n, hn, rfl, HQ, HF1⟩ := hrel
        match n, hn with
        | 0, _ =>
          have F := HF1.out
          cases hk : rngB x nx j
          · have hk2 : rngB x nx j = false := hk
            unfold rngB at hk
            rw [hk] at HX
            obtain ⟨hq0, hq1⟩ := HQ.out
            obtain ⟨hp0, hp1⟩ := HP.out
            clear hk hk2 hq0 hq1 hp0 hp1
            go_wp2_with (first | ((with_reducible refine listN F ?_); clear F; intro wN F) | (with_reducible refine wpList_indexW0 (i := 0) rfl rfl rfl rfl Try.underlying133 uinfoRingI (by decide) ?_) | ((with_reducible refine at_load rfl ?_); first | (with_reducible refine wpList_loadGP F rfl rfl rfl m0 Try.underlying25 rfl [s, .int .i64 j] (rngAt0 _ _ _ _) uinfoRingI rfl ?_) | (with_reducible refine wpList_loadG F rfl rfl rfl m0 Try.underlying25 rfl uinfoRingI rfl ?_)) | ((with_reducible refine at_store rfl ?_); (refine wpList_storeG F rfl rfl rfl rfl rfl uinfoRingI rfl (by (simp only [List.all_toArray', List.all_cons, List.all_nil, Bool.and_true, Bool.true_and, SO0.out]) <;> rfl) ?_; clear F; intro W F zW; clear zW)) | (go_at_call 136; ((with_reducible refine (HX.out _ F.below).mono ?_); rintro e w1 ⟨rfl, hl⟩; replace F := F.le hl; clear hl)))
            go_ret
            exact ⟨ret_b (by simp), F.below⟩
          · have hk2 := hid hk
            unfold rngB at hk
            rw [hk] at HX
            clear hk
            go_wp2_with (first | ((with_reducible refine listN F ?_); clear F; intro wN F) | (with_reducible refine wpList_indexW0 (i := 0) rfl rfl rfl rfl Try.underlying133 uinfoRingI (by decide) ?_) | ((with_reducible refine at_load rfl ?_); first | (with_reducible refine wpList_loadGP F rfl rfl rfl m0 Try.underlying25 rfl [s, .int .i64 j] (rngAt0 _ _ _ _) uinfoRingI rfl ?_) | (with_reducible refine wpList_loadG F rfl rfl rfl m0 Try.underlying25 rfl uinfoRingI rfl ?_)) | ((with_reducible refine at_store rfl ?_); (refine wpList_storeG F rfl rfl rfl rfl rfl uinfoRingI rfl (by (simp only [List.all_toArray', List.all_cons, List.all_nil, Bool.and_true, Bool.true_and, SO0.out]) <;> rfl) ?_; clear F; intro W F zW; clear zW)) | (go_at_call 136; ((with_reducible refine (HX.out _ F.below).mono ?_); rintro e w1 ⟨rfl, hl⟩; replace F := F.le hl; clear hl)))
            go_roundw
            case rel => exact ⟨1, by omega, by go_num, ⟨fun _ => trivial, fun h => absurd h (by omega)⟩, F.sub (by simp)⟩
            case measure => simp [intOf]
        | 1, _ =>
          have F := HF1.out
          cases hk : rngB y ny k
          · have hk2 : rngB y ny k = false := hk
            unfold rngB at hk
            rw [hk] at HY
            obtain ⟨hq0, hq1⟩ := HQ.out
            obtain ⟨hp0, hp1⟩ := HP.out
            clear hk hk2 hq0 hq1 hp0 hp1
            go_wp2_with (first | ((with_reducible refine listN F ?_); clear F; intro wN F) | (with_reducible refine wpList_indexW0 (i := 1) rfl rfl rfl rfl Try.underlying133 uinfoRingI (by decide) ?_) | ((with_reducible refine at_load rfl ?_); first | (with_reducible refine wpList_loadGP F rfl rfl rfl m0 Try.underlying25 rfl [t, .int .i64 k] (rngAt1 _ _ _ _) uinfoRingI rfl ?_) | (with_reducible refine wpList_loadG F rfl rfl rfl m0 Try.underlying25 rfl uinfoRingI rfl ?_)) | ((with_reducible refine at_store rfl ?_); (refine wpList_storeG F rfl rfl rfl rfl rfl uinfoRingI rfl (by (simp only [List.all_toArray', List.all_cons, List.all_nil, Bool.and_true, Bool.true_and, SO1.out]) <;> rfl) ?_; clear F; intro W F zW; clear zW)) | (go_at_call 136; ((with_reducible refine (HY.out _ F.below).mono ?_); rintro e w1 ⟨rfl, hl⟩; replace F := F.le hl; clear hl)))
            go_ret
            exact ⟨ret_b (by simp), F.below⟩
          · have hk2 := hid hk
            unfold rngB at hk
            rw [hk] at HY
            clear hk
            go_wp2_with (first | ((with_reducible refine listN F ?_); clear F; intro wN F) | (with_reducible refine wpList_indexW0 (i := 1) rfl rfl rfl rfl Try.underlying133 uinfoRingI (by decide) ?_) | ((with_reducible refine at_load rfl ?_); first | (with_reducible refine wpList_loadGP F rfl rfl rfl m0 Try.underlying25 rfl [t, .int .i64 k] (rngAt1 _ _ _ _) uinfoRingI rfl ?_) | (with_reducible refine wpList_loadG F rfl rfl rfl m0 Try.underlying25 rfl uinfoRingI rfl ?_)) | ((with_reducible refine at_store rfl ?_); (refine wpList_storeG F rfl rfl rfl rfl rfl uinfoRingI rfl (by (simp only [List.all_toArray', List.all_cons, List.all_nil, Bool.and_true, Bool.true_and, SO1.out]) <;> rfl) ?_; clear F; intro W F zW; clear zW)) | (go_at_call 136; ((with_reducible refine (HY.out _ F.below).mono ?_); rintro e w1 ⟨rfl, hl⟩; replace F := F.le hl; clear hl)))
            go_roundw
            case rel => exact ⟨2, by omega, by go_num, ⟨fun _ => HQ.out.1 (by omega), fun _ => trivial⟩, F.sub (by simp)⟩
            case measure => simp [intOf]
        | 2, _ =>
          have F := HF1.out
          obtain ⟨hq0, hq1⟩ := HQ.out
          obtain ⟨hp0, hp1⟩ := HP.out
          have E := hid (show ((fk == 1) && okF fk a b c p q && (gk == 5) && okF gk a2 b2 c2 p2 q2 && rngB x nx j && rngB y ny k && finB (two m o) 2) = finB (two m o) 2 by simp [(hp0 (by omega)).1, (hp0 (by omega)).2, (hp1 (by omega)).1, (hp1 (by omega)).2, hq0 (by omega), hq1 (by omega)])
          clear hq0 hq1 hp0 hp1
          go_wp2_with (first | (go_at_call 176; ((with_reducible refine (HM.out _).mono ?_); rintro e w3 ⟨gM, rfl, hgM, hrM, hlM⟩; replace F := F.rowS hlM hgM hrM; clear hgM hrM hlM)) | (go_at_call 137; ((with_reducible refine (HN.out _ _ (F.row m0)).mono ?_); rintro e w1 ⟨rfl, rfl⟩)))
          go_ret
          exact ⟨ret_b E.out.symm, F.below⟩
set_option maxRecDepth 100000 in
set_option maxHeartbeats 4000000 in
theorem i_ValidJet (x y : Nat → Nat) (nx ny : Nat) (j k : Int) (fk : Int) (a b c p q : Nat) (gk : Int) (a2 b2 c2 p2 q2 : Nat) (m o : Nat) (B : Nat) (s t : Value) (w : World) (hs : (slT x nx).RdN w B s) (ht : (slT y ny).RdN w B t) (wf : (Lit.int .i64 j).wf = true ∧ (Lit.int .i64 k).wf = true) (hf : (fits .f32 a ∧ fits .f32 b ∧ fits .f32 c ∧ fits .f32 p ∧ fits .f32 q ∧ fits .f32 a2 ∧ fits .f32 b2 ∧ fits .f32 c2 ∧ fits .f32 p2 ∧ fits .f32 q2 ∧ fits .f32 m ∧ fits .f32 o)) :
    Calls Try.prog 97 #[.agg #[s, .int .i64 j, t, .int .i64 k, .int .i64 fk, .float .f32 a, .float .f32 b, .float .f32 c, .float .f32 p, .float .f32 q, .int .i64 gk, .float .f32 a2, .float .f32 b2, .float .f32 c2, .float .f32 p2, .float .f32 q2, .float .f32 m, .float .f32 o]] w (Out_b (okJet x y nx ny j k fk a b c p q gk a2 b2 c2 p2 q2 m o) w) := by
  have HV := hid (fun (w' : World) (hl : le w w') => i_validPartsJet x y nx ny j k fk a b c p q gk a2 b2 c2 p2 q2 m o B s t w' (hs.le hl) (ht.le hl) wf hf)
  have F := (Frg.nil w).box 67 #[s, .int .i64 j, t, .int .i64 k, .int .i64 fk, .float .f32 a, .float .f32 b, .float .f32 c, .float .f32 p, .float .f32 q, .int .i64 gk, .float .f32 a2, .float .f32 b2, .float .f32 c2, .float .f32 p2, .float .f32 q2, .float .f32 m, .float .f32 o]
  clear hs ht wf hf
  go_enter Try.func97, Try.ntmps97
  go_wp2_with (first | ((with_reducible refine at_loadU rfl rfl ?_); (with_reducible refine wpList_loadG F rfl rfl rfl m0 Try.underlying67 rfl uinfoJetI rfl ?_)) | (go_at_call 114; ((with_reducible refine (HV.out _ F.below).mono ?_); rintro e w1 ⟨rfl, hl⟩; replace F := F.le hl; clear hl)))
  go_ret
  exact ⟨rfl, F.below⟩
set_option maxRecDepth 100000 in
set_option maxHeartbeats 4000000 in
theorem s_l05Jet (x y : Nat → Nat) (nx ny : Nat) (j k : Int) (fk : Int) (a b c p q : Nat) (gk : Int) (a2 b2 c2 p2 q2 : Nat) (m o : Nat) (B : Nat) (s t : Value) (w : World) (g0 : Nat) (RR : Row w g0 67 #[s, .int .i64 j, t, .int .i64 k, .int .i64 fk, .float .f32 a, .float .f32 b, .float .f32 c, .float .f32 p, .float .f32 q, .int .i64 gk, .float .f32 a2, .float .f32 b2, .float .f32 c2, .float .f32 p2, .float .f32 q2, .float .f32 m, .float .f32 o]) (hs : (slT x nx).RdN w B s) (ht : (slT y ny).RdN w B t) (wf : (Lit.int .i64 j).wf = true ∧ (Lit.int .i64 k).wf = true) (hf : (fits .f32 a ∧ fits .f32 b ∧ fits .f32 c ∧ fits .f32 p ∧ fits .f32 q ∧ fits .f32 a2 ∧ fits .f32 b2 ∧ fits .f32 c2 ∧ fits .f32 p2 ∧ fits .f32 q2 ∧ fits .f32 m ∧ fits .f32 o)) :
    Calls Try.prog 94 #[.pointer (some ⟨g0, 0, none⟩)] w (Out_b (okJet x y nx ny j k fk a b c p q gk a2 b2 c2 p2 q2 m o) w) := by
  obtain ⟨fa, fb, fc, fp, fq, fa2, fb2, fc2, fp2, fq2, fm, fo⟩ := hf
  obtain ⟨wj, wk⟩ := wf
  have hRw := hid (fun (w1 : World) (h1 : le w w1) => RR.le h1)
  have HRD := hid (fun (b : Nat) (w1 : World) (h1 : le w w1) (R : Row w1 b 25 #[s, .int .i64 j, t, .int .i64 k]) => rg2_rd (hs.le h1) (ht.le h1) wj wk R)
  have HN := hid (fun (b : Nat) (w' : World) (R : Row w' b 22 #[.float .f32 m, .float .f32 o]) => s_l04All (b + 1) (.slice (some ⟨b, 0, none⟩) 2 2) (two m o) 2 w' (two_rd fm fo R))
  have HO0 := hid (fun (w' : World) (hl : le w w') => s_OkAt fk a b c p q g0 4 w' ⟨(hRw.out w' hl).cell? 4, fun i hi => by match i, hi with | 0, _ => exact (hRw.out w' hl).cell? 5 | 1, _ => exact (hRw.out w' hl).cell? 6 | 2, _ => exact (hRw.out w' hl).cell? 7, fun i hi => by match i, hi with | 0, _ => exact (hRw.out w' hl).cell? 8 | 1, _ => exact (hRw.out w' hl).cell? 9⟩)
  have HO1 := hid (fun (w' : World) (hl : le w w') => s_OkAt gk a2 b2 c2 p2 q2 g0 10 w' ⟨(hRw.out w' hl).cell? 10, fun i hi => by match i, hi with | 0, _ => exact (hRw.out w' hl).cell? 11 | 1, _ => exact (hRw.out w' hl).cell? 12 | 2, _ => exact (hRw.out w' hl).cell? 13, fun i hi => by match i, hi with | 0, _ => exact (hRw.out w' hl).cell? 14 | 1, _ => exact (hRw.out w' hl).cell? 15⟩)
  clear hs ht wj wk RR fa fb fc fp fq fa2 fb2 fc2 fp2 fq2 fm fo
  change Calls _ _ _ _ (Out_b ((fk == 1) && okF fk a b c p q && (gk == 5) && okF gk a2 b2 c2 p2 q2 && rngB x nx j && rngB y ny k && fin m && fin o) w)
  rw [show ((fk == 1) && okF fk a b c p q && (gk == 5) && okF gk a2 b2 c2 p2 q2 && rngB x nx j && rngB y ny k && fin m && fin o) = ((fk == 1) && okF fk a b c p q && (gk == 5) && okF gk a2 b2 c2 p2 q2 && rngB x nx j && rngB y ny k && finB (two m o) 2) by rw [fin_two, ← Bool.and_assoc]]
  rcases bool_ft ((rngB x nx j && rngB y ny k)) with h0 | h0
  · have hc0 := hid h0
    have E := hid (show ((fk == 1) && okF fk a b c p q && (gk == 5) && okF gk a2 b2 c2 p2 q2 && rngB x nx j && rngB y ny k && finB (two m o) 2) = false by have h0' := h0; simp only [Bool.and_eq_false_iff] at h0'; rcases h0' with h | h <;> simp [h])
    clear h0
    go_enter Try.func94, Try.ntmps94
    go_wp2_with fail
    refine region_freeD (E := leX) (fun f args _ v => if f = 107 then v = .bool false else if f = 108 then (args = #[.pointer (some ⟨g0, 4, none⟩)] → v = .bool false) ∧ (args = #[.pointer (some ⟨g0, 10, none⟩)] → v = .bool false) else v = .bool (finB (two m o) 2)) (by kernel_rfl) (by kernel_rfl) ?_
    refine wpFreeD_one rfl (.pointer (some ⟨g0, 0, none⟩)) (fun w1 _ => by kernel_rfl) ?_
    simp only [Act.put, List.setIfInBounds_toArray, List.set_cons_succ, List.set_cons_zero]
    refine wpFreeD_one rfl (.pointer (some ⟨g0, 0, none⟩)) (fun w1 _ => by kernel_rfl) ?_
    simp only [Act.put, List.setIfInBounds_toArray, List.set_cons_succ, List.set_cons_zero]
    refine wpFreeD_one rfl (.pointer (some ⟨g0, 0, none⟩)) (fun w1 _ => by kernel_rfl) ?_
    simp only [Act.put, List.setIfInBounds_toArray, List.set_cons_succ, List.set_cons_zero]
    refine wpFreeD_loadW rfl rfl rfl [s, .int .i64 j] (fun w1 h1 => Row.at_part (hRw.out w1 (le_trans (le_drewN _ _) h1)) (partJet_Throat (s) (.int .i64 j) (t) (.int .i64 k) (.int .i64 fk) (.float .f32 a) (.float .f32 b) (.float .f32 c) (.float .f32 p) (.float .f32 q) (.int .i64 gk) (.float .f32 a2) (.float .f32 b2) (.float .f32 c2) (.float .f32 p2) (.float .f32 q2) (.float .f32 m) (.float .f32 o))) Try.underlying25 rfl uinfoRingI rfl ?_
    simp only [Act.put, List.setIfInBounds_toArray, List.set_cons_succ, List.set_cons_zero]
    refine wpFreeD_one rfl (.pointer (some ⟨g0, 0, none⟩)) (fun w1 _ => by kernel_rfl) ?_
    simp only [Act.put, List.setIfInBounds_toArray, List.set_cons_succ, List.set_cons_zero]
    refine wpFreeD_one rfl (.pointer (some ⟨g0, 0, none⟩)) (fun w1 _ => by kernel_rfl) ?_
    simp only [Act.put, List.setIfInBounds_toArray, List.set_cons_succ, List.set_cons_zero]
    refine wpFreeD_one rfl (.pointer (some ⟨g0, 2, none⟩)) (fun w1 _ => by kernel_rfl) ?_
    simp only [Act.put, List.setIfInBounds_toArray, List.set_cons_succ, List.set_cons_zero]
    refine wpFreeD_loadW rfl rfl rfl [t, .int .i64 k] (fun w1 h1 => Row.at_part (hRw.out w1 (le_trans (le_drewN _ _) h1)) (partJet_Bore (s) (.int .i64 j) (t) (.int .i64 k) (.int .i64 fk) (.float .f32 a) (.float .f32 b) (.float .f32 c) (.float .f32 p) (.float .f32 q) (.int .i64 gk) (.float .f32 a2) (.float .f32 b2) (.float .f32 c2) (.float .f32 p2) (.float .f32 q2) (.float .f32 m) (.float .f32 o))) Try.underlying25 rfl uinfoRingI rfl ?_
    simp only [Act.put, List.setIfInBounds_toArray, List.set_cons_succ, List.set_cons_zero]
    refine wpFreeD_madeW (by kernel_rfl) (fun b => .slice (some ⟨b, 0, none⟩) 2 2) 25 #[s, .int .i64 j, t, .int .i64 k] (fun w1 => by kernel_rfl) (fun bR => ?_)
    simp only [Act.put, List.setIfInBounds_toArray, List.set_cons_succ, List.set_cons_zero]
    refine wpFreeD_callW (by kernel_rfl) rfl Try.func107 (by kernel_rfl) (by kernel_rfl) (args := #[.slice (some ⟨bR, 0, none⟩) 2 2]) (by simp [Act.eval]) (fun v w1 w2 hw hv => hv) (fun w1 hw1 hbe => ?_) ?_
    · obtain ⟨b', e1, hrow⟩ := (hbe ⟨8, Ground.data⟩ (by simp) (by kernel_rfl)).2 rfl
      obtain rfl : bR = b' := by simpa using e1
      refine (s_l04Rings _ _ _ _ w1 (HRD.out bR w1 (le_trans (le_drewN _ _) hw1) hrow) (rg2_ok _ _ _ _ _ _)).mono ?_
      rintro e w2 ⟨rfl, q, rfl⟩
      exact ⟨_, rfl, le_drewN _ _, by simp only [if_true]; rw [rg2_all, hc0.out]⟩
    rintro v ⟨_, _, _, hv⟩
    simp only [if_true] at hv
    subst hv
    simp only [Act.put, List.setIfInBounds_toArray, List.set_cons_succ, List.set_cons_zero]
    refine wpFreeD_one rfl (.bool false) (fun w1 _ => by kernel_rfl) ?_
    simp only [Act.put, List.setIfInBounds_toArray, List.set_cons_succ, List.set_cons_zero]
    refine wpFreeD_skip (by kernel_rfl) ?_
    simp only [Act.put, List.setIfInBounds_toArray, List.set_cons_succ, List.set_cons_zero]
    refine wpFreeD_skip (by kernel_rfl) ?_
    simp only [Act.put, List.setIfInBounds_toArray, List.set_cons_succ, List.set_cons_zero]
    refine wpFreeD_skip (by kernel_rfl) ?_
    simp only [Act.put, List.setIfInBounds_toArray, List.set_cons_succ, List.set_cons_zero]
    refine wpFreeD_skip (by kernel_rfl) ?_
    simp only [Act.put, List.setIfInBounds_toArray, List.set_cons_succ, List.set_cons_zero]
    refine wpFreeD_one rfl (.bool false) (fun w1 _ => by kernel_rfl) ?_
    simp only [Act.put, List.setIfInBounds_toArray, List.set_cons_succ, List.set_cons_zero]
    refine wpFreeD_one rfl (.bool false) (fun w1 _ => by kernel_rfl) ?_
    simp only [Act.put, List.setIfInBounds_toArray, List.set_cons_succ, List.set_cons_zero]
    refine wpFreeD_skip (by kernel_rfl) ?_
    simp only [Act.put, List.setIfInBounds_toArray, List.set_cons_succ, List.set_cons_zero]
    refine wpFreeD_skip (by kernel_rfl) ?_
    simp only [Act.put, List.setIfInBounds_toArray, List.set_cons_succ, List.set_cons_zero]
    refine wpFreeD_skip (by kernel_rfl) ?_
    simp only [Act.put, List.setIfInBounds_toArray, List.set_cons_succ, List.set_cons_zero]
    refine wpFreeD_skip (by kernel_rfl) ?_
    simp only [Act.put, List.setIfInBounds_toArray, List.set_cons_succ, List.set_cons_zero]
    refine wpFreeD_skip (by kernel_rfl) ?_
    simp only [Act.put, List.setIfInBounds_toArray, List.set_cons_succ, List.set_cons_zero]
    refine wpFreeD_skip (by kernel_rfl) ?_
    simp only [Act.put, List.setIfInBounds_toArray, List.set_cons_succ, List.set_cons_zero]
    refine wpFreeD_one rfl (.bool false) (fun w1 _ => by kernel_rfl) ?_
    simp only [Act.put, List.setIfInBounds_toArray, List.set_cons_succ, List.set_cons_zero]
    refine wpFreeD_one rfl (.bool false) (fun w1 _ => by kernel_rfl) ?_
    simp only [Act.put, List.setIfInBounds_toArray, List.set_cons_succ, List.set_cons_zero]
    refine wpFreeD_skip (by kernel_rfl) ?_
    simp only [Act.put, List.setIfInBounds_toArray, List.set_cons_succ, List.set_cons_zero]
    refine wpFreeD_skip (by kernel_rfl) ?_
    simp only [Act.put, List.setIfInBounds_toArray, List.set_cons_succ, List.set_cons_zero]
    refine wpFreeD_skip (by kernel_rfl) ?_
    simp only [Act.put, List.setIfInBounds_toArray, List.set_cons_succ, List.set_cons_zero]
    refine wpFreeD_skip (by kernel_rfl) ?_
    simp only [Act.put, List.setIfInBounds_toArray, List.set_cons_succ, List.set_cons_zero]
    refine wpFreeD_one rfl (.bool false) (fun w1 _ => by kernel_rfl) ?_
    simp only [Act.put, List.setIfInBounds_toArray, List.set_cons_succ, List.set_cons_zero]
    refine wpFreeD_one rfl (.bool false) (fun w1 _ => by kernel_rfl) ?_
    simp only [Act.put, List.setIfInBounds_toArray, List.set_cons_succ, List.set_cons_zero]
    refine wpFreeD_skip (by kernel_rfl) ?_
    simp only [Act.put, List.setIfInBounds_toArray, List.set_cons_succ, List.set_cons_zero]
    refine wpFreeD_skip (by kernel_rfl) ?_
    simp only [Act.put, List.setIfInBounds_toArray, List.set_cons_succ, List.set_cons_zero]
    refine wpFreeD_skip (by kernel_rfl) ?_
    simp only [Act.put, List.setIfInBounds_toArray, List.set_cons_succ, List.set_cons_zero]
    refine wpFreeD_skip (by kernel_rfl) ?_
    simp only [Act.put, List.setIfInBounds_toArray, List.set_cons_succ, List.set_cons_zero]
    refine wpFreeD_skip (by kernel_rfl) ?_
    simp only [Act.put, List.setIfInBounds_toArray, List.set_cons_succ, List.set_cons_zero]
    refine wpFreeD_skip (by kernel_rfl) ?_
    simp only [Act.put, List.setIfInBounds_toArray, List.set_cons_succ, List.set_cons_zero]
    refine wpFreeD_one rfl (.bool false) (fun w1 _ => by kernel_rfl) ?_
    simp only [Act.put, List.setIfInBounds_toArray, List.set_cons_succ, List.set_cons_zero]
    refine wpFreeD_one rfl (.bool false) (fun w1 _ => by kernel_rfl) ?_
    simp only [Act.put, List.setIfInBounds_toArray, List.set_cons_succ, List.set_cons_zero]
    refine wpFreeD_skip (by kernel_rfl) ?_
    simp only [Act.put, List.setIfInBounds_toArray, List.set_cons_succ, List.set_cons_zero]
    refine wpFreeD_skip (by kernel_rfl) ?_
    simp only [Act.put, List.setIfInBounds_toArray, List.set_cons_succ, List.set_cons_zero]
    refine wpFreeD_skip (by kernel_rfl) ?_
    simp only [Act.put, List.setIfInBounds_toArray, List.set_cons_succ, List.set_cons_zero]
    refine wpFreeD_skip (by kernel_rfl) ?_
    simp only [Act.put, List.setIfInBounds_toArray, List.set_cons_succ, List.set_cons_zero]
    refine wpFreeD_skip (by kernel_rfl) ?_
    simp only [Act.put, List.setIfInBounds_toArray, List.set_cons_succ, List.set_cons_zero]
    refine wpFreeD_skip (by kernel_rfl) ?_
    simp only [Act.put, List.setIfInBounds_toArray, List.set_cons_succ, List.set_cons_zero]
    refine wpFreeD_skip (by kernel_rfl) ?_
    simp only [Act.put, List.setIfInBounds_toArray, List.set_cons_succ, List.set_cons_zero]
    refine wpFreeD_skip (by kernel_rfl) ?_
    simp only [Act.put, List.setIfInBounds_toArray, List.set_cons_succ, List.set_cons_zero]
    refine wpFreeD_skip (by kernel_rfl) ?_
    simp only [Act.put, List.setIfInBounds_toArray, List.set_cons_succ, List.set_cons_zero]
    refine wpFreeD_skip (by kernel_rfl) ?_
    simp only [Act.put, List.setIfInBounds_toArray, List.set_cons_succ, List.set_cons_zero]
    refine wpFreeD_one rfl (.bool false) (fun w1 _ => by kernel_rfl) ?_
    simp only [Act.put, List.setIfInBounds_toArray, List.set_cons_succ, List.set_cons_zero]
    refine wpFreeD_one rfl (.bool false) (fun w1 _ => by kernel_rfl) ?_
    simp only [Act.put, List.setIfInBounds_toArray, List.set_cons_succ, List.set_cons_zero]
    refine wpFreeD_nil (fun wR hwR _ => ?_)
    have HL := hid (le_trans (le_drewN _ _) hwR)
    clear hwR
    go_wp2
    go_ret
    exact ⟨ret_b E.out.symm, HL.out⟩
  · have hc0 := hid h0; clear h0
    rcases bool_ft (okF fk a b c p q) with h1 | h1
    · have hc1 := hid h1
      have E := hid (show ((fk == 1) && okF fk a b c p q && (gk == 5) && okF gk a2 b2 c2 p2 q2 && rngB x nx j && rngB y ny k && finB (two m o) 2) = false by simp [h1])
      clear h1
      go_enter Try.func94, Try.ntmps94
      go_wp2_with fail
      refine region_freeD (E := leX) (fun f args _ v => if f = 107 then v = .bool true else if f = 108 then (args = #[.pointer (some ⟨g0, 4, none⟩)] → v = .bool false) ∧ (args = #[.pointer (some ⟨g0, 10, none⟩)] → v = .bool false) else v = .bool (finB (two m o) 2)) (by kernel_rfl) (by kernel_rfl) ?_
      refine wpFreeD_one rfl (.pointer (some ⟨g0, 0, none⟩)) (fun w1 _ => by kernel_rfl) ?_
      simp only [Act.put, List.setIfInBounds_toArray, List.set_cons_succ, List.set_cons_zero]
      refine wpFreeD_one rfl (.pointer (some ⟨g0, 0, none⟩)) (fun w1 _ => by kernel_rfl) ?_
      simp only [Act.put, List.setIfInBounds_toArray, List.set_cons_succ, List.set_cons_zero]
      refine wpFreeD_one rfl (.pointer (some ⟨g0, 0, none⟩)) (fun w1 _ => by kernel_rfl) ?_
      simp only [Act.put, List.setIfInBounds_toArray, List.set_cons_succ, List.set_cons_zero]
      refine wpFreeD_loadW rfl rfl rfl [s, .int .i64 j] (fun w1 h1 => Row.at_part (hRw.out w1 (le_trans (le_drewN _ _) h1)) (partJet_Throat (s) (.int .i64 j) (t) (.int .i64 k) (.int .i64 fk) (.float .f32 a) (.float .f32 b) (.float .f32 c) (.float .f32 p) (.float .f32 q) (.int .i64 gk) (.float .f32 a2) (.float .f32 b2) (.float .f32 c2) (.float .f32 p2) (.float .f32 q2) (.float .f32 m) (.float .f32 o))) Try.underlying25 rfl uinfoRingI rfl ?_
      simp only [Act.put, List.setIfInBounds_toArray, List.set_cons_succ, List.set_cons_zero]
      refine wpFreeD_one rfl (.pointer (some ⟨g0, 0, none⟩)) (fun w1 _ => by kernel_rfl) ?_
      simp only [Act.put, List.setIfInBounds_toArray, List.set_cons_succ, List.set_cons_zero]
      refine wpFreeD_one rfl (.pointer (some ⟨g0, 0, none⟩)) (fun w1 _ => by kernel_rfl) ?_
      simp only [Act.put, List.setIfInBounds_toArray, List.set_cons_succ, List.set_cons_zero]
      refine wpFreeD_one rfl (.pointer (some ⟨g0, 2, none⟩)) (fun w1 _ => by kernel_rfl) ?_
      simp only [Act.put, List.setIfInBounds_toArray, List.set_cons_succ, List.set_cons_zero]
      refine wpFreeD_loadW rfl rfl rfl [t, .int .i64 k] (fun w1 h1 => Row.at_part (hRw.out w1 (le_trans (le_drewN _ _) h1)) (partJet_Bore (s) (.int .i64 j) (t) (.int .i64 k) (.int .i64 fk) (.float .f32 a) (.float .f32 b) (.float .f32 c) (.float .f32 p) (.float .f32 q) (.int .i64 gk) (.float .f32 a2) (.float .f32 b2) (.float .f32 c2) (.float .f32 p2) (.float .f32 q2) (.float .f32 m) (.float .f32 o))) Try.underlying25 rfl uinfoRingI rfl ?_
      simp only [Act.put, List.setIfInBounds_toArray, List.set_cons_succ, List.set_cons_zero]
      refine wpFreeD_madeW (by kernel_rfl) (fun b => .slice (some ⟨b, 0, none⟩) 2 2) 25 #[s, .int .i64 j, t, .int .i64 k] (fun w1 => by kernel_rfl) (fun bR => ?_)
      simp only [Act.put, List.setIfInBounds_toArray, List.set_cons_succ, List.set_cons_zero]
      refine wpFreeD_callW (by kernel_rfl) rfl Try.func107 (by kernel_rfl) (by kernel_rfl) (args := #[.slice (some ⟨bR, 0, none⟩) 2 2]) (by simp [Act.eval]) (fun v w1 w2 hw hv => hv) (fun w1 hw1 hbe => ?_) ?_
      · obtain ⟨b', e1, hrow⟩ := (hbe ⟨8, Ground.data⟩ (by simp) (by kernel_rfl)).2 rfl
        obtain rfl : bR = b' := by simpa using e1
        refine (s_l04Rings _ _ _ _ w1 (HRD.out bR w1 (le_trans (le_drewN _ _) hw1) hrow) (rg2_ok _ _ _ _ _ _)).mono ?_
        rintro e w2 ⟨rfl, q, rfl⟩
        exact ⟨_, rfl, le_drewN _ _, by simp only [if_true]; rw [rg2_all, hc0.out]⟩
      rintro v ⟨_, _, _, hv⟩
      simp only [if_true] at hv
      subst hv
      simp only [Act.put, List.setIfInBounds_toArray, List.set_cons_succ, List.set_cons_zero]
      refine wpFreeD_one rfl (.bool true) (fun w1 _ => by kernel_rfl) ?_
      simp only [Act.put, List.setIfInBounds_toArray, List.set_cons_succ, List.set_cons_zero]
      refine wpFreeD_oneW (by kernel_rfl) (.pointer (some ⟨g0, 0, none⟩)) (fun w1 _ => by kernel_rfl) ?_
      simp only [Act.put, List.setIfInBounds_toArray, List.set_cons_succ, List.set_cons_zero]
      refine wpFreeD_oneW (by kernel_rfl) (.pointer (some ⟨g0, 0, none⟩)) (fun w1 _ => by kernel_rfl) ?_
      simp only [Act.put, List.setIfInBounds_toArray, List.set_cons_succ, List.set_cons_zero]
      refine wpFreeD_oneW (by kernel_rfl) (.pointer (some ⟨g0, 4, none⟩)) (fun w1 _ => by kernel_rfl) ?_
      simp only [Act.put, List.setIfInBounds_toArray, List.set_cons_succ, List.set_cons_zero]
      refine wpFreeD_callW (by kernel_rfl) rfl Try.func108 (by kernel_rfl) (by kernel_rfl) (args := #[.pointer (some ⟨g0, 4, none⟩)]) (by simp [Act.eval]) (fun v w1 w2 hw hv => hv) (fun w1 hw1 _ => (HO0.out w1 (le_trans (le_drewN _ _) hw1)).mono ?_) ?_
      · rintro e w2 ⟨rfl, q, rfl⟩
        exact ⟨_, rfl, le_drewN _ _, by simp only [show ¬ (108 = 107) by decide, if_false, if_true]; simp [hc1.out]⟩
      rintro v ⟨_, _, _, hv⟩
      simp only [show ¬ (108 = 107) by decide, if_false, if_true] at hv
      obtain rfl := hv.1 (by first | rfl | trivial)
      simp only [Act.put, List.setIfInBounds_toArray, List.set_cons_succ, List.set_cons_zero]
      refine wpFreeD_one rfl (.bool false) (fun w1 _ => by kernel_rfl) ?_
      simp only [Act.put, List.setIfInBounds_toArray, List.set_cons_succ, List.set_cons_zero]
      refine wpFreeD_one rfl (.bool false) (fun w1 _ => by kernel_rfl) ?_
      simp only [Act.put, List.setIfInBounds_toArray, List.set_cons_succ, List.set_cons_zero]
      refine wpFreeD_skip (by kernel_rfl) ?_
      simp only [Act.put, List.setIfInBounds_toArray, List.set_cons_succ, List.set_cons_zero]
      refine wpFreeD_skip (by kernel_rfl) ?_
      simp only [Act.put, List.setIfInBounds_toArray, List.set_cons_succ, List.set_cons_zero]
      refine wpFreeD_skip (by kernel_rfl) ?_
      simp only [Act.put, List.setIfInBounds_toArray, List.set_cons_succ, List.set_cons_zero]
      refine wpFreeD_skip (by kernel_rfl) ?_
      simp only [Act.put, List.setIfInBounds_toArray, List.set_cons_succ, List.set_cons_zero]
      refine wpFreeD_skip (by kernel_rfl) ?_
      simp only [Act.put, List.setIfInBounds_toArray, List.set_cons_succ, List.set_cons_zero]
      refine wpFreeD_skip (by kernel_rfl) ?_
      simp only [Act.put, List.setIfInBounds_toArray, List.set_cons_succ, List.set_cons_zero]
      refine wpFreeD_one rfl (.bool false) (fun w1 _ => by kernel_rfl) ?_
      simp only [Act.put, List.setIfInBounds_toArray, List.set_cons_succ, List.set_cons_zero]
      refine wpFreeD_one rfl (.bool false) (fun w1 _ => by kernel_rfl) ?_
      simp only [Act.put, List.setIfInBounds_toArray, List.set_cons_succ, List.set_cons_zero]
      refine wpFreeD_skip (by kernel_rfl) ?_
      simp only [Act.put, List.setIfInBounds_toArray, List.set_cons_succ, List.set_cons_zero]
      refine wpFreeD_skip (by kernel_rfl) ?_
      simp only [Act.put, List.setIfInBounds_toArray, List.set_cons_succ, List.set_cons_zero]
      refine wpFreeD_skip (by kernel_rfl) ?_
      simp only [Act.put, List.setIfInBounds_toArray, List.set_cons_succ, List.set_cons_zero]
      refine wpFreeD_skip (by kernel_rfl) ?_
      simp only [Act.put, List.setIfInBounds_toArray, List.set_cons_succ, List.set_cons_zero]
      refine wpFreeD_one rfl (.bool false) (fun w1 _ => by kernel_rfl) ?_
      simp only [Act.put, List.setIfInBounds_toArray, List.set_cons_succ, List.set_cons_zero]
      refine wpFreeD_one rfl (.bool false) (fun w1 _ => by kernel_rfl) ?_
      simp only [Act.put, List.setIfInBounds_toArray, List.set_cons_succ, List.set_cons_zero]
      refine wpFreeD_skip (by kernel_rfl) ?_
      simp only [Act.put, List.setIfInBounds_toArray, List.set_cons_succ, List.set_cons_zero]
      refine wpFreeD_skip (by kernel_rfl) ?_
      simp only [Act.put, List.setIfInBounds_toArray, List.set_cons_succ, List.set_cons_zero]
      refine wpFreeD_skip (by kernel_rfl) ?_
      simp only [Act.put, List.setIfInBounds_toArray, List.set_cons_succ, List.set_cons_zero]
      refine wpFreeD_skip (by kernel_rfl) ?_
      simp only [Act.put, List.setIfInBounds_toArray, List.set_cons_succ, List.set_cons_zero]
      refine wpFreeD_skip (by kernel_rfl) ?_
      simp only [Act.put, List.setIfInBounds_toArray, List.set_cons_succ, List.set_cons_zero]
      refine wpFreeD_skip (by kernel_rfl) ?_
      simp only [Act.put, List.setIfInBounds_toArray, List.set_cons_succ, List.set_cons_zero]
      refine wpFreeD_one rfl (.bool false) (fun w1 _ => by kernel_rfl) ?_
      simp only [Act.put, List.setIfInBounds_toArray, List.set_cons_succ, List.set_cons_zero]
      refine wpFreeD_one rfl (.bool false) (fun w1 _ => by kernel_rfl) ?_
      simp only [Act.put, List.setIfInBounds_toArray, List.set_cons_succ, List.set_cons_zero]
      refine wpFreeD_skip (by kernel_rfl) ?_
      simp only [Act.put, List.setIfInBounds_toArray, List.set_cons_succ, List.set_cons_zero]
      refine wpFreeD_skip (by kernel_rfl) ?_
      simp only [Act.put, List.setIfInBounds_toArray, List.set_cons_succ, List.set_cons_zero]
      refine wpFreeD_skip (by kernel_rfl) ?_
      simp only [Act.put, List.setIfInBounds_toArray, List.set_cons_succ, List.set_cons_zero]
      refine wpFreeD_skip (by kernel_rfl) ?_
      simp only [Act.put, List.setIfInBounds_toArray, List.set_cons_succ, List.set_cons_zero]
      refine wpFreeD_skip (by kernel_rfl) ?_
      simp only [Act.put, List.setIfInBounds_toArray, List.set_cons_succ, List.set_cons_zero]
      refine wpFreeD_skip (by kernel_rfl) ?_
      simp only [Act.put, List.setIfInBounds_toArray, List.set_cons_succ, List.set_cons_zero]
      refine wpFreeD_skip (by kernel_rfl) ?_
      simp only [Act.put, List.setIfInBounds_toArray, List.set_cons_succ, List.set_cons_zero]
      refine wpFreeD_skip (by kernel_rfl) ?_
      simp only [Act.put, List.setIfInBounds_toArray, List.set_cons_succ, List.set_cons_zero]
      refine wpFreeD_skip (by kernel_rfl) ?_
      simp only [Act.put, List.setIfInBounds_toArray, List.set_cons_succ, List.set_cons_zero]
      refine wpFreeD_skip (by kernel_rfl) ?_
      simp only [Act.put, List.setIfInBounds_toArray, List.set_cons_succ, List.set_cons_zero]
      refine wpFreeD_one rfl (.bool false) (fun w1 _ => by kernel_rfl) ?_
      simp only [Act.put, List.setIfInBounds_toArray, List.set_cons_succ, List.set_cons_zero]
      refine wpFreeD_one rfl (.bool false) (fun w1 _ => by kernel_rfl) ?_
      simp only [Act.put, List.setIfInBounds_toArray, List.set_cons_succ, List.set_cons_zero]
      refine wpFreeD_nil (fun wR hwR _ => ?_)
      have HL := hid (le_trans (le_drewN _ _) hwR)
      clear hwR
      go_wp2
      go_ret
      exact ⟨ret_b E.out.symm, HL.out⟩
    · have hc1 := hid h1; clear h1
      rcases bool_ft ((fk == 1)) with h2 | h2
      · have hc2 := hid h2
        have E := hid (show ((fk == 1) && okF fk a b c p q && (gk == 5) && okF gk a2 b2 c2 p2 q2 && rngB x nx j && rngB y ny k && finB (two m o) 2) = false by simp [h2])
        clear h2
        go_enter Try.func94, Try.ntmps94
        go_wp2_with fail
        refine region_freeD (E := leX) (fun f args _ v => if f = 107 then v = .bool true else if f = 108 then (args = #[.pointer (some ⟨g0, 4, none⟩)] → v = .bool true) ∧ (args = #[.pointer (some ⟨g0, 10, none⟩)] → v = .bool false) else v = .bool (finB (two m o) 2)) (by kernel_rfl) (by kernel_rfl) ?_
        refine wpFreeD_one rfl (.pointer (some ⟨g0, 0, none⟩)) (fun w1 _ => by kernel_rfl) ?_
        simp only [Act.put, List.setIfInBounds_toArray, List.set_cons_succ, List.set_cons_zero]
        refine wpFreeD_one rfl (.pointer (some ⟨g0, 0, none⟩)) (fun w1 _ => by kernel_rfl) ?_
        simp only [Act.put, List.setIfInBounds_toArray, List.set_cons_succ, List.set_cons_zero]
        refine wpFreeD_one rfl (.pointer (some ⟨g0, 0, none⟩)) (fun w1 _ => by kernel_rfl) ?_
        simp only [Act.put, List.setIfInBounds_toArray, List.set_cons_succ, List.set_cons_zero]
        refine wpFreeD_loadW rfl rfl rfl [s, .int .i64 j] (fun w1 h1 => Row.at_part (hRw.out w1 (le_trans (le_drewN _ _) h1)) (partJet_Throat (s) (.int .i64 j) (t) (.int .i64 k) (.int .i64 fk) (.float .f32 a) (.float .f32 b) (.float .f32 c) (.float .f32 p) (.float .f32 q) (.int .i64 gk) (.float .f32 a2) (.float .f32 b2) (.float .f32 c2) (.float .f32 p2) (.float .f32 q2) (.float .f32 m) (.float .f32 o))) Try.underlying25 rfl uinfoRingI rfl ?_
        simp only [Act.put, List.setIfInBounds_toArray, List.set_cons_succ, List.set_cons_zero]
        refine wpFreeD_one rfl (.pointer (some ⟨g0, 0, none⟩)) (fun w1 _ => by kernel_rfl) ?_
        simp only [Act.put, List.setIfInBounds_toArray, List.set_cons_succ, List.set_cons_zero]
        refine wpFreeD_one rfl (.pointer (some ⟨g0, 0, none⟩)) (fun w1 _ => by kernel_rfl) ?_
        simp only [Act.put, List.setIfInBounds_toArray, List.set_cons_succ, List.set_cons_zero]
        refine wpFreeD_one rfl (.pointer (some ⟨g0, 2, none⟩)) (fun w1 _ => by kernel_rfl) ?_
        simp only [Act.put, List.setIfInBounds_toArray, List.set_cons_succ, List.set_cons_zero]
        refine wpFreeD_loadW rfl rfl rfl [t, .int .i64 k] (fun w1 h1 => Row.at_part (hRw.out w1 (le_trans (le_drewN _ _) h1)) (partJet_Bore (s) (.int .i64 j) (t) (.int .i64 k) (.int .i64 fk) (.float .f32 a) (.float .f32 b) (.float .f32 c) (.float .f32 p) (.float .f32 q) (.int .i64 gk) (.float .f32 a2) (.float .f32 b2) (.float .f32 c2) (.float .f32 p2) (.float .f32 q2) (.float .f32 m) (.float .f32 o))) Try.underlying25 rfl uinfoRingI rfl ?_
        simp only [Act.put, List.setIfInBounds_toArray, List.set_cons_succ, List.set_cons_zero]
        refine wpFreeD_madeW (by kernel_rfl) (fun b => .slice (some ⟨b, 0, none⟩) 2 2) 25 #[s, .int .i64 j, t, .int .i64 k] (fun w1 => by kernel_rfl) (fun bR => ?_)
        simp only [Act.put, List.setIfInBounds_toArray, List.set_cons_succ, List.set_cons_zero]
        refine wpFreeD_callW (by kernel_rfl) rfl Try.func107 (by kernel_rfl) (by kernel_rfl) (args := #[.slice (some ⟨bR, 0, none⟩) 2 2]) (by simp [Act.eval]) (fun v w1 w2 hw hv => hv) (fun w1 hw1 hbe => ?_) ?_
        · obtain ⟨b', e1, hrow⟩ := (hbe ⟨8, Ground.data⟩ (by simp) (by kernel_rfl)).2 rfl
          obtain rfl : bR = b' := by simpa using e1
          refine (s_l04Rings _ _ _ _ w1 (HRD.out bR w1 (le_trans (le_drewN _ _) hw1) hrow) (rg2_ok _ _ _ _ _ _)).mono ?_
          rintro e w2 ⟨rfl, q, rfl⟩
          exact ⟨_, rfl, le_drewN _ _, by simp only [if_true]; rw [rg2_all, hc0.out]⟩
        rintro v ⟨_, _, _, hv⟩
        simp only [if_true] at hv
        subst hv
        simp only [Act.put, List.setIfInBounds_toArray, List.set_cons_succ, List.set_cons_zero]
        refine wpFreeD_one rfl (.bool true) (fun w1 _ => by kernel_rfl) ?_
        simp only [Act.put, List.setIfInBounds_toArray, List.set_cons_succ, List.set_cons_zero]
        refine wpFreeD_oneW (by kernel_rfl) (.pointer (some ⟨g0, 0, none⟩)) (fun w1 _ => by kernel_rfl) ?_
        simp only [Act.put, List.setIfInBounds_toArray, List.set_cons_succ, List.set_cons_zero]
        refine wpFreeD_oneW (by kernel_rfl) (.pointer (some ⟨g0, 0, none⟩)) (fun w1 _ => by kernel_rfl) ?_
        simp only [Act.put, List.setIfInBounds_toArray, List.set_cons_succ, List.set_cons_zero]
        refine wpFreeD_oneW (by kernel_rfl) (.pointer (some ⟨g0, 4, none⟩)) (fun w1 _ => by kernel_rfl) ?_
        simp only [Act.put, List.setIfInBounds_toArray, List.set_cons_succ, List.set_cons_zero]
        refine wpFreeD_callW (by kernel_rfl) rfl Try.func108 (by kernel_rfl) (by kernel_rfl) (args := #[.pointer (some ⟨g0, 4, none⟩)]) (by simp [Act.eval]) (fun v w1 w2 hw hv => hv) (fun w1 hw1 _ => (HO0.out w1 (le_trans (le_drewN _ _) hw1)).mono ?_) ?_
        · rintro e w2 ⟨rfl, q, rfl⟩
          exact ⟨_, rfl, le_drewN _ _, by simp only [show ¬ (108 = 107) by decide, if_false, if_true]; simp [hc1.out]⟩
        rintro v ⟨_, _, _, hv⟩
        simp only [show ¬ (108 = 107) by decide, if_false, if_true] at hv
        obtain rfl := hv.1 (by first | rfl | trivial)
        simp only [Act.put, List.setIfInBounds_toArray, List.set_cons_succ, List.set_cons_zero]
        refine wpFreeD_one rfl (.bool true) (fun w1 _ => by kernel_rfl) ?_
        simp only [Act.put, List.setIfInBounds_toArray, List.set_cons_succ, List.set_cons_zero]
        refine wpFreeD_one rfl (.bool true) (fun w1 _ => by kernel_rfl) ?_
        simp only [Act.put, List.setIfInBounds_toArray, List.set_cons_succ, List.set_cons_zero]
        refine wpFreeD_oneW (by kernel_rfl) (.pointer (some ⟨g0, 0, none⟩)) (fun w1 _ => by kernel_rfl) ?_
        simp only [Act.put, List.setIfInBounds_toArray, List.set_cons_succ, List.set_cons_zero]
        refine wpFreeD_oneW (by kernel_rfl) (.pointer (some ⟨g0, 0, none⟩)) (fun w1 _ => by kernel_rfl) ?_
        simp only [Act.put, List.setIfInBounds_toArray, List.set_cons_succ, List.set_cons_zero]
        refine wpFreeD_oneW (by kernel_rfl) (.pointer (some ⟨g0, 4, none⟩)) (fun w1 _ => by kernel_rfl) ?_
        simp only [Act.put, List.setIfInBounds_toArray, List.set_cons_succ, List.set_cons_zero]
        refine wpFreeD_oneW (by kernel_rfl) (.pointer (some ⟨g0, 4, none⟩)) (fun w1 _ => by kernel_rfl) ?_
        simp only [Act.put, List.setIfInBounds_toArray, List.set_cons_succ, List.set_cons_zero]
        refine wpFreeD_load1W (by kernel_rfl) rfl rfl (p := ⟨g0, 4, none⟩) (fun w1 h1 => (hRw.out w1 (le_trans (le_drewN _ _) h1)).cell? 4) ukindInt64 ?_
        simp only [Act.put, List.setIfInBounds_toArray, List.set_cons_succ, List.set_cons_zero]
        refine wpFreeD_oneW (by kernel_rfl) (.bool (fk == 1)) (fun w1 _ => by kernel_rfl) ?_
        simp only [Act.put, List.setIfInBounds_toArray, List.set_cons_succ, List.set_cons_zero]
        rw [hc2.out]
        refine wpFreeD_one rfl (.bool false) (fun w1 _ => by kernel_rfl) ?_
        simp only [Act.put, List.setIfInBounds_toArray, List.set_cons_succ, List.set_cons_zero]
        refine wpFreeD_one rfl (.bool false) (fun w1 _ => by kernel_rfl) ?_
        simp only [Act.put, List.setIfInBounds_toArray, List.set_cons_succ, List.set_cons_zero]
        refine wpFreeD_skip (by kernel_rfl) ?_
        simp only [Act.put, List.setIfInBounds_toArray, List.set_cons_succ, List.set_cons_zero]
        refine wpFreeD_skip (by kernel_rfl) ?_
        simp only [Act.put, List.setIfInBounds_toArray, List.set_cons_succ, List.set_cons_zero]
        refine wpFreeD_skip (by kernel_rfl) ?_
        simp only [Act.put, List.setIfInBounds_toArray, List.set_cons_succ, List.set_cons_zero]
        refine wpFreeD_skip (by kernel_rfl) ?_
        simp only [Act.put, List.setIfInBounds_toArray, List.set_cons_succ, List.set_cons_zero]
        refine wpFreeD_one rfl (.bool false) (fun w1 _ => by kernel_rfl) ?_
        simp only [Act.put, List.setIfInBounds_toArray, List.set_cons_succ, List.set_cons_zero]
        refine wpFreeD_one rfl (.bool false) (fun w1 _ => by kernel_rfl) ?_
        simp only [Act.put, List.setIfInBounds_toArray, List.set_cons_succ, List.set_cons_zero]
        refine wpFreeD_skip (by kernel_rfl) ?_
        simp only [Act.put, List.setIfInBounds_toArray, List.set_cons_succ, List.set_cons_zero]
        refine wpFreeD_skip (by kernel_rfl) ?_
        simp only [Act.put, List.setIfInBounds_toArray, List.set_cons_succ, List.set_cons_zero]
        refine wpFreeD_skip (by kernel_rfl) ?_
        simp only [Act.put, List.setIfInBounds_toArray, List.set_cons_succ, List.set_cons_zero]
        refine wpFreeD_skip (by kernel_rfl) ?_
        simp only [Act.put, List.setIfInBounds_toArray, List.set_cons_succ, List.set_cons_zero]
        refine wpFreeD_skip (by kernel_rfl) ?_
        simp only [Act.put, List.setIfInBounds_toArray, List.set_cons_succ, List.set_cons_zero]
        refine wpFreeD_skip (by kernel_rfl) ?_
        simp only [Act.put, List.setIfInBounds_toArray, List.set_cons_succ, List.set_cons_zero]
        refine wpFreeD_one rfl (.bool false) (fun w1 _ => by kernel_rfl) ?_
        simp only [Act.put, List.setIfInBounds_toArray, List.set_cons_succ, List.set_cons_zero]
        refine wpFreeD_one rfl (.bool false) (fun w1 _ => by kernel_rfl) ?_
        simp only [Act.put, List.setIfInBounds_toArray, List.set_cons_succ, List.set_cons_zero]
        refine wpFreeD_skip (by kernel_rfl) ?_
        simp only [Act.put, List.setIfInBounds_toArray, List.set_cons_succ, List.set_cons_zero]
        refine wpFreeD_skip (by kernel_rfl) ?_
        simp only [Act.put, List.setIfInBounds_toArray, List.set_cons_succ, List.set_cons_zero]
        refine wpFreeD_skip (by kernel_rfl) ?_
        simp only [Act.put, List.setIfInBounds_toArray, List.set_cons_succ, List.set_cons_zero]
        refine wpFreeD_skip (by kernel_rfl) ?_
        simp only [Act.put, List.setIfInBounds_toArray, List.set_cons_succ, List.set_cons_zero]
        refine wpFreeD_skip (by kernel_rfl) ?_
        simp only [Act.put, List.setIfInBounds_toArray, List.set_cons_succ, List.set_cons_zero]
        refine wpFreeD_skip (by kernel_rfl) ?_
        simp only [Act.put, List.setIfInBounds_toArray, List.set_cons_succ, List.set_cons_zero]
        refine wpFreeD_skip (by kernel_rfl) ?_
        simp only [Act.put, List.setIfInBounds_toArray, List.set_cons_succ, List.set_cons_zero]
        refine wpFreeD_skip (by kernel_rfl) ?_
        simp only [Act.put, List.setIfInBounds_toArray, List.set_cons_succ, List.set_cons_zero]
        refine wpFreeD_skip (by kernel_rfl) ?_
        simp only [Act.put, List.setIfInBounds_toArray, List.set_cons_succ, List.set_cons_zero]
        refine wpFreeD_skip (by kernel_rfl) ?_
        simp only [Act.put, List.setIfInBounds_toArray, List.set_cons_succ, List.set_cons_zero]
        refine wpFreeD_one rfl (.bool false) (fun w1 _ => by kernel_rfl) ?_
        simp only [Act.put, List.setIfInBounds_toArray, List.set_cons_succ, List.set_cons_zero]
        refine wpFreeD_one rfl (.bool false) (fun w1 _ => by kernel_rfl) ?_
        simp only [Act.put, List.setIfInBounds_toArray, List.set_cons_succ, List.set_cons_zero]
        refine wpFreeD_nil (fun wR hwR _ => ?_)
        have HL := hid (le_trans (le_drewN _ _) hwR)
        clear hwR
        go_wp2
        go_ret
        exact ⟨ret_b E.out.symm, HL.out⟩
      · have hc2 := hid h2; clear h2
        rcases bool_ft (okF gk a2 b2 c2 p2 q2) with h3 | h3
        · have hc3 := hid h3
          have E := hid (show ((fk == 1) && okF fk a b c p q && (gk == 5) && okF gk a2 b2 c2 p2 q2 && rngB x nx j && rngB y ny k && finB (two m o) 2) = false by simp [h3])
          clear h3
          go_enter Try.func94, Try.ntmps94
          go_wp2_with fail
          refine region_freeD (E := leX) (fun f args _ v => if f = 107 then v = .bool true else if f = 108 then (args = #[.pointer (some ⟨g0, 4, none⟩)] → v = .bool true) ∧ (args = #[.pointer (some ⟨g0, 10, none⟩)] → v = .bool false) else v = .bool (finB (two m o) 2)) (by kernel_rfl) (by kernel_rfl) ?_
          refine wpFreeD_one rfl (.pointer (some ⟨g0, 0, none⟩)) (fun w1 _ => by kernel_rfl) ?_
          simp only [Act.put, List.setIfInBounds_toArray, List.set_cons_succ, List.set_cons_zero]
          refine wpFreeD_one rfl (.pointer (some ⟨g0, 0, none⟩)) (fun w1 _ => by kernel_rfl) ?_
          simp only [Act.put, List.setIfInBounds_toArray, List.set_cons_succ, List.set_cons_zero]
          refine wpFreeD_one rfl (.pointer (some ⟨g0, 0, none⟩)) (fun w1 _ => by kernel_rfl) ?_
          simp only [Act.put, List.setIfInBounds_toArray, List.set_cons_succ, List.set_cons_zero]
          refine wpFreeD_loadW rfl rfl rfl [s, .int .i64 j] (fun w1 h1 => Row.at_part (hRw.out w1 (le_trans (le_drewN _ _) h1)) (partJet_Throat (s) (.int .i64 j) (t) (.int .i64 k) (.int .i64 fk) (.float .f32 a) (.float .f32 b) (.float .f32 c) (.float .f32 p) (.float .f32 q) (.int .i64 gk) (.float .f32 a2) (.float .f32 b2) (.float .f32 c2) (.float .f32 p2) (.float .f32 q2) (.float .f32 m) (.float .f32 o))) Try.underlying25 rfl uinfoRingI rfl ?_
          simp only [Act.put, List.setIfInBounds_toArray, List.set_cons_succ, List.set_cons_zero]
          refine wpFreeD_one rfl (.pointer (some ⟨g0, 0, none⟩)) (fun w1 _ => by kernel_rfl) ?_
          simp only [Act.put, List.setIfInBounds_toArray, List.set_cons_succ, List.set_cons_zero]
          refine wpFreeD_one rfl (.pointer (some ⟨g0, 0, none⟩)) (fun w1 _ => by kernel_rfl) ?_
          simp only [Act.put, List.setIfInBounds_toArray, List.set_cons_succ, List.set_cons_zero]
          refine wpFreeD_one rfl (.pointer (some ⟨g0, 2, none⟩)) (fun w1 _ => by kernel_rfl) ?_
          simp only [Act.put, List.setIfInBounds_toArray, List.set_cons_succ, List.set_cons_zero]
          refine wpFreeD_loadW rfl rfl rfl [t, .int .i64 k] (fun w1 h1 => Row.at_part (hRw.out w1 (le_trans (le_drewN _ _) h1)) (partJet_Bore (s) (.int .i64 j) (t) (.int .i64 k) (.int .i64 fk) (.float .f32 a) (.float .f32 b) (.float .f32 c) (.float .f32 p) (.float .f32 q) (.int .i64 gk) (.float .f32 a2) (.float .f32 b2) (.float .f32 c2) (.float .f32 p2) (.float .f32 q2) (.float .f32 m) (.float .f32 o))) Try.underlying25 rfl uinfoRingI rfl ?_
          simp only [Act.put, List.setIfInBounds_toArray, List.set_cons_succ, List.set_cons_zero]
          refine wpFreeD_madeW (by kernel_rfl) (fun b => .slice (some ⟨b, 0, none⟩) 2 2) 25 #[s, .int .i64 j, t, .int .i64 k] (fun w1 => by kernel_rfl) (fun bR => ?_)
          simp only [Act.put, List.setIfInBounds_toArray, List.set_cons_succ, List.set_cons_zero]
          refine wpFreeD_callW (by kernel_rfl) rfl Try.func107 (by kernel_rfl) (by kernel_rfl) (args := #[.slice (some ⟨bR, 0, none⟩) 2 2]) (by simp [Act.eval]) (fun v w1 w2 hw hv => hv) (fun w1 hw1 hbe => ?_) ?_
          · obtain ⟨b', e1, hrow⟩ := (hbe ⟨8, Ground.data⟩ (by simp) (by kernel_rfl)).2 rfl
            obtain rfl : bR = b' := by simpa using e1
            refine (s_l04Rings _ _ _ _ w1 (HRD.out bR w1 (le_trans (le_drewN _ _) hw1) hrow) (rg2_ok _ _ _ _ _ _)).mono ?_
            rintro e w2 ⟨rfl, q, rfl⟩
            exact ⟨_, rfl, le_drewN _ _, by simp only [if_true]; rw [rg2_all, hc0.out]⟩
          rintro v ⟨_, _, _, hv⟩
          simp only [if_true] at hv
          subst hv
          simp only [Act.put, List.setIfInBounds_toArray, List.set_cons_succ, List.set_cons_zero]
          refine wpFreeD_one rfl (.bool true) (fun w1 _ => by kernel_rfl) ?_
          simp only [Act.put, List.setIfInBounds_toArray, List.set_cons_succ, List.set_cons_zero]
          refine wpFreeD_oneW (by kernel_rfl) (.pointer (some ⟨g0, 0, none⟩)) (fun w1 _ => by kernel_rfl) ?_
          simp only [Act.put, List.setIfInBounds_toArray, List.set_cons_succ, List.set_cons_zero]
          refine wpFreeD_oneW (by kernel_rfl) (.pointer (some ⟨g0, 0, none⟩)) (fun w1 _ => by kernel_rfl) ?_
          simp only [Act.put, List.setIfInBounds_toArray, List.set_cons_succ, List.set_cons_zero]
          refine wpFreeD_oneW (by kernel_rfl) (.pointer (some ⟨g0, 4, none⟩)) (fun w1 _ => by kernel_rfl) ?_
          simp only [Act.put, List.setIfInBounds_toArray, List.set_cons_succ, List.set_cons_zero]
          refine wpFreeD_callW (by kernel_rfl) rfl Try.func108 (by kernel_rfl) (by kernel_rfl) (args := #[.pointer (some ⟨g0, 4, none⟩)]) (by simp [Act.eval]) (fun v w1 w2 hw hv => hv) (fun w1 hw1 _ => (HO0.out w1 (le_trans (le_drewN _ _) hw1)).mono ?_) ?_
          · rintro e w2 ⟨rfl, q, rfl⟩
            exact ⟨_, rfl, le_drewN _ _, by simp only [show ¬ (108 = 107) by decide, if_false, if_true]; simp [hc1.out]⟩
          rintro v ⟨_, _, _, hv⟩
          simp only [show ¬ (108 = 107) by decide, if_false, if_true] at hv
          obtain rfl := hv.1 (by first | rfl | trivial)
          simp only [Act.put, List.setIfInBounds_toArray, List.set_cons_succ, List.set_cons_zero]
          refine wpFreeD_one rfl (.bool true) (fun w1 _ => by kernel_rfl) ?_
          simp only [Act.put, List.setIfInBounds_toArray, List.set_cons_succ, List.set_cons_zero]
          refine wpFreeD_one rfl (.bool true) (fun w1 _ => by kernel_rfl) ?_
          simp only [Act.put, List.setIfInBounds_toArray, List.set_cons_succ, List.set_cons_zero]
          refine wpFreeD_oneW (by kernel_rfl) (.pointer (some ⟨g0, 0, none⟩)) (fun w1 _ => by kernel_rfl) ?_
          simp only [Act.put, List.setIfInBounds_toArray, List.set_cons_succ, List.set_cons_zero]
          refine wpFreeD_oneW (by kernel_rfl) (.pointer (some ⟨g0, 0, none⟩)) (fun w1 _ => by kernel_rfl) ?_
          simp only [Act.put, List.setIfInBounds_toArray, List.set_cons_succ, List.set_cons_zero]
          refine wpFreeD_oneW (by kernel_rfl) (.pointer (some ⟨g0, 4, none⟩)) (fun w1 _ => by kernel_rfl) ?_
          simp only [Act.put, List.setIfInBounds_toArray, List.set_cons_succ, List.set_cons_zero]
          refine wpFreeD_oneW (by kernel_rfl) (.pointer (some ⟨g0, 4, none⟩)) (fun w1 _ => by kernel_rfl) ?_
          simp only [Act.put, List.setIfInBounds_toArray, List.set_cons_succ, List.set_cons_zero]
          refine wpFreeD_load1W (by kernel_rfl) rfl rfl (p := ⟨g0, 4, none⟩) (fun w1 h1 => (hRw.out w1 (le_trans (le_drewN _ _) h1)).cell? 4) ukindInt64 ?_
          simp only [Act.put, List.setIfInBounds_toArray, List.set_cons_succ, List.set_cons_zero]
          refine wpFreeD_oneW (by kernel_rfl) (.bool (fk == 1)) (fun w1 _ => by kernel_rfl) ?_
          simp only [Act.put, List.setIfInBounds_toArray, List.set_cons_succ, List.set_cons_zero]
          rw [hc2.out]
          refine wpFreeD_one rfl (.bool true) (fun w1 _ => by kernel_rfl) ?_
          simp only [Act.put, List.setIfInBounds_toArray, List.set_cons_succ, List.set_cons_zero]
          refine wpFreeD_one rfl (.bool true) (fun w1 _ => by kernel_rfl) ?_
          simp only [Act.put, List.setIfInBounds_toArray, List.set_cons_succ, List.set_cons_zero]
          refine wpFreeD_oneW (by kernel_rfl) (.pointer (some ⟨g0, 0, none⟩)) (fun w1 _ => by kernel_rfl) ?_
          simp only [Act.put, List.setIfInBounds_toArray, List.set_cons_succ, List.set_cons_zero]
          refine wpFreeD_oneW (by kernel_rfl) (.pointer (some ⟨g0, 0, none⟩)) (fun w1 _ => by kernel_rfl) ?_
          simp only [Act.put, List.setIfInBounds_toArray, List.set_cons_succ, List.set_cons_zero]
          refine wpFreeD_oneW (by kernel_rfl) (.pointer (some ⟨g0, 10, none⟩)) (fun w1 _ => by kernel_rfl) ?_
          simp only [Act.put, List.setIfInBounds_toArray, List.set_cons_succ, List.set_cons_zero]
          refine wpFreeD_callW (by kernel_rfl) rfl Try.func108 (by kernel_rfl) (by kernel_rfl) (args := #[.pointer (some ⟨g0, 10, none⟩)]) (by simp [Act.eval]) (fun v w1 w2 hw hv => hv) (fun w1 hw1 _ => (HO1.out w1 (le_trans (le_drewN _ _) hw1)).mono ?_) ?_
          · rintro e w2 ⟨rfl, q, rfl⟩
            exact ⟨_, rfl, le_drewN _ _, by simp only [show ¬ (108 = 107) by decide, if_false, if_true]; simp [hc3.out]⟩
          rintro v ⟨_, _, _, hv⟩
          simp only [show ¬ (108 = 107) by decide, if_false, if_true] at hv
          obtain rfl := hv.2 (by first | rfl | trivial)
          simp only [Act.put, List.setIfInBounds_toArray, List.set_cons_succ, List.set_cons_zero]
          refine wpFreeD_one rfl (.bool false) (fun w1 _ => by kernel_rfl) ?_
          simp only [Act.put, List.setIfInBounds_toArray, List.set_cons_succ, List.set_cons_zero]
          refine wpFreeD_one rfl (.bool false) (fun w1 _ => by kernel_rfl) ?_
          simp only [Act.put, List.setIfInBounds_toArray, List.set_cons_succ, List.set_cons_zero]
          refine wpFreeD_skip (by kernel_rfl) ?_
          simp only [Act.put, List.setIfInBounds_toArray, List.set_cons_succ, List.set_cons_zero]
          refine wpFreeD_skip (by kernel_rfl) ?_
          simp only [Act.put, List.setIfInBounds_toArray, List.set_cons_succ, List.set_cons_zero]
          refine wpFreeD_skip (by kernel_rfl) ?_
          simp only [Act.put, List.setIfInBounds_toArray, List.set_cons_succ, List.set_cons_zero]
          refine wpFreeD_skip (by kernel_rfl) ?_
          simp only [Act.put, List.setIfInBounds_toArray, List.set_cons_succ, List.set_cons_zero]
          refine wpFreeD_skip (by kernel_rfl) ?_
          simp only [Act.put, List.setIfInBounds_toArray, List.set_cons_succ, List.set_cons_zero]
          refine wpFreeD_skip (by kernel_rfl) ?_
          simp only [Act.put, List.setIfInBounds_toArray, List.set_cons_succ, List.set_cons_zero]
          refine wpFreeD_one rfl (.bool false) (fun w1 _ => by kernel_rfl) ?_
          simp only [Act.put, List.setIfInBounds_toArray, List.set_cons_succ, List.set_cons_zero]
          refine wpFreeD_one rfl (.bool false) (fun w1 _ => by kernel_rfl) ?_
          simp only [Act.put, List.setIfInBounds_toArray, List.set_cons_succ, List.set_cons_zero]
          refine wpFreeD_skip (by kernel_rfl) ?_
          simp only [Act.put, List.setIfInBounds_toArray, List.set_cons_succ, List.set_cons_zero]
          refine wpFreeD_skip (by kernel_rfl) ?_
          simp only [Act.put, List.setIfInBounds_toArray, List.set_cons_succ, List.set_cons_zero]
          refine wpFreeD_skip (by kernel_rfl) ?_
          simp only [Act.put, List.setIfInBounds_toArray, List.set_cons_succ, List.set_cons_zero]
          refine wpFreeD_skip (by kernel_rfl) ?_
          simp only [Act.put, List.setIfInBounds_toArray, List.set_cons_succ, List.set_cons_zero]
          refine wpFreeD_skip (by kernel_rfl) ?_
          simp only [Act.put, List.setIfInBounds_toArray, List.set_cons_succ, List.set_cons_zero]
          refine wpFreeD_skip (by kernel_rfl) ?_
          simp only [Act.put, List.setIfInBounds_toArray, List.set_cons_succ, List.set_cons_zero]
          refine wpFreeD_skip (by kernel_rfl) ?_
          simp only [Act.put, List.setIfInBounds_toArray, List.set_cons_succ, List.set_cons_zero]
          refine wpFreeD_skip (by kernel_rfl) ?_
          simp only [Act.put, List.setIfInBounds_toArray, List.set_cons_succ, List.set_cons_zero]
          refine wpFreeD_skip (by kernel_rfl) ?_
          simp only [Act.put, List.setIfInBounds_toArray, List.set_cons_succ, List.set_cons_zero]
          refine wpFreeD_skip (by kernel_rfl) ?_
          simp only [Act.put, List.setIfInBounds_toArray, List.set_cons_succ, List.set_cons_zero]
          refine wpFreeD_one rfl (.bool false) (fun w1 _ => by kernel_rfl) ?_
          simp only [Act.put, List.setIfInBounds_toArray, List.set_cons_succ, List.set_cons_zero]
          refine wpFreeD_one rfl (.bool false) (fun w1 _ => by kernel_rfl) ?_
          simp only [Act.put, List.setIfInBounds_toArray, List.set_cons_succ, List.set_cons_zero]
          refine wpFreeD_nil (fun wR hwR _ => ?_)
          have HL := hid (le_trans (le_drewN _ _) hwR)
          clear hwR
          go_wp2
          go_ret
          exact ⟨ret_b E.out.symm, HL.out⟩
        · have hc3 := hid h3; clear h3
          rcases bool_ft ((gk == 5)) with h4 | h4
          · have hc4 := hid h4
            have E := hid (show ((fk == 1) && okF fk a b c p q && (gk == 5) && okF gk a2 b2 c2 p2 q2 && rngB x nx j && rngB y ny k && finB (two m o) 2) = false by simp [h4])
            clear h4
            go_enter Try.func94, Try.ntmps94
            go_wp2_with fail
            refine region_freeD (E := leX) (fun f args _ v => if f = 107 then v = .bool true else if f = 108 then (args = #[.pointer (some ⟨g0, 4, none⟩)] → v = .bool true) ∧ (args = #[.pointer (some ⟨g0, 10, none⟩)] → v = .bool true) else v = .bool (finB (two m o) 2)) (by kernel_rfl) (by kernel_rfl) ?_
            refine wpFreeD_one rfl (.pointer (some ⟨g0, 0, none⟩)) (fun w1 _ => by kernel_rfl) ?_
            simp only [Act.put, List.setIfInBounds_toArray, List.set_cons_succ, List.set_cons_zero]
            refine wpFreeD_one rfl (.pointer (some ⟨g0, 0, none⟩)) (fun w1 _ => by kernel_rfl) ?_
            simp only [Act.put, List.setIfInBounds_toArray, List.set_cons_succ, List.set_cons_zero]
            refine wpFreeD_one rfl (.pointer (some ⟨g0, 0, none⟩)) (fun w1 _ => by kernel_rfl) ?_
            simp only [Act.put, List.setIfInBounds_toArray, List.set_cons_succ, List.set_cons_zero]
            refine wpFreeD_loadW rfl rfl rfl [s, .int .i64 j] (fun w1 h1 => Row.at_part (hRw.out w1 (le_trans (le_drewN _ _) h1)) (partJet_Throat (s) (.int .i64 j) (t) (.int .i64 k) (.int .i64 fk) (.float .f32 a) (.float .f32 b) (.float .f32 c) (.float .f32 p) (.float .f32 q) (.int .i64 gk) (.float .f32 a2) (.float .f32 b2) (.float .f32 c2) (.float .f32 p2) (.float .f32 q2) (.float .f32 m) (.float .f32 o))) Try.underlying25 rfl uinfoRingI rfl ?_
            simp only [Act.put, List.setIfInBounds_toArray, List.set_cons_succ, List.set_cons_zero]
            refine wpFreeD_one rfl (.pointer (some ⟨g0, 0, none⟩)) (fun w1 _ => by kernel_rfl) ?_
            simp only [Act.put, List.setIfInBounds_toArray, List.set_cons_succ, List.set_cons_zero]
            refine wpFreeD_one rfl (.pointer (some ⟨g0, 0, none⟩)) (fun w1 _ => by kernel_rfl) ?_
            simp only [Act.put, List.setIfInBounds_toArray, List.set_cons_succ, List.set_cons_zero]
            refine wpFreeD_one rfl (.pointer (some ⟨g0, 2, none⟩)) (fun w1 _ => by kernel_rfl) ?_
            simp only [Act.put, List.setIfInBounds_toArray, List.set_cons_succ, List.set_cons_zero]
            refine wpFreeD_loadW rfl rfl rfl [t, .int .i64 k] (fun w1 h1 => Row.at_part (hRw.out w1 (le_trans (le_drewN _ _) h1)) (partJet_Bore (s) (.int .i64 j) (t) (.int .i64 k) (.int .i64 fk) (.float .f32 a) (.float .f32 b) (.float .f32 c) (.float .f32 p) (.float .f32 q) (.int .i64 gk) (.float .f32 a2) (.float .f32 b2) (.float .f32 c2) (.float .f32 p2) (.float .f32 q2) (.float .f32 m) (.float .f32 o))) Try.underlying25 rfl uinfoRingI rfl ?_
            simp only [Act.put, List.setIfInBounds_toArray, List.set_cons_succ, List.set_cons_zero]
            refine wpFreeD_madeW (by kernel_rfl) (fun b => .slice (some ⟨b, 0, none⟩) 2 2) 25 #[s, .int .i64 j, t, .int .i64 k] (fun w1 => by kernel_rfl) (fun bR => ?_)
            simp only [Act.put, List.setIfInBounds_toArray, List.set_cons_succ, List.set_cons_zero]
            refine wpFreeD_callW (by kernel_rfl) rfl Try.func107 (by kernel_rfl) (by kernel_rfl) (args := #[.slice (some ⟨bR, 0, none⟩) 2 2]) (by simp [Act.eval]) (fun v w1 w2 hw hv => hv) (fun w1 hw1 hbe => ?_) ?_
            · obtain ⟨b', e1, hrow⟩ := (hbe ⟨8, Ground.data⟩ (by simp) (by kernel_rfl)).2 rfl
              obtain rfl : bR = b' := by simpa using e1
              refine (s_l04Rings _ _ _ _ w1 (HRD.out bR w1 (le_trans (le_drewN _ _) hw1) hrow) (rg2_ok _ _ _ _ _ _)).mono ?_
              rintro e w2 ⟨rfl, q, rfl⟩
              exact ⟨_, rfl, le_drewN _ _, by simp only [if_true]; rw [rg2_all, hc0.out]⟩
            rintro v ⟨_, _, _, hv⟩
            simp only [if_true] at hv
            subst hv
            simp only [Act.put, List.setIfInBounds_toArray, List.set_cons_succ, List.set_cons_zero]
            refine wpFreeD_one rfl (.bool true) (fun w1 _ => by kernel_rfl) ?_
            simp only [Act.put, List.setIfInBounds_toArray, List.set_cons_succ, List.set_cons_zero]
            refine wpFreeD_oneW (by kernel_rfl) (.pointer (some ⟨g0, 0, none⟩)) (fun w1 _ => by kernel_rfl) ?_
            simp only [Act.put, List.setIfInBounds_toArray, List.set_cons_succ, List.set_cons_zero]
            refine wpFreeD_oneW (by kernel_rfl) (.pointer (some ⟨g0, 0, none⟩)) (fun w1 _ => by kernel_rfl) ?_
            simp only [Act.put, List.setIfInBounds_toArray, List.set_cons_succ, List.set_cons_zero]
            refine wpFreeD_oneW (by kernel_rfl) (.pointer (some ⟨g0, 4, none⟩)) (fun w1 _ => by kernel_rfl) ?_
            simp only [Act.put, List.setIfInBounds_toArray, List.set_cons_succ, List.set_cons_zero]
            refine wpFreeD_callW (by kernel_rfl) rfl Try.func108 (by kernel_rfl) (by kernel_rfl) (args := #[.pointer (some ⟨g0, 4, none⟩)]) (by simp [Act.eval]) (fun v w1 w2 hw hv => hv) (fun w1 hw1 _ => (HO0.out w1 (le_trans (le_drewN _ _) hw1)).mono ?_) ?_
            · rintro e w2 ⟨rfl, q, rfl⟩
              exact ⟨_, rfl, le_drewN _ _, by simp only [show ¬ (108 = 107) by decide, if_false, if_true]; simp [hc1.out]⟩
            rintro v ⟨_, _, _, hv⟩
            simp only [show ¬ (108 = 107) by decide, if_false, if_true] at hv
            obtain rfl := hv.1 (by first | rfl | trivial)
            simp only [Act.put, List.setIfInBounds_toArray, List.set_cons_succ, List.set_cons_zero]
            refine wpFreeD_one rfl (.bool true) (fun w1 _ => by kernel_rfl) ?_
            simp only [Act.put, List.setIfInBounds_toArray, List.set_cons_succ, List.set_cons_zero]
            refine wpFreeD_one rfl (.bool true) (fun w1 _ => by kernel_rfl) ?_
            simp only [Act.put, List.setIfInBounds_toArray, List.set_cons_succ, List.set_cons_zero]
            refine wpFreeD_oneW (by kernel_rfl) (.pointer (some ⟨g0, 0, none⟩)) (fun w1 _ => by kernel_rfl) ?_
            simp only [Act.put, List.setIfInBounds_toArray, List.set_cons_succ, List.set_cons_zero]
            refine wpFreeD_oneW (by kernel_rfl) (.pointer (some ⟨g0, 0, none⟩)) (fun w1 _ => by kernel_rfl) ?_
            simp only [Act.put, List.setIfInBounds_toArray, List.set_cons_succ, List.set_cons_zero]
            refine wpFreeD_oneW (by kernel_rfl) (.pointer (some ⟨g0, 4, none⟩)) (fun w1 _ => by kernel_rfl) ?_
            simp only [Act.put, List.setIfInBounds_toArray, List.set_cons_succ, List.set_cons_zero]
            refine wpFreeD_oneW (by kernel_rfl) (.pointer (some ⟨g0, 4, none⟩)) (fun w1 _ => by kernel_rfl) ?_
            simp only [Act.put, List.setIfInBounds_toArray, List.set_cons_succ, List.set_cons_zero]
            refine wpFreeD_load1W (by kernel_rfl) rfl rfl (p := ⟨g0, 4, none⟩) (fun w1 h1 => (hRw.out w1 (le_trans (le_drewN _ _) h1)).cell? 4) ukindInt64 ?_
            simp only [Act.put, List.setIfInBounds_toArray, List.set_cons_succ, List.set_cons_zero]
            refine wpFreeD_oneW (by kernel_rfl) (.bool (fk == 1)) (fun w1 _ => by kernel_rfl) ?_
            simp only [Act.put, List.setIfInBounds_toArray, List.set_cons_succ, List.set_cons_zero]
            rw [hc2.out]
            refine wpFreeD_one rfl (.bool true) (fun w1 _ => by kernel_rfl) ?_
            simp only [Act.put, List.setIfInBounds_toArray, List.set_cons_succ, List.set_cons_zero]
            refine wpFreeD_one rfl (.bool true) (fun w1 _ => by kernel_rfl) ?_
            simp only [Act.put, List.setIfInBounds_toArray, List.set_cons_succ, List.set_cons_zero]
            refine wpFreeD_oneW (by kernel_rfl) (.pointer (some ⟨g0, 0, none⟩)) (fun w1 _ => by kernel_rfl) ?_
            simp only [Act.put, List.setIfInBounds_toArray, List.set_cons_succ, List.set_cons_zero]
            refine wpFreeD_oneW (by kernel_rfl) (.pointer (some ⟨g0, 0, none⟩)) (fun w1 _ => by kernel_rfl) ?_
            simp only [Act.put, List.setIfInBounds_toArray, List.set_cons_succ, List.set_cons_zero]
            refine wpFreeD_oneW (by kernel_rfl) (.pointer (some ⟨g0, 10, none⟩)) (fun w1 _ => by kernel_rfl) ?_
            simp only [Act.put, List.setIfInBounds_toArray, List.set_cons_succ, List.set_cons_zero]
            refine wpFreeD_callW (by kernel_rfl) rfl Try.func108 (by kernel_rfl) (by kernel_rfl) (args := #[.pointer (some ⟨g0, 10, none⟩)]) (by simp [Act.eval]) (fun v w1 w2 hw hv => hv) (fun w1 hw1 _ => (HO1.out w1 (le_trans (le_drewN _ _) hw1)).mono ?_) ?_
            · rintro e w2 ⟨rfl, q, rfl⟩
              exact ⟨_, rfl, le_drewN _ _, by simp only [show ¬ (108 = 107) by decide, if_false, if_true]; simp [hc3.out]⟩
            rintro v ⟨_, _, _, hv⟩
            simp only [show ¬ (108 = 107) by decide, if_false, if_true] at hv
            obtain rfl := hv.2 (by first | rfl | trivial)
            simp only [Act.put, List.setIfInBounds_toArray, List.set_cons_succ, List.set_cons_zero]
            refine wpFreeD_one rfl (.bool true) (fun w1 _ => by kernel_rfl) ?_
            simp only [Act.put, List.setIfInBounds_toArray, List.set_cons_succ, List.set_cons_zero]
            refine wpFreeD_one rfl (.bool true) (fun w1 _ => by kernel_rfl) ?_
            simp only [Act.put, List.setIfInBounds_toArray, List.set_cons_succ, List.set_cons_zero]
            refine wpFreeD_oneW (by kernel_rfl) (.pointer (some ⟨g0, 0, none⟩)) (fun w1 _ => by kernel_rfl) ?_
            simp only [Act.put, List.setIfInBounds_toArray, List.set_cons_succ, List.set_cons_zero]
            refine wpFreeD_oneW (by kernel_rfl) (.pointer (some ⟨g0, 0, none⟩)) (fun w1 _ => by kernel_rfl) ?_
            simp only [Act.put, List.setIfInBounds_toArray, List.set_cons_succ, List.set_cons_zero]
            refine wpFreeD_oneW (by kernel_rfl) (.pointer (some ⟨g0, 10, none⟩)) (fun w1 _ => by kernel_rfl) ?_
            simp only [Act.put, List.setIfInBounds_toArray, List.set_cons_succ, List.set_cons_zero]
            refine wpFreeD_oneW (by kernel_rfl) (.pointer (some ⟨g0, 10, none⟩)) (fun w1 _ => by kernel_rfl) ?_
            simp only [Act.put, List.setIfInBounds_toArray, List.set_cons_succ, List.set_cons_zero]
            refine wpFreeD_load1W (by kernel_rfl) rfl rfl (p := ⟨g0, 10, none⟩) (fun w1 h1 => (hRw.out w1 (le_trans (le_drewN _ _) h1)).cell? 10) ukindInt64 ?_
            simp only [Act.put, List.setIfInBounds_toArray, List.set_cons_succ, List.set_cons_zero]
            refine wpFreeD_oneW (by kernel_rfl) (.bool (gk == 5)) (fun w1 _ => by kernel_rfl) ?_
            simp only [Act.put, List.setIfInBounds_toArray, List.set_cons_succ, List.set_cons_zero]
            rw [hc4.out]
            refine wpFreeD_one rfl (.bool false) (fun w1 _ => by kernel_rfl) ?_
            simp only [Act.put, List.setIfInBounds_toArray, List.set_cons_succ, List.set_cons_zero]
            refine wpFreeD_one rfl (.bool false) (fun w1 _ => by kernel_rfl) ?_
            simp only [Act.put, List.setIfInBounds_toArray, List.set_cons_succ, List.set_cons_zero]
            refine wpFreeD_skip (by kernel_rfl) ?_
            simp only [Act.put, List.setIfInBounds_toArray, List.set_cons_succ, List.set_cons_zero]
            refine wpFreeD_skip (by kernel_rfl) ?_
            simp only [Act.put, List.setIfInBounds_toArray, List.set_cons_succ, List.set_cons_zero]
            refine wpFreeD_skip (by kernel_rfl) ?_
            simp only [Act.put, List.setIfInBounds_toArray, List.set_cons_succ, List.set_cons_zero]
            refine wpFreeD_skip (by kernel_rfl) ?_
            simp only [Act.put, List.setIfInBounds_toArray, List.set_cons_succ, List.set_cons_zero]
            refine wpFreeD_skip (by kernel_rfl) ?_
            simp only [Act.put, List.setIfInBounds_toArray, List.set_cons_succ, List.set_cons_zero]
            refine wpFreeD_skip (by kernel_rfl) ?_
            simp only [Act.put, List.setIfInBounds_toArray, List.set_cons_succ, List.set_cons_zero]
            refine wpFreeD_skip (by kernel_rfl) ?_
            simp only [Act.put, List.setIfInBounds_toArray, List.set_cons_succ, List.set_cons_zero]
            refine wpFreeD_skip (by kernel_rfl) ?_
            simp only [Act.put, List.setIfInBounds_toArray, List.set_cons_succ, List.set_cons_zero]
            refine wpFreeD_skip (by kernel_rfl) ?_
            simp only [Act.put, List.setIfInBounds_toArray, List.set_cons_succ, List.set_cons_zero]
            refine wpFreeD_skip (by kernel_rfl) ?_
            simp only [Act.put, List.setIfInBounds_toArray, List.set_cons_succ, List.set_cons_zero]
            refine wpFreeD_one rfl (.bool false) (fun w1 _ => by kernel_rfl) ?_
            simp only [Act.put, List.setIfInBounds_toArray, List.set_cons_succ, List.set_cons_zero]
            refine wpFreeD_one rfl (.bool false) (fun w1 _ => by kernel_rfl) ?_
            simp only [Act.put, List.setIfInBounds_toArray, List.set_cons_succ, List.set_cons_zero]
            refine wpFreeD_nil (fun wR hwR _ => ?_)
            have HL := hid (le_trans (le_drewN _ _) hwR)
            clear hwR
            go_wp2
            go_ret
            exact ⟨ret_b E.out.symm, HL.out⟩
          · have hc4 := hid h4; clear h4
            have E := hid (show ((fk == 1) && okF fk a b c p q && (gk == 5) && okF gk a2 b2 c2 p2 q2 && rngB x nx j && rngB y ny k && finB (two m o) 2) = finB (two m o) 2 by have h0' := hc0.out; simp only [Bool.and_eq_true] at h0'; simp [h0'.1, h0'.2, hc1.out, hc2.out, hc3.out, hc4.out])
            go_enter Try.func94, Try.ntmps94
            go_wp2_with fail
            refine region_freeD (E := leX) (fun f args _ v => if f = 107 then v = .bool true else if f = 108 then (args = #[.pointer (some ⟨g0, 4, none⟩)] → v = .bool true) ∧ (args = #[.pointer (some ⟨g0, 10, none⟩)] → v = .bool true) else v = .bool (finB (two m o) 2)) (by kernel_rfl) (by kernel_rfl) ?_
            refine wpFreeD_one rfl (.pointer (some ⟨g0, 0, none⟩)) (fun w1 _ => by kernel_rfl) ?_
            simp only [Act.put, List.setIfInBounds_toArray, List.set_cons_succ, List.set_cons_zero]
            refine wpFreeD_one rfl (.pointer (some ⟨g0, 0, none⟩)) (fun w1 _ => by kernel_rfl) ?_
            simp only [Act.put, List.setIfInBounds_toArray, List.set_cons_succ, List.set_cons_zero]
            refine wpFreeD_one rfl (.pointer (some ⟨g0, 0, none⟩)) (fun w1 _ => by kernel_rfl) ?_
            simp only [Act.put, List.setIfInBounds_toArray, List.set_cons_succ, List.set_cons_zero]
            refine wpFreeD_loadW rfl rfl rfl [s, .int .i64 j] (fun w1 h1 => Row.at_part (hRw.out w1 (le_trans (le_drewN _ _) h1)) (partJet_Throat (s) (.int .i64 j) (t) (.int .i64 k) (.int .i64 fk) (.float .f32 a) (.float .f32 b) (.float .f32 c) (.float .f32 p) (.float .f32 q) (.int .i64 gk) (.float .f32 a2) (.float .f32 b2) (.float .f32 c2) (.float .f32 p2) (.float .f32 q2) (.float .f32 m) (.float .f32 o))) Try.underlying25 rfl uinfoRingI rfl ?_
            simp only [Act.put, List.setIfInBounds_toArray, List.set_cons_succ, List.set_cons_zero]
            refine wpFreeD_one rfl (.pointer (some ⟨g0, 0, none⟩)) (fun w1 _ => by kernel_rfl) ?_
            simp only [Act.put, List.setIfInBounds_toArray, List.set_cons_succ, List.set_cons_zero]
            refine wpFreeD_one rfl (.pointer (some ⟨g0, 0, none⟩)) (fun w1 _ => by kernel_rfl) ?_
            simp only [Act.put, List.setIfInBounds_toArray, List.set_cons_succ, List.set_cons_zero]
            refine wpFreeD_one rfl (.pointer (some ⟨g0, 2, none⟩)) (fun w1 _ => by kernel_rfl) ?_
            simp only [Act.put, List.setIfInBounds_toArray, List.set_cons_succ, List.set_cons_zero]
            refine wpFreeD_loadW rfl rfl rfl [t, .int .i64 k] (fun w1 h1 => Row.at_part (hRw.out w1 (le_trans (le_drewN _ _) h1)) (partJet_Bore (s) (.int .i64 j) (t) (.int .i64 k) (.int .i64 fk) (.float .f32 a) (.float .f32 b) (.float .f32 c) (.float .f32 p) (.float .f32 q) (.int .i64 gk) (.float .f32 a2) (.float .f32 b2) (.float .f32 c2) (.float .f32 p2) (.float .f32 q2) (.float .f32 m) (.float .f32 o))) Try.underlying25 rfl uinfoRingI rfl ?_
            simp only [Act.put, List.setIfInBounds_toArray, List.set_cons_succ, List.set_cons_zero]
            refine wpFreeD_madeW (by kernel_rfl) (fun b => .slice (some ⟨b, 0, none⟩) 2 2) 25 #[s, .int .i64 j, t, .int .i64 k] (fun w1 => by kernel_rfl) (fun bR => ?_)
            simp only [Act.put, List.setIfInBounds_toArray, List.set_cons_succ, List.set_cons_zero]
            refine wpFreeD_callW (by kernel_rfl) rfl Try.func107 (by kernel_rfl) (by kernel_rfl) (args := #[.slice (some ⟨bR, 0, none⟩) 2 2]) (by simp [Act.eval]) (fun v w1 w2 hw hv => hv) (fun w1 hw1 hbe => ?_) ?_
            · obtain ⟨b', e1, hrow⟩ := (hbe ⟨8, Ground.data⟩ (by simp) (by kernel_rfl)).2 rfl
              obtain rfl : bR = b' := by simpa using e1
              refine (s_l04Rings _ _ _ _ w1 (HRD.out bR w1 (le_trans (le_drewN _ _) hw1) hrow) (rg2_ok _ _ _ _ _ _)).mono ?_
              rintro e w2 ⟨rfl, q, rfl⟩
              exact ⟨_, rfl, le_drewN _ _, by simp only [if_true]; rw [rg2_all, hc0.out]⟩
            rintro v ⟨_, _, _, hv⟩
            simp only [if_true] at hv
            subst hv
            simp only [Act.put, List.setIfInBounds_toArray, List.set_cons_succ, List.set_cons_zero]
            refine wpFreeD_one rfl (.bool true) (fun w1 _ => by kernel_rfl) ?_
            simp only [Act.put, List.setIfInBounds_toArray, List.set_cons_succ, List.set_cons_zero]
            refine wpFreeD_oneW (by kernel_rfl) (.pointer (some ⟨g0, 0, none⟩)) (fun w1 _ => by kernel_rfl) ?_
            simp only [Act.put, List.setIfInBounds_toArray, List.set_cons_succ, List.set_cons_zero]
            refine wpFreeD_oneW (by kernel_rfl) (.pointer (some ⟨g0, 0, none⟩)) (fun w1 _ => by kernel_rfl) ?_
            simp only [Act.put, List.setIfInBounds_toArray, List.set_cons_succ, List.set_cons_zero]
            refine wpFreeD_oneW (by kernel_rfl) (.pointer (some ⟨g0, 4, none⟩)) (fun w1 _ => by kernel_rfl) ?_
            simp only [Act.put, List.setIfInBounds_toArray, List.set_cons_succ, List.set_cons_zero]
            refine wpFreeD_callW (by kernel_rfl) rfl Try.func108 (by kernel_rfl) (by kernel_rfl) (args := #[.pointer (some ⟨g0, 4, none⟩)]) (by simp [Act.eval]) (fun v w1 w2 hw hv => hv) (fun w1 hw1 _ => (HO0.out w1 (le_trans (le_drewN _ _) hw1)).mono ?_) ?_
            · rintro e w2 ⟨rfl, q, rfl⟩
              exact ⟨_, rfl, le_drewN _ _, by simp only [show ¬ (108 = 107) by decide, if_false, if_true]; simp [hc1.out]⟩
            rintro v ⟨_, _, _, hv⟩
            simp only [show ¬ (108 = 107) by decide, if_false, if_true] at hv
            obtain rfl := hv.1 (by first | rfl | trivial)
            simp only [Act.put, List.setIfInBounds_toArray, List.set_cons_succ, List.set_cons_zero]
            refine wpFreeD_one rfl (.bool true) (fun w1 _ => by kernel_rfl) ?_
            simp only [Act.put, List.setIfInBounds_toArray, List.set_cons_succ, List.set_cons_zero]
            refine wpFreeD_one rfl (.bool true) (fun w1 _ => by kernel_rfl) ?_
            simp only [Act.put, List.setIfInBounds_toArray, List.set_cons_succ, List.set_cons_zero]
            refine wpFreeD_oneW (by kernel_rfl) (.pointer (some ⟨g0, 0, none⟩)) (fun w1 _ => by kernel_rfl) ?_
            simp only [Act.put, List.setIfInBounds_toArray, List.set_cons_succ, List.set_cons_zero]
            refine wpFreeD_oneW (by kernel_rfl) (.pointer (some ⟨g0, 0, none⟩)) (fun w1 _ => by kernel_rfl) ?_
            simp only [Act.put, List.setIfInBounds_toArray, List.set_cons_succ, List.set_cons_zero]
            refine wpFreeD_oneW (by kernel_rfl) (.pointer (some ⟨g0, 4, none⟩)) (fun w1 _ => by kernel_rfl) ?_
            simp only [Act.put, List.setIfInBounds_toArray, List.set_cons_succ, List.set_cons_zero]
            refine wpFreeD_oneW (by kernel_rfl) (.pointer (some ⟨g0, 4, none⟩)) (fun w1 _ => by kernel_rfl) ?_
            simp only [Act.put, List.setIfInBounds_toArray, List.set_cons_succ, List.set_cons_zero]
            refine wpFreeD_load1W (by kernel_rfl) rfl rfl (p := ⟨g0, 4, none⟩) (fun w1 h1 => (hRw.out w1 (le_trans (le_drewN _ _) h1)).cell? 4) ukindInt64 ?_
            simp only [Act.put, List.setIfInBounds_toArray, List.set_cons_succ, List.set_cons_zero]
            refine wpFreeD_oneW (by kernel_rfl) (.bool (fk == 1)) (fun w1 _ => by kernel_rfl) ?_
            simp only [Act.put, List.setIfInBounds_toArray, List.set_cons_succ, List.set_cons_zero]
            rw [hc2.out]
            refine wpFreeD_one rfl (.bool true) (fun w1 _ => by kernel_rfl) ?_
            simp only [Act.put, List.setIfInBounds_toArray, List.set_cons_succ, List.set_cons_zero]
            refine wpFreeD_one rfl (.bool true) (fun w1 _ => by kernel_rfl) ?_
            simp only [Act.put, List.setIfInBounds_toArray, List.set_cons_succ, List.set_cons_zero]
            refine wpFreeD_oneW (by kernel_rfl) (.pointer (some ⟨g0, 0, none⟩)) (fun w1 _ => by kernel_rfl) ?_
            simp only [Act.put, List.setIfInBounds_toArray, List.set_cons_succ, List.set_cons_zero]
            refine wpFreeD_oneW (by kernel_rfl) (.pointer (some ⟨g0, 0, none⟩)) (fun w1 _ => by kernel_rfl) ?_
            simp only [Act.put, List.setIfInBounds_toArray, List.set_cons_succ, List.set_cons_zero]
            refine wpFreeD_oneW (by kernel_rfl) (.pointer (some ⟨g0, 10, none⟩)) (fun w1 _ => by kernel_rfl) ?_
            simp only [Act.put, List.setIfInBounds_toArray, List.set_cons_succ, List.set_cons_zero]
            refine wpFreeD_callW (by kernel_rfl) rfl Try.func108 (by kernel_rfl) (by kernel_rfl) (args := #[.pointer (some ⟨g0, 10, none⟩)]) (by simp [Act.eval]) (fun v w1 w2 hw hv => hv) (fun w1 hw1 _ => (HO1.out w1 (le_trans (le_drewN _ _) hw1)).mono ?_) ?_
            · rintro e w2 ⟨rfl, q, rfl⟩
              exact ⟨_, rfl, le_drewN _ _, by simp only [show ¬ (108 = 107) by decide, if_false, if_true]; simp [hc3.out]⟩
            rintro v ⟨_, _, _, hv⟩
            simp only [show ¬ (108 = 107) by decide, if_false, if_true] at hv
            obtain rfl := hv.2 (by first | rfl | trivial)
            simp only [Act.put, List.setIfInBounds_toArray, List.set_cons_succ, List.set_cons_zero]
            refine wpFreeD_one rfl (.bool true) (fun w1 _ => by kernel_rfl) ?_
            simp only [Act.put, List.setIfInBounds_toArray, List.set_cons_succ, List.set_cons_zero]
            refine wpFreeD_one rfl (.bool true) (fun w1 _ => by kernel_rfl) ?_
            simp only [Act.put, List.setIfInBounds_toArray, List.set_cons_succ, List.set_cons_zero]
            refine wpFreeD_oneW (by kernel_rfl) (.pointer (some ⟨g0, 0, none⟩)) (fun w1 _ => by kernel_rfl) ?_
            simp only [Act.put, List.setIfInBounds_toArray, List.set_cons_succ, List.set_cons_zero]
            refine wpFreeD_oneW (by kernel_rfl) (.pointer (some ⟨g0, 0, none⟩)) (fun w1 _ => by kernel_rfl) ?_
            simp only [Act.put, List.setIfInBounds_toArray, List.set_cons_succ, List.set_cons_zero]
            refine wpFreeD_oneW (by kernel_rfl) (.pointer (some ⟨g0, 10, none⟩)) (fun w1 _ => by kernel_rfl) ?_
            simp only [Act.put, List.setIfInBounds_toArray, List.set_cons_succ, List.set_cons_zero]
            refine wpFreeD_oneW (by kernel_rfl) (.pointer (some ⟨g0, 10, none⟩)) (fun w1 _ => by kernel_rfl) ?_
            simp only [Act.put, List.setIfInBounds_toArray, List.set_cons_succ, List.set_cons_zero]
            refine wpFreeD_load1W (by kernel_rfl) rfl rfl (p := ⟨g0, 10, none⟩) (fun w1 h1 => (hRw.out w1 (le_trans (le_drewN _ _) h1)).cell? 10) ukindInt64 ?_
            simp only [Act.put, List.setIfInBounds_toArray, List.set_cons_succ, List.set_cons_zero]
            refine wpFreeD_oneW (by kernel_rfl) (.bool (gk == 5)) (fun w1 _ => by kernel_rfl) ?_
            simp only [Act.put, List.setIfInBounds_toArray, List.set_cons_succ, List.set_cons_zero]
            rw [hc4.out]
            refine wpFreeD_one rfl (.bool true) (fun w1 _ => by kernel_rfl) ?_
            simp only [Act.put, List.setIfInBounds_toArray, List.set_cons_succ, List.set_cons_zero]
            refine wpFreeD_one rfl (.bool true) (fun w1 _ => by kernel_rfl) ?_
            simp only [Act.put, List.setIfInBounds_toArray, List.set_cons_succ, List.set_cons_zero]
            refine wpFreeD_oneW (by kernel_rfl) (.pointer (some ⟨g0, 0, none⟩)) (fun w1 _ => by kernel_rfl) ?_
            simp only [Act.put, List.setIfInBounds_toArray, List.set_cons_succ, List.set_cons_zero]
            refine wpFreeD_oneW (by kernel_rfl) (.pointer (some ⟨g0, 0, none⟩)) (fun w1 _ => by kernel_rfl) ?_
            simp only [Act.put, List.setIfInBounds_toArray, List.set_cons_succ, List.set_cons_zero]
            refine wpFreeD_oneW (by kernel_rfl) (.pointer (some ⟨g0, 16, none⟩)) (fun w1 _ => by kernel_rfl) ?_
            simp only [Act.put, List.setIfInBounds_toArray, List.set_cons_succ, List.set_cons_zero]
            refine wpFreeD_load1W (by kernel_rfl) rfl rfl (p := ⟨g0, 16, none⟩) (fun w1 h1 => (hRw.out w1 (le_trans (le_drewN _ _) h1)).cell? 16) ukindFloat32 ?_
            simp only [Act.put, List.setIfInBounds_toArray, List.set_cons_succ, List.set_cons_zero]
            refine wpFreeD_oneW (by kernel_rfl) (.pointer (some ⟨g0, 0, none⟩)) (fun w1 _ => by kernel_rfl) ?_
            simp only [Act.put, List.setIfInBounds_toArray, List.set_cons_succ, List.set_cons_zero]
            refine wpFreeD_oneW (by kernel_rfl) (.pointer (some ⟨g0, 0, none⟩)) (fun w1 _ => by kernel_rfl) ?_
            simp only [Act.put, List.setIfInBounds_toArray, List.set_cons_succ, List.set_cons_zero]
            refine wpFreeD_oneW (by kernel_rfl) (.pointer (some ⟨g0, 17, none⟩)) (fun w1 _ => by kernel_rfl) ?_
            simp only [Act.put, List.setIfInBounds_toArray, List.set_cons_succ, List.set_cons_zero]
            refine wpFreeD_load1W (by kernel_rfl) rfl rfl (p := ⟨g0, 17, none⟩) (fun w1 h1 => (hRw.out w1 (le_trans (le_drewN _ _) h1)).cell? 17) ukindFloat32 ?_
            simp only [Act.put, List.setIfInBounds_toArray, List.set_cons_succ, List.set_cons_zero]
            refine wpFreeD_madeW (by kernel_rfl) (fun b => .slice (some ⟨b, 0, none⟩) 2 2) 22 #[.float .f32 m, .float .f32 o] (fun w1 => by kernel_rfl) (fun bN => ?_)
            simp only [Act.put, List.setIfInBounds_toArray, List.set_cons_succ, List.set_cons_zero]
            refine wpFreeD_callW (by kernel_rfl) rfl Try.func109 (by kernel_rfl) (by kernel_rfl) (args := #[.slice (some ⟨bN, 0, none⟩) 2 2]) (by simp [Act.eval]) (fun v w1 w2 hw hv => hv) (fun w1 hw1 hbe => ?_) ?_
            · obtain ⟨b', e1, hrow⟩ := (hbe ⟨47, Ground.data⟩ (by simp) (by kernel_rfl)).2 rfl
              obtain rfl : bN = b' := by simpa using e1
              refine (HN.out bN w1 hrow).mono ?_
              rintro e w2 ⟨rfl, q, rfl⟩
              exact ⟨_, rfl, le_drewN _ _, by simp only [show ¬ (109 = 107) by decide, show ¬ (109 = 108) by decide, if_false]⟩
            rintro v ⟨_, _, _, hv⟩
            simp only [show ¬ (109 = 107) by decide, show ¬ (109 = 108) by decide, if_false] at hv
            subst hv
            simp only [Act.put, List.setIfInBounds_toArray, List.set_cons_succ, List.set_cons_zero]
            refine wpFreeD_one rfl (.bool (finB (two m o) 2)) (fun w1 _ => by kernel_rfl) ?_
            simp only [Act.put, List.setIfInBounds_toArray, List.set_cons_succ, List.set_cons_zero]
            refine wpFreeD_one rfl (.bool (finB (two m o) 2)) (fun w1 _ => by kernel_rfl) ?_
            simp only [Act.put, List.setIfInBounds_toArray, List.set_cons_succ, List.set_cons_zero]
            refine wpFreeD_nil (fun wR hwR _ => ?_)
            have HL := hid (le_trans (le_drewN _ _) hwR)
            clear hwR
            go_wp2
            go_ret
            exact ⟨ret_b E.out.symm, HL.out⟩
theorem jet_data {cs : List CD} (h : HasShL shJet cs) : ∃ (xs ys : Nat → CD) (nx ny : Nat) (j k : Int) (fk : Int) (a b c p q : Nat) (gk : Int) (a2 b2 c2 p2 q2 : Nat) (m o : Nat), cs = [.sl 1 nx xs, .int .i64 j, .sl 1 ny ys, .int .i64 k, .int .i64 fk, .flt .f32 a, .flt .f32 b, .flt .f32 c, .flt .f32 p, .flt .f32 q, .int .i64 gk, .flt .f32 a2, .flt .f32 b2, .flt .f32 c2, .flt .f32 p2, .flt .f32 q2, .flt .f32 m, .flt .f32 o] ∧ (∀ i, i < nx → (xs i).flk = some .f32) ∧ (∀ i, i < ny → (ys i).flk = some .f32) := by
  obtain ⟨c0, cs, rfl, q0, h⟩ := h.inv
  obtain ⟨c1, cs, rfl, q1, h⟩ := h.inv
  obtain ⟨c2, cs, rfl, q2, h⟩ := h.inv
  obtain ⟨c3, cs, rfl, q3, h⟩ := h.inv
  obtain ⟨c4, cs, rfl, q4, h⟩ := h.inv
  obtain ⟨c5, cs, rfl, q5, h⟩ := h.inv
  obtain ⟨c6, cs, rfl, q6, h⟩ := h.inv
  obtain ⟨c7, cs, rfl, q7, h⟩ := h.inv
  obtain ⟨c8, cs, rfl, q8, h⟩ := h.inv
  obtain ⟨c9, cs, rfl, q9, h⟩ := h.inv
  obtain ⟨c10, cs, rfl, q10, h⟩ := h.inv
  obtain ⟨c11, cs, rfl, q11, h⟩ := h.inv
  obtain ⟨c12, cs, rfl, q12, h⟩ := h.inv
  obtain ⟨c13, cs, rfl, q13, h⟩ := h.inv
  obtain ⟨c14, cs, rfl, q14, h⟩ := h.inv
  obtain ⟨c15, cs, rfl, q15, h⟩ := h.inv
  obtain ⟨c16, cs, rfl, q16, h⟩ := h.inv
  obtain ⟨c17, cs, rfl, q17, h⟩ := h.inv
  obtain rfl := h.inv0
  obtain ⟨nx, xs, rfl, r0⟩ := q0
  obtain ⟨ny, ys, rfl, r2⟩ := q2
  obtain ⟨j, rfl⟩ := q1
  obtain ⟨k, rfl⟩ := q3
  obtain ⟨fk, rfl⟩ := q4
  obtain ⟨a, rfl⟩ := q5
  obtain ⟨b, rfl⟩ := q6
  obtain ⟨c, rfl⟩ := q7
  obtain ⟨p, rfl⟩ := q8
  obtain ⟨q, rfl⟩ := q9
  obtain ⟨gk, rfl⟩ := q10
  obtain ⟨a2, rfl⟩ := q11
  obtain ⟨b2, rfl⟩ := q12
  obtain ⟨c2, rfl⟩ := q13
  obtain ⟨p2, rfl⟩ := q14
  obtain ⟨q2, rfl⟩ := q15
  obtain ⟨m, rfl⟩ := q16
  obtain ⟨o, rfl⟩ := q17
  exact ⟨xs, ys, nx, ny, j, k, fk, a, b, c, p, q, gk, a2, b2, c2, p2, q2, m, o, rfl, fun i hi => ShOk.flts (fun i hi j hj => (r0 i hi j hj).ok) rfl i hi, fun i hi => ShOk.flts (fun i hi j hj => (r2 i hi j hj).ok) rfl i hi⟩
theorem jet_open {xs ys : Nat → CD} {nx ny : Nat} {j k : Int} {fk : Int} {a b c p q : Nat} {gk : Int} {a2 b2 c2 p2 q2 : Nat} {m o : Nat} {w : World} {B : Nat} {u : List Value} (h : RdLN w B (([.sl 1 nx xs, .int .i64 j, .sl 1 ny ys, .int .i64 k, .int .i64 fk, .flt .f32 a, .flt .f32 b, .flt .f32 c, .flt .f32 p, .flt .f32 q, .int .i64 gk, .flt .f32 a2, .flt .f32 b2, .flt .f32 c2, .flt .f32 p2, .flt .f32 q2, .flt .f32 m, .flt .f32 o] : List CD).map CD.cp) u) (hx : ∀ i, i < nx → (xs i).flk = some .f32) (hy : ∀ i, i < ny → (ys i).flk = some .f32) : ∃ s t : Value, u = [s, .int .i64 j, t, .int .i64 k, .int .i64 fk, .float .f32 a, .float .f32 b, .float .f32 c, .float .f32 p, .float .f32 q, .int .i64 gk, .float .f32 a2, .float .f32 b2, .float .f32 c2, .float .f32 p2, .float .f32 q2, .float .f32 m, .float .f32 o] ∧ (slT (fun i => (xs i).fx) nx).RdN w B s ∧ (slT (fun i => (ys i).fx) ny).RdN w B t ∧ ((Lit.int .i64 j).wf = true ∧ (Lit.int .i64 k).wf = true) ∧ (fits .f32 a ∧ fits .f32 b ∧ fits .f32 c ∧ fits .f32 p ∧ fits .f32 q ∧ fits .f32 a2 ∧ fits .f32 b2 ∧ fits .f32 c2 ∧ fits .f32 p2 ∧ fits .f32 q2 ∧ fits .f32 m ∧ fits .f32 o) := by
  simp only [List.map_cons, List.map_nil] at h
  obtain ⟨v0, u0, rfl, q0, hh0⟩ := h.inv
  obtain ⟨v1, u1, rfl, q1, hh1⟩ := hh0.inv
  obtain ⟨v2, u2, rfl, q2, hh2⟩ := hh1.inv
  obtain ⟨v3, u3, rfl, q3, hh3⟩ := hh2.inv
  obtain ⟨v4, u4, rfl, q4, hh4⟩ := hh3.inv
  obtain ⟨v5, u5, rfl, q5, hh5⟩ := hh4.inv
  obtain ⟨v6, u6, rfl, q6, hh6⟩ := hh5.inv
  obtain ⟨v7, u7, rfl, q7, hh7⟩ := hh6.inv
  obtain ⟨v8, u8, rfl, q8, hh8⟩ := hh7.inv
  obtain ⟨v9, u9, rfl, q9, hh9⟩ := hh8.inv
  obtain ⟨v10, u10, rfl, q10, hh10⟩ := hh9.inv
  obtain ⟨v11, u11, rfl, q11, hh11⟩ := hh10.inv
  obtain ⟨v12, u12, rfl, q12, hh12⟩ := hh11.inv
  obtain ⟨v13, u13, rfl, q13, hh13⟩ := hh12.inv
  obtain ⟨v14, u14, rfl, q14, hh14⟩ := hh13.inv
  obtain ⟨v15, u15, rfl, q15, hh15⟩ := hh14.inv
  obtain ⟨v16, u16, rfl, q16, hh16⟩ := hh15.inv
  obtain ⟨v17, u17, rfl, q17, hh17⟩ := hh16.inv
  obtain rfl := hh17.inv0
  obtain ⟨rfl, f1⟩ := q1
  obtain ⟨rfl, f3⟩ := q3
  obtain ⟨rfl, f4⟩ := q4
  obtain ⟨rfl, f5⟩ := q5
  obtain ⟨rfl, f6⟩ := q6
  obtain ⟨rfl, f7⟩ := q7
  obtain ⟨rfl, f8⟩ := q8
  obtain ⟨rfl, f9⟩ := q9
  obtain ⟨rfl, f10⟩ := q10
  obtain ⟨rfl, f11⟩ := q11
  obtain ⟨rfl, f12⟩ := q12
  obtain ⟨rfl, f13⟩ := q13
  obtain ⟨rfl, f14⟩ := q14
  obtain ⟨rfl, f15⟩ := q15
  obtain ⟨rfl, f16⟩ := q16
  obtain ⟨rfl, f17⟩ := q17
  exact ⟨v0, v2, rfl, q0.congr (slT_cp hx), q2.congr (slT_cp hy), ⟨f1, f3⟩, f5, f6, f7, f8, f9, f11, f12, f13, f14, f15, f16, f17⟩
end Go.Proofs.Ytgjdmoenobacgaa

/- Results of a Jet, as trees. -/
namespace Go.Fk
open Go Go.RowKit
def cdJet (x y : Nat → Nat) (nx ny : Nat) (j k : Int) (fk : Int) (a b c p q : Nat) (gk : Int) (a2 b2 c2 p2 q2 : Nat) (m o : Nat) : List CD := [.sl 1 nx (fun i => .fcn .f32 (x i)), .int .i64 j, .sl 1 ny (fun i => .fcn .f32 (y i)), .int .i64 k, .int .i64 fk, .flt .f32 a, .flt .f32 b, .flt .f32 c, .flt .f32 p, .flt .f32 q, .int .i64 gk, .flt .f32 a2, .flt .f32 b2, .flt .f32 c2, .flt .f32 p2, .flt .f32 q2, .flt .f32 m, .flt .f32 o]
end Go.Fk
namespace Go.Proofs.Ytgjdmoenobacgaa
open Go.RowKit Go.Fk
theorem cdJet_sh (x y : Nat → Nat) (nx ny : Nat) (j k : Int) (fk : Int) (a b c p q : Nat) (gk : Int) (a2 b2 c2 p2 q2 : Nat) (m o : Nat) : ShOkL shJet (cdJet x y nx ny j k fk a b c p q gk a2 b2 c2 p2 q2 m o) :=
  (ShOkL.cons ⟨_, _, rfl, fun i hi j hj => by obtain rfl : j = 0 := (by omega); rfl⟩ (ShOkL.cons ⟨_, rfl⟩ (ShOkL.cons ⟨_, _, rfl, fun i hi j hj => by obtain rfl : j = 0 := (by omega); rfl⟩ (ShOkL.cons ⟨_, rfl⟩ (ShOkL.cons ⟨_, rfl⟩ (ShOkL.cons rfl (ShOkL.cons rfl (ShOkL.cons rfl (ShOkL.cons rfl (ShOkL.cons rfl (ShOkL.cons ⟨_, rfl⟩ (ShOkL.cons rfl (ShOkL.cons rfl (ShOkL.cons rfl (ShOkL.cons rfl (ShOkL.cons rfl (ShOkL.cons rfl (ShOkL.cons rfl ShOkL.nil))))))))))))))))))
theorem cdJet_sz (x y : Nat → Nat) (nx ny : Nat) (j k : Int) (fk : Int) (a b c p q : Nat) (gk : Int) (a2 b2 c2 p2 q2 : Nat) (m o : Nat) : szL (cdJet x y nx ny j k fk a b c p q gk a2 b2 c2 p2 q2 m o) = nx + ny := by
  have e1 := CD.sz_flts (n := nx) (x := fun i => CD.fcn .f32 (x i)) (fun i _ => rfl)
  have e2 := CD.sz_flts (n := ny) (x := fun i => CD.fcn .f32 (y i)) (fun i _ => rfl)
  simp only [cdJet, szL, List.map_cons, List.map_nil, List.sum_cons, List.sum_nil, e1, e2]
  simp [CD.sz]
theorem layJet (x y : Nat → Nat) (nx ny : Nat) (j k : Int) (fk : Int) (a b c p q : Nat) (gk : Int) (a2 b2 c2 p2 q2 : Nat) (m o : Nat) {lo : Nat} {s t : Value} {w : World} (h : Two lo x nx y ny s t w) (wi : (Lit.int .i64 j).wf = true ∧ (Lit.int .i64 k).wf = true ∧ (Lit.int .i64 fk).wf = true ∧ (Lit.int .i64 gk).wf = true) (hf : fits .f32 a ∧ fits .f32 b ∧ fits .f32 c ∧ fits .f32 p ∧ fits .f32 q ∧ fits .f32 a2 ∧ fits .f32 b2 ∧ fits .f32 c2 ∧ fits .f32 p2 ∧ fits .f32 q2 ∧ fits .f32 m ∧ fits .f32 o) : LayL w (rng lo w.heap.size) (cdJet x y nx ny j k fk a b c p q gk a2 b2 c2 p2 q2 m o) [s, .int .i64 j, t, .int .i64 k, .int .i64 fk, .float .f32 a, .float .f32 b, .float .f32 c, .float .f32 p, .float .f32 q, .int .i64 gk, .float .f32 a2, .float .f32 b2, .float .f32 c2, .float .f32 p2, .float .f32 q2, .float .f32 m, .float .f32 o] := by
  obtain ⟨wj, wk, wfk, wgk⟩ := wi
  obtain ⟨fa, fb, fc, fp, fq, fa2, fb2, fc2, fp2, fq2, fm, fo⟩ := hf
  obtain ⟨bq, dq, h1, h2, h3, h4, h5, h6, h7⟩ := h
  have e1 : LayL w (rng dq (dq + 1)) ([.sl 1 ny (fun i => .fcn .f32 (y i)), .int .i64 k, .int .i64 fk, .flt .f32 a, .flt .f32 b, .flt .f32 c, .flt .f32 p, .flt .f32 q, .int .i64 gk, .flt .f32 a2, .flt .f32 b2, .flt .f32 c2, .flt .f32 p2, .flt .f32 q2, .flt .f32 m, .flt .f32 o] : List CD) [t, .int .i64 k, .int .i64 fk, .float .f32 a, .float .f32 b, .float .f32 c, .float .f32 p, .float .f32 q, .int .i64 gk, .float .f32 a2, .float .f32 b2, .float .f32 c2, .float .f32 p2, .float .f32 q2, .float .f32 m, .float .f32 o] := LayL.cons h2.lay (LayL.leaf ⟨rfl, wk⟩ (LayL.leaf ⟨rfl, wfk⟩ (LayL.leaf ⟨rfl, fa⟩ (LayL.leaf ⟨rfl, fb⟩ (LayL.leaf ⟨rfl, fc⟩ (LayL.leaf ⟨rfl, fp⟩ (LayL.leaf ⟨rfl, fq⟩ (LayL.leaf ⟨rfl, wgk⟩ (LayL.leaf ⟨rfl, fa2⟩ (LayL.leaf ⟨rfl, fb2⟩ (LayL.leaf ⟨rfl, fc2⟩ (LayL.leaf ⟨rfl, fp2⟩ (LayL.leaf ⟨rfl, fq2⟩ (LayL.leaf ⟨rfl, fm⟩ (LayL.leaf ⟨rfl, fo⟩ (LayL.nil _ (fun _ => False))))))))))))))))) (fun _ h => h) (fun _ h => h.elim) (fun _ _ h => h)
  exact LayL.cons (S1 := rng bq (bq + 1)) (S2 := rng dq (dq + 1)) h1.lay (LayL.leaf ⟨rfl, wj⟩ e1) (fun j h => ⟨Nat.le_trans h4 h.1, by have := h.2; omega⟩) (fun j h => ⟨Nat.le_trans h6 h.1, by have := h.2; omega⟩) (fun j h h2 => by have a1 := h.1; have a2 := h.2; have b1 := h2.1; have b2 := h2.2; omega)
theorem layJet0 (w : World) (S : Nat → Prop) : LayL w S (cdJet (fun _ => 0) (fun _ => 0) 0 0 0 0 0 0 0 0 0 0 0 0 0 0 0 0 0 0) [.slice none 0 0, .int .i64 0, .slice none 0 0, .int .i64 0, .int .i64 0, .float .f32 0, .float .f32 0, .float .f32 0, .float .f32 0, .float .f32 0, .int .i64 0, .float .f32 0, .float .f32 0, .float .f32 0, .float .f32 0, .float .f32 0, .float .f32 0, .float .f32 0] :=
  (LayL.leaf (.inl ⟨rfl, rfl⟩) (LayL.leaf ⟨rfl, by decide⟩ (LayL.leaf (.inl ⟨rfl, rfl⟩) (LayL.leaf ⟨rfl, by decide⟩ (LayL.leaf ⟨rfl, by decide⟩ (LayL.leaf ⟨rfl, by simp [fits, Lit.wf]⟩ (LayL.leaf ⟨rfl, by simp [fits, Lit.wf]⟩ (LayL.leaf ⟨rfl, by simp [fits, Lit.wf]⟩ (LayL.leaf ⟨rfl, by simp [fits, Lit.wf]⟩ (LayL.leaf ⟨rfl, by simp [fits, Lit.wf]⟩ (LayL.leaf ⟨rfl, by decide⟩ (LayL.leaf ⟨rfl, by simp [fits, Lit.wf]⟩ (LayL.leaf ⟨rfl, by simp [fits, Lit.wf]⟩ (LayL.leaf ⟨rfl, by simp [fits, Lit.wf]⟩ (LayL.leaf ⟨rfl, by simp [fits, Lit.wf]⟩ (LayL.leaf ⟨rfl, by simp [fits, Lit.wf]⟩ (LayL.leaf ⟨rfl, by simp [fits, Lit.wf]⟩ (LayL.leaf ⟨rfl, by simp [fits, Lit.wf]⟩ (LayL.nil _ _)))))))))))))))))))
theorem okJet_j {x y : Nat → Nat} {nx ny : Nat} {j k : Int} {fk : Int} {a b c p q : Nat} {gk : Int} {a2 b2 c2 p2 q2 : Nat} {m o : Nat} (h : okJet x y nx ny j k fk a b c p q gk a2 b2 c2 p2 q2 m o = true) : 1 ≤ nx ∧ nx ≤ 1024 ∧ 1 ≤ ny ∧ ny ≤ 1024 ∧ (∃ i : Nat, j = i ∧ i < nx) ∧ (∃ i : Nat, k = i ∧ i < ny) ∧ fk = 1 ∧ okF 1 a b c p q = true ∧ gk = 5 ∧ okF 5 a2 b2 c2 p2 q2 = true := by
  unfold okJet at h
  simp only [Bool.and_eq_true, beq_iff_eq] at h
  obtain ⟨⟨⟨⟨⟨⟨⟨q0, q1⟩, q2⟩, q3⟩, q4⟩, q5⟩, q6⟩, q7⟩ := h
  obtain ⟨a1, a2, i, rfl, a3⟩ := rngB_j q4
  obtain ⟨b1, b2, i2, rfl, b3⟩ := rngB_j q5
  subst q0
  subst q2
  exact ⟨a1, a2, b1, b2, ⟨i, rfl, a3⟩, ⟨i2, rfl, b3⟩, rfl, q1, rfl, q3⟩
end Go.Proofs.Ytgjdmoenobacgaa

/- The contracts of 'ClampSample' and of its like in the model. -/
namespace Go.Fk
/-- A sample within limits. -/
def clamp (x l : Nat) : Nat := if (FloatKind.f32.format.order x l == some .gt) = true then l else if (FloatKind.f32.format.order x (neg .f32 l) == some .lt) = true then neg .f32 l else x
theorem fits_clamp {x l : Nat} (hx : fits .f32 x) (hl : fits .f32 l) : fits .f32 (clamp x l) := by
  unfold clamp; split
  · exact hl
  · split
    · exact fits_neg hl
    · exact hx
theorem clamp_congr {x x' l l' : Nat} (hx : can .f32 x = can .f32 x') (hl : can .f32 l = can .f32 l') : can .f32 (clamp x l) = can .f32 (clamp x' l') := by
  unfold clamp
  rw [order_congr hx hl, order_congr hx (neg_congr hl)]
  split
  · exact hl
  · split
    · exact neg_congr hl
    · exact hx
end Go.Fk
namespace Go.Proofs.Ytgjdmoenobacgaa
open Go.RowKit Go.Fk
theorem i_ClampSample (x l : Nat) (w : World) : Calls Try.prog 142 #[.float .f32 x, .float .f32 l] w fun e w' => e = .returned (.float .f32 (clamp x l)) ∧ w = w' := by
  cases h1 : (FloatKind.f32.format.order x l == some .gt) <;> cases h2 : (FloatKind.f32.format.order x (neg .f32 l) == some .lt)
  all_goals
    go_enter Try.func142, Try.ntmps142
    go_wp2
    go_ret
    exact ⟨ret_f (by simp [clamp, h1, h2]), rfl⟩
theorem s_l01Clamp (x l : Nat) (w : World) : Calls Try.prog 141 #[.float .f32 x, .float .f32 l] w fun e w' => e = .returned (.float .f32 (clamp x l)) ∧ w = w' := by
  cases h1 : (FloatKind.f32.format.order x l == some .gt) <;> cases h2 : (FloatKind.f32.format.order x (neg .f32 l) == some .lt)
  all_goals
    go_enter Try.func141, Try.ntmps141
    go_wp2
    go_ret
    exact ⟨ret_f (by simp [clamp, h1, h2]), rfl⟩
end Go.Proofs.Ytgjdmoenobacgaa

/- 'JetAt' of both. -/
namespace Go.Fk
open Go Go.RowKit
/-- What a jet makes of a pressure, up to the bits of NaN. -/
def jetV (p : Nat) : Nat := can .f32 (clamp (fop .mul .f32 p (fop .sub .f32 (fop .mul .f32 p p) 1065353216)) 1065353216)
theorem jet_of {p a b y : Nat} (h1 : can .f32 a = fop .mul .f32 p p) (h2 : can .f32 b = fop .sub .f32 a 1065353216) (h3 : can .f32 y = fop .mul .f32 p b) : can .f32 (clamp y 1065353216) = jetV p := by
  unfold jetV
  refine clamp_congr ?_ rfl
  rw [can_fop, h3]
  refine fop_congr rfl ?_
  rw [h2, can_fop]
  exact fop_congr (h1.trans (can_fop _ _ _ _).symm) rfl
theorem jetV_congr {p q : Nat} (h : can .f32 p = can .f32 q) : jetV p = jetV q := by
  unfold jetV
  refine clamp_congr ?_ rfl
  rw [can_fop, can_fop]
  refine fop_congr h ?_
  rw [can_fop, can_fop]
  refine fop_congr ?_ rfl
  rw [can_fop, can_fop]
  exact fop_congr h h
end Go.Fk
namespace Go.Proofs.Ytgjdmoenobacgaa
open Go.RowKit Go.Fk
theorem i_JetAt (p : Nat) (w : World) : Calls Try.prog 127 #[.float .f32 p] w (Out_f (jetV p) w) := by
  go_enter Try.func127, Try.ntmps127
  go_wp2_with (first | (with_reducible refine wpList_farith rfl rfl rfl rfl rfl ?_; intro r1 n1 hr1 hf1) | (go_at_call 142; refine (i_ClampSample _ _ _).mono ?_; rintro e w' ⟨rfl, rfl⟩))
  go_ret
  exact ⟨_, rfl, jet_of ‹Hid (can .f32 _ = fop .mul .f32 p p)›.out ‹Hid (can .f32 _ = fop .sub .f32 _ _)›.out (Hid.out (by assumption)), le_drewN _ _⟩
theorem s_l05Edge (p : Nat) (w : World) : Calls Try.prog 126 #[.float .f32 p] w (Out_f (jetV p) w) := by
  go_enter Try.func126, Try.ntmps126
  go_wp2_with (first | (with_reducible refine wpList_farith rfl rfl rfl rfl rfl ?_; intro r1 n1 hr1 hf1) | (go_at_call 141; refine (s_l01Clamp _ _ _).mono ?_; rintro e w' ⟨rfl, rfl⟩))
  go_ret
  exact ⟨_, rfl, jet_of ‹Hid (can .f32 _ = fop .mul .f32 p p)›.out ‹Hid (can .f32 _ = fop .sub .f32 _ _)›.out (Hid.out (by assumption)), le_drewN _ _⟩
end Go.Proofs.Ytgjdmoenobacgaa
