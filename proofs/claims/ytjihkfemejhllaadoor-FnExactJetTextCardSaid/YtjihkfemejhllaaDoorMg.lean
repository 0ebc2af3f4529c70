/- Texts of the walk, laid in one file. -/
import Derived.Test.YtjihkfemejhllaaDoorMf
set_option linter.unusedVariables false
set_option linter.unusedSimpArgs false
/- 'ValidJet' of both. -/
namespace Go.Fk
open Go Go.RowKit
def okJet (x y : Nat → Nat) (nx ny : Nat) (j k : Int) (fk : Int) (a b c p q : Nat) (gk : Int) (a2 b2 c2 p2 q2 : Nat) (m o : Nat) : Bool := (fk == 1) && okF fk a b c p q && (gk == 5) && okF gk a2 b2 c2 p2 q2 && rngB x nx j && rngB y ny k && fin m && fin o
end Go.Fk
namespace Go.Proofs.YtjihkfemejhllaaDoor
open Go.RowKit Go.Fk
set_option maxRecDepth 100000 in
set_option maxHeartbeats 4000000 in
@[go_sem] theorem taJet (v : Value) (w : World) : (Instr.typeAssert (.iface 46 v) 103 37 true).run Tryd.prog w = .ok (.tuple #[.agg #[.slice none 0 0, .int .i64 0, .slice none 0 0, .int .i64 0, .int .i64 0, .float .f32 0, .float .f32 0, .float .f32 0, .float .f32 0, .float .f32 0, .float .f32 0, .float .f32 0], .bool false]) w := by rfl
set_option maxRecDepth 100000 in
set_option maxHeartbeats 4000000 in
theorem i_filtersJet (s t : Value) (j k fk gk : Int) (a b c p q a2 b2 c2 p2 q2 m o : Nat) (w : World)  : Calls Tryd.prog 127 #[.agg #[s, .int .i64 j, t, .int .i64 k, .int .i64 fk, .float .f32 a, .float .f32 b, .float .f32 c, .float .f32 p, .float .f32 q, .int .i64 gk, .float .f32 a2, .float .f32 b2, .float .f32 c2, .float .f32 p2, .float .f32 q2, .float .f32 m, .float .f32 o]] w (OutSl 35 2 #[.int .i64 fk, .float .f32 a, .float .f32 b, .float .f32 c, .float .f32 p, .float .f32 q, .int .i64 gk, .float .f32 a2, .float .f32 b2, .float .f32 c2, .float .f32 p2, .float .f32 q2] w) := by
  have F := (Frg.nil w).box 46 #[s, .int .i64 j, t, .int .i64 k, .int .i64 fk, .float .f32 a, .float .f32 b, .float .f32 c, .float .f32 p, .float .f32 q, .int .i64 gk, .float .f32 a2, .float .f32 b2, .float .f32 c2, .float .f32 p2, .float .f32 q2, .float .f32 m, .float .f32 o]
  go_enter Tryd.func127, Tryd.ntmps127
  go_wp2_with (first | ((with_reducible refine at_load rfl ?_); first | (with_reducible refine wpList_loadGP F rfl rfl rfl (by first | exact m0 | exact m1 | exact m2) Tryd.underlying34 rfl [s, .int .i64 j] (partJet_Throat (s) (.int .i64 j) (t) (.int .i64 k) (.int .i64 fk) (.float .f32 a) (.float .f32 b) (.float .f32 c) (.float .f32 p) (.float .f32 q) (.int .i64 gk) (.float .f32 a2) (.float .f32 b2) (.float .f32 c2) (.float .f32 p2) (.float .f32 q2) (.float .f32 m) (.float .f32 o)) uinfoRingI rfl ?_) | (with_reducible refine wpList_loadGP F rfl rfl rfl (by first | exact m0 | exact m1 | exact m2) Tryd.underlying34 rfl [t, .int .i64 k] (partJet_Bore (s) (.int .i64 j) (t) (.int .i64 k) (.int .i64 fk) (.float .f32 a) (.float .f32 b) (.float .f32 c) (.float .f32 p) (.float .f32 q) (.int .i64 gk) (.float .f32 a2) (.float .f32 b2) (.float .f32 c2) (.float .f32 p2) (.float .f32 q2) (.float .f32 m) (.float .f32 o)) uinfoRingI rfl ?_) | (with_reducible refine wpList_loadGP F rfl rfl rfl (by first | exact m0 | exact m1 | exact m2) Tryd.underlying35 rfl [.int .i64 fk, .float .f32 a, .float .f32 b, .float .f32 c, .float .f32 p, .float .f32 q] (partJet_Low (s) (.int .i64 j) (t) (.int .i64 k) (.int .i64 fk) (.float .f32 a) (.float .f32 b) (.float .f32 c) (.float .f32 p) (.float .f32 q) (.int .i64 gk) (.float .f32 a2) (.float .f32 b2) (.float .f32 c2) (.float .f32 p2) (.float .f32 q2) (.float .f32 m) (.float .f32 o)) uinfoFilterI rfl ?_) | (with_reducible refine wpList_loadGP F rfl rfl rfl (by first | exact m0 | exact m1 | exact m2) Tryd.underlying35 rfl [.int .i64 gk, .float .f32 a2, .float .f32 b2, .float .f32 c2, .float .f32 p2, .float .f32 q2] (partJet_Dc (s) (.int .i64 j) (t) (.int .i64 k) (.int .i64 fk) (.float .f32 a) (.float .f32 b) (.float .f32 c) (.float .f32 p) (.float .f32 q) (.int .i64 gk) (.float .f32 a2) (.float .f32 b2) (.float .f32 c2) (.float .f32 p2) (.float .f32 q2) (.float .f32 m) (.float .f32 o)) uinfoFilterI rfl ?_) | (with_reducible refine wpList_load1 F rfl rfl rfl (by first | exact m0 | exact m1 | exact m2) (f := 16) (v := .float .f32 m) rfl ukindFloat32 ?_) | (with_reducible refine wpList_load1 F rfl rfl rfl (by first | exact m0 | exact m1 | exact m2) (f := 17) (v := .float .f32 o) rfl ukindFloat32 ?_)))
  go_ret
  exact ⟨w.heap.size + 1, rfl, by omega, Row.new' _ _ _ (by simp), le_trans (le_alloc _ _) (le_alloc _ _)⟩
set_option maxRecDepth 100000 in
set_option maxHeartbeats 4000000 in
theorem i_ringsJet (s t : Value) (j k fk gk : Int) (a b c p q a2 b2 c2 p2 q2 m o : Nat) (w : World)  : Calls Tryd.prog 129 #[.agg #[s, .int .i64 j, t, .int .i64 k, .int .i64 fk, .float .f32 a, .float .f32 b, .float .f32 c, .float .f32 p, .float .f32 q, .int .i64 gk, .float .f32 a2, .float .f32 b2, .float .f32 c2, .float .f32 p2, .float .f32 q2, .float .f32 m, .float .f32 o]] w (OutSl 34 2 #[s, .int .i64 j, t, .int .i64 k] w) := by
  have F := (Frg.nil w).box 46 #[s, .int .i64 j, t, .int .i64 k, .int .i64 fk, .float .f32 a, .float .f32 b, .float .f32 c, .float .f32 p, .float .f32 q, .int .i64 gk, .float .f32 a2, .float .f32 b2, .float .f32 c2, .float .f32 p2, .float .f32 q2, .float .f32 m, .float .f32 o]
  go_enter Tryd.func129, Tryd.ntmps129
  go_wp2_with (first | ((with_reducible refine at_load rfl ?_); first | (with_reducible refine wpList_loadGP F rfl rfl rfl (by first | exact m0 | exact m1 | exact m2) Tryd.underlying34 rfl [s, .int .i64 j] (partJet_Throat (s) (.int .i64 j) (t) (.int .i64 k) (.int .i64 fk) (.float .f32 a) (.float .f32 b) (.float .f32 c) (.float .f32 p) (.float .f32 q) (.int .i64 gk) (.float .f32 a2) (.float .f32 b2) (.float .f32 c2) (.float .f32 p2) (.float .f32 q2) (.float .f32 m) (.float .f32 o)) uinfoRingI rfl ?_) | (with_reducible refine wpList_loadGP F rfl rfl rfl (by first | exact m0 | exact m1 | exact m2) Tryd.underlying34 rfl [t, .int .i64 k] (partJet_Bore (s) (.int .i64 j) (t) (.int .i64 k) (.int .i64 fk) (.float .f32 a) (.float .f32 b) (.float .f32 c) (.float .f32 p) (.float .f32 q) (.int .i64 gk) (.float .f32 a2) (.float .f32 b2) (.float .f32 c2) (.float .f32 p2) (.float .f32 q2) (.float .f32 m) (.float .f32 o)) uinfoRingI rfl ?_) | (with_reducible refine wpList_loadGP F rfl rfl rfl (by first | exact m0 | exact m1 | exact m2) Tryd.underlying35 rfl [.int .i64 fk, .float .f32 a, .float .f32 b, .float .f32 c, .float .f32 p, .float .f32 q] (partJet_Low (s) (.int .i64 j) (t) (.int .i64 k) (.int .i64 fk) (.float .f32 a) (.float .f32 b) (.float .f32 c) (.float .f32 p) (.float .f32 q) (.int .i64 gk) (.float .f32 a2) (.float .f32 b2) (.float .f32 c2) (.float .f32 p2) (.float .f32 q2) (.float .f32 m) (.float .f32 o)) uinfoFilterI rfl ?_) | (with_reducible refine wpList_loadGP F rfl rfl rfl (by first | exact m0 | exact m1 | exact m2) Tryd.underlying35 rfl [.int .i64 gk, .float .f32 a2, .float .f32 b2, .float .f32 c2, .float .f32 p2, .float .f32 q2] (partJet_Dc (s) (.int .i64 j) (t) (.int .i64 k) (.int .i64 fk) (.float .f32 a) (.float .f32 b) (.float .f32 c) (.float .f32 p) (.float .f32 q) (.int .i64 gk) (.float .f32 a2) (.float .f32 b2) (.float .f32 c2) (.float .f32 p2) (.float .f32 q2) (.float .f32 m) (.float .f32 o)) uinfoFilterI rfl ?_) | (with_reducible refine wpList_load1 F rfl rfl rfl (by first | exact m0 | exact m1 | exact m2) (f := 16) (v := .float .f32 m) rfl ukindFloat32 ?_) | (with_reducible refine wpList_load1 F rfl rfl rfl (by first | exact m0 | exact m1 | exact m2) (f := 17) (v := .float .f32 o) rfl ukindFloat32 ?_)))
  go_ret
  exact ⟨w.heap.size + 1, rfl, by omega, Row.new' _ _ _ (by simp), le_trans (le_alloc _ _) (le_alloc _ _)⟩
set_option maxRecDepth 100000 in
set_option maxHeartbeats 4000000 in
theorem i_numbersJet (s t : Value) (j k fk gk : Int) (a b c p q a2 b2 c2 p2 q2 m o : Nat) (w : World)  : Calls Tryd.prog 128 #[.agg #[s, .int .i64 j, t, .int .i64 k, .int .i64 fk, .float .f32 a, .float .f32 b, .float .f32 c, .float .f32 p, .float .f32 q, .int .i64 gk, .float .f32 a2, .float .f32 b2, .float .f32 c2, .float .f32 p2, .float .f32 q2, .float .f32 m, .float .f32 o]] w (OutSl 25 2 #[.float .f32 m, .float .f32 o] w) := by
  have F := (Frg.nil w).box 46 #[s, .int .i64 j, t, .int .i64 k, .int .i64 fk, .float .f32 a, .float .f32 b, .float .f32 c, .float .f32 p, .float .f32 q, .int .i64 gk, .float .f32 a2, .float .f32 b2, .float .f32 c2, .float .f32 p2, .float .f32 q2, .float .f32 m, .float .f32 o]
  go_enter Tryd.func128, Tryd.ntmps128
  go_wp2_with (first | ((with_reducible refine at_load rfl ?_); first | (with_reducible refine wpList_loadGP F rfl rfl rfl (by first | exact m0 | exact m1 | exact m2) Tryd.underlying34 rfl [s, .int .i64 j] (partJet_Throat (s) (.int .i64 j) (t) (.int .i64 k) (.int .i64 fk) (.float .f32 a) (.float .f32 b) (.float .f32 c) (.float .f32 p) (.float .f32 q) (.int .i64 gk) (.float .f32 a2) (.float .f32 b2) (.float .f32 c2) (.float .f32 p2) (.float .f32 q2) (.float .f32 m) (.float .f32 o)) uinfoRingI rfl ?_) | (with_reducible refine wpList_loadGP F rfl rfl rfl (by first | exact m0 | exact m1 | exact m2) Tryd.underlying34 rfl [t, .int .i64 k] (partJet_Bore (s) (.int .i64 j) (t) (.int .i64 k) (.int .i64 fk) (.float .f32 a) (.float .f32 b) (.float .f32 c) (.float .f32 p) (.float .f32 q) (.int .i64 gk) (.float .f32 a2) (.float .f32 b2) (.float .f32 c2) (.float .f32 p2) (.float .f32 q2) (.float .f32 m) (.float .f32 o)) uinfoRingI rfl ?_) | (with_reducible refine wpList_loadGP F rfl rfl rfl (by first | exact m0 | exact m1 | exact m2) Tryd.underlying35 rfl [.int .i64 fk, .float .f32 a, .float .f32 b, .float .f32 c, .float .f32 p, .float .f32 q] (partJet_Low (s) (.int .i64 j) (t) (.int .i64 k) (.int .i64 fk) (.float .f32 a) (.float .f32 b) (.float .f32 c) (.float .f32 p) (.float .f32 q) (.int .i64 gk) (.float .f32 a2) (.float .f32 b2) (.float .f32 c2) (.float .f32 p2) (.float .f32 q2) (.float .f32 m) (.float .f32 o)) uinfoFilterI rfl ?_) | (with_reducible refine wpList_loadGP F rfl rfl rfl (by first | exact m0 | exact m1 | exact m2) Tryd.underlying35 rfl [.int .i64 gk, .float .f32 a2, .float .f32 b2, .float .f32 c2, .float .f32 p2, .float .f32 q2] (partJet_Dc (s) (.int .i64 j) (t) (.int .i64 k) (.int .i64 fk) (.float .f32 a) (.float .f32 b) (.float .f32 c) (.float .f32 p) (.float .f32 q) (.int .i64 gk) (.float .f32 a2) (.float .f32 b2) (.float .f32 c2) (.float .f32 p2) (.float .f32 q2) (.float .f32 m) (.float .f32 o)) uinfoFilterI rfl ?_) | (with_reducible refine wpList_load1 F rfl rfl rfl (by first | exact m0 | exact m1 | exact m2) (f := 16) (v := .float .f32 m) rfl ukindFloat32 ?_) | (with_reducible refine wpList_load1 F rfl rfl rfl (by first | exact m0 | exact m1 | exact m2) (f := 17) (v := .float .f32 o) rfl ukindFloat32 ?_)))
  go_ret
  exact ⟨w.heap.size + 1, rfl, by omega, Row.new' _ _ _ (by simp), le_trans (le_alloc _ _) (le_alloc _ _)⟩
def wordVJet : ByteArray := ⟨#[106, 101, 116]⟩
set_option maxRecDepth 100000 in
set_option maxHeartbeats 4000000 in
theorem i_wordJet (v : Value) (w : World) : Calls Tryd.prog 58 #[.iface 46 v] w fun e w' => ∃ g, e = .returned (.tuple #[.string wordVJet, .slice (some ⟨g, 0, none⟩) 2 2]) ∧ w.heap.size ≤ g ∧ Row w' g 2 #[.int .i64 1, .int .i64 5] ∧ le w w' := by
  go_enter Tryd.func58, Tryd.ntmps58
  go_wp2
  go_ret2
  exact ⟨w.heap.size, rfl, Nat.le_refl _, Row.new _ _ _, le_alloc _ _⟩
theorem filAtJet0 (fk : Int) (a b c p q : Nat) (gk : Int) (a2 b2 c2 p2 q2 : Nat) : ∀ j, j < ([.int .i64 fk, .float .f32 a, .float .f32 b, .float .f32 c, .float .f32 p, .float .f32 q] : List Value).length → (#[.int .i64 fk, .float .f32 a, .float .f32 b, .float .f32 c, .float .f32 p, .float .f32 q, .int .i64 gk, .float .f32 a2, .float .f32 b2, .float .f32 c2, .float .f32 p2, .float .f32 q2] : Array Value)[0 + j]? = ([.int .i64 fk, .float .f32 a, .float .f32 b, .float .f32 c, .float .f32 p, .float .f32 q] : List Value)[j]? := fun j hj => by match j, hj with | 0, _ => rfl | 1, _ => rfl | 2, _ => rfl | 3, _ => rfl | 4, _ => rfl | 5, _ => rfl
theorem filAtJet1 (fk : Int) (a b c p q : Nat) (gk : Int) (a2 b2 c2 p2 q2 : Nat) : ∀ j, j < ([.int .i64 gk, .float .f32 a2, .float .f32 b2, .float .f32 c2, .float .f32 p2, .float .f32 q2] : List Value).length → (#[.int .i64 fk, .float .f32 a, .float .f32 b, .float .f32 c, .float .f32 p, .float .f32 q, .int .i64 gk, .float .f32 a2, .float .f32 b2, .float .f32 c2, .float .f32 p2, .float .f32 q2] : Array Value)[6 + j]? = ([.int .i64 gk, .float .f32 a2, .float .f32 b2, .float .f32 c2, .float .f32 p2, .float .f32 q2] : List Value)[j]? := fun j hj => by match j, hj with | 0, _ => rfl | 1, _ => rfl | 2, _ => rfl | 3, _ => rfl | 4, _ => rfl | 5, _ => rfl
set_option maxRecDepth 100000 in
set_option maxHeartbeats 4000000 in
theorem i_validPartsJet (x y : Nat → Nat) (nx ny : Nat) (j k : Int) (fk : Int) (a b c p q : Nat) (gk : Int) (a2 b2 c2 p2 q2 : Nat) (m o : Nat) (B : Nat) (s t : Value) (w : World) (hs : (slT x nx).RdN w B s) (ht : (slT y ny).RdN w B t) (wf : (Lit.int .i64 j).wf = true ∧ (Lit.int .i64 k).wf = true) (hf : (fits .f32 a ∧ fits .f32 b ∧ fits .f32 c ∧ fits .f32 p ∧ fits .f32 q ∧ fits .f32 a2 ∧ fits .f32 b2 ∧ fits .f32 c2 ∧ fits .f32 p2 ∧ fits .f32 q2 ∧ fits .f32 m ∧ fits .f32 o)) :
    Calls Tryd.prog 57 #[.iface 46 (.agg #[s, .int .i64 j, t, .int .i64 k, .int .i64 fk, .float .f32 a, .float .f32 b, .float .f32 c, .float .f32 p, .float .f32 q, .int .i64 gk, .float .f32 a2, .float .f32 b2, .float .f32 c2, .float .f32 p2, .float .f32 q2, .float .f32 m, .float .f32 o])] w (Out_b (okJet x y nx ny j k fk a b c p q gk a2 b2 c2 p2 q2 m o) w) := by
  obtain ⟨fa, fb, fc, fp, fq, fa2, fb2, fc2, fp2, fq2, fm, fo⟩ := hf
  obtain ⟨wj, wk⟩ := wf
  have HV0 := hid (fun w' => i_ValidFilter fk a b c p q w' ⟨fa, fb, fc, fp, fq⟩)
  have HV1 := hid (fun w' => i_ValidFilter gk a2 b2 c2 p2 q2 w' ⟨fa2, fb2, fc2, fp2, fq2⟩)
  have HX := hid (fun (w' : World) (hl : le w w') => i_isFiniteRing B s x nx j w' ((slT_rds hs).le hl))
  have HY := hid (fun (w' : World) (hl : le w w') => i_isFiniteRing B t y ny k w' ((slT_rds ht).le hl))
  have HN := hid (fun (b : Nat) (w' : World) (R : Row w' b 25 #[.float .f32 m, .float .f32 o]) => i_areFiniteQ (b + 1) (.slice (some ⟨b, 0, none⟩) 2 2) (two m o) 2 w' (two_rd fm fo R))
  have HW := hid (fun (w' : World) => i_wordJet (.agg #[s, .int .i64 j, t, .int .i64 k, .int .i64 fk, .float .f32 a, .float .f32 b, .float .f32 c, .float .f32 p, .float .f32 q, .int .i64 gk, .float .f32 a2, .float .f32 b2, .float .f32 c2, .float .f32 p2, .float .f32 q2, .float .f32 m, .float .f32 o]) w')
  have HF := hid (fun (w' : World) => i_filtersJet s t j k fk gk a b c p q a2 b2 c2 p2 q2 m o w')
  have HR := hid (fun (w' : World) => i_ringsJet s t j k fk gk a b c p q a2 b2 c2 p2 q2 m o w')
  have HM := hid (fun (w' : World) => i_numbersJet s t j k fk gk a b c p q a2 b2 c2 p2 q2 m o w')
  have SO0 := hid (slT_rds hs).one; have SO1 := hid (slT_rds ht).one
  clear hs ht wj wk fa fb fc fp fq fa2 fb2 fc2 fp2 fq2 fm fo
  change Calls _ _ _ _ (Out_b ((fk == 1) && okF fk a b c p q && (gk == 5) && okF gk a2 b2 c2 p2 q2 && rngB x nx j && rngB y ny k && fin m && fin o) w)
  rw [show ((fk == 1) && okF fk a b c p q && (gk == 5) && okF gk a2 b2 c2 p2 q2 && rngB x nx j && rngB y ny k && fin m && fin o) = ((fk == 1) && okF fk a b c p q && (gk == 5) && okF gk a2 b2 c2 p2 q2 && rngB x nx j && rngB y ny k && finB (two m o) 2) by rw [fin_two, ← Bool.and_assoc]]
  go_enter Tryd.func57, Tryd.ntmps57
  have F := Frg.nil w
  go_wp2_with (first | (go_at_call 58; ((with_reducible refine (HW.out _).mono ?_); rintro e w1 ⟨gK, rfl, hgK, hrK, hlK⟩; replace F := F.rowS hlK hgK hrK; clear hgK hrK hlK)) | (go_at_call 127; ((with_reducible refine (HF.out _).mono ?_); rintro e w2 ⟨gF, rfl, hgF, hrF, hlF⟩; replace F := F.rowS hlF hgF hrF; clear hgF hrF hlF)))
  go_loopw [17] (fun i wr => ∃ n : Nat, n ≤ 2 ∧ i = .int .i64 n ∧ Hid ((0 < n → (fk == 1) = true ∧ okF fk a b c p q = true) ∧ (1 < n → (gk == 5) = true ∧ okF gk a2 b2 c2 p2 q2 = true)) ∧ Hid (Frg w wr [rowF gF 35 #[.int .i64 fk, .float .f32 a, .float .f32 b, .float .f32 c, .float .f32 p, .float .f32 q, .int .i64 gk, .float .f32 a2, .float .f32 b2, .float .f32 c2, .float .f32 p2, .float .f32 q2], rowF gK 2 #[.int .i64 1, .int .i64 5]])) (fun i _ => 2 - (intOf i).toNat)
  case atStart => exact ⟨0, by omega, rfl, ⟨fun h => absurd h (by omega), fun h => absurd h (by omega)⟩, F⟩
  case round =>
    clear F
    obtain ⟨n, hn, rfl, HP, HF0⟩ := hrel
    rename_i wr _
    match n, hn with
    | 0, _ =>
      have F := HF0.out
      go_wp2_with (first | ((with_reducible refine listN F ?_); clear F; intro wN F) | (with_reducible refine wpList_indexW0 (i := 0) rfl rfl rfl rfl Tryd.underlying116 uinfoFilterI (by decide) ?_) | ((with_reducible refine at_load rfl ?_); (with_reducible refine wpList_loadGP F rfl rfl rfl (by first | exact m0 | exact m1 | exact m2 | exact m3 | exact m4 | exact m5 | exact m6 | exact m7) Tryd.underlying35 rfl [.int .i64 fk, .float .f32 a, .float .f32 b, .float .f32 c, .float .f32 p, .float .f32 q] (filAtJet0 fk a b c p q gk a2 b2 c2 p2 q2) uinfoFilterI rfl ?_)))
      replace F := F.box 35 #[.int .i64 fk, .float .f32 a, .float .f32 b, .float .f32 c, .float .f32 p, .float .f32 q]
      cases hc : (fk == 1)
      · have hne := hid (show (fk != 1) = true by rw [bne, hc]; rfl)
        obtain ⟨hp0, hp1⟩ := HP.out
        have E := hid (show ((fk == 1) && okF fk a b c p q && (gk == 5) && okF gk a2 b2 c2 p2 q2 && rngB x nx j && rngB y ny k && finB (two m o) 2) = false by simp [hc])
        clear hc hp0 hp1
        refine region_freeD (E := leX) (fun _ _ _ v => v = .bool false) (by kernel_rfl) (by kernel_rfl) ?_
        refine wpFreeD_one rfl (.pointer (some ⟨wr.heap.size, 0, none⟩)) (fun w1 _ => by kernel_rfl) ?_
        simp only [Act.put, List.setIfInBounds_toArray, List.set_cons_succ, List.set_cons_zero]
        refine wpFreeD_load1 rfl rfl rfl (p := ⟨wr.heap.size, 0, none⟩) (fun w1 h1 => (((F.drewN 1).le h1).row m0).cell? 0) ukindInt64 ?_
        simp only [Act.put, List.setIfInBounds_toArray, List.set_cons_succ, List.set_cons_zero]
        refine wpFreeD_one rfl (.slice (some ⟨gK, 0, none⟩) 2 2) (fun w1 _ => by kernel_rfl) ?_
        simp only [Act.put, List.setIfInBounds_toArray, List.set_cons_succ, List.set_cons_zero]
        refine wpFreeD_one rfl (.int .i64 0) (fun w1 _ => by kernel_rfl) ?_
        simp only [Act.put, List.setIfInBounds_toArray, List.set_cons_succ, List.set_cons_zero]
        refine wpFreeD_indexW0 rfl rfl (i := 0) rfl rfl Tryd.underlying108 uinfo1Int64 (by decide) ?_
        simp only [Act.put, List.setIfInBounds_toArray, List.set_cons_succ, List.set_cons_zero]
        refine wpFreeD_load1 rfl rfl rfl (p := ⟨gK, 0 + 0 * 1, none⟩) (fun w1 h1 => (((F.drewN 1).le h1).row m2).cell? 0) ukindInt64 ?_
        simp only [Act.put, List.setIfInBounds_toArray, List.set_cons_succ, List.set_cons_zero]
        refine wpFreeD_one rfl (.bool (fk != 1)) (fun w1 _ => by kernel_rfl) ?_
        simp only [Act.put, List.setIfInBounds_toArray, List.set_cons_succ, List.set_cons_zero]
        rw [hne.out]
        refine wpFreeD_one rfl (.bool true) (fun w1 _ => by kernel_rfl) ?_
        simp only [Act.put, List.setIfInBounds_toArray, List.set_cons_succ, List.set_cons_zero]
        refine wpFreeD_skip (by kernel_rfl) ?_
        simp only [Act.put, List.setIfInBounds_toArray, List.set_cons_succ, List.set_cons_zero]
        refine wpFreeD_skip (by kernel_rfl) ?_
        simp only [Act.put, List.setIfInBounds_toArray, List.set_cons_succ, List.set_cons_zero]
        refine wpFreeD_skip (by kernel_rfl) ?_
        simp only [Act.put, List.setIfInBounds_toArray, List.set_cons_succ, List.set_cons_zero]
        refine wpFreeD_one rfl (.bool true) (fun w1 _ => by kernel_rfl) ?_
        simp only [Act.put, List.setIfInBounds_toArray, List.set_cons_succ, List.set_cons_zero]
        refine wpFreeD_nil (fun wR hwR _ => ?_)
        replace F := (F.drewN 1).le hwR
        clear hwR
        go_wp2
        go_ret
        exact ⟨ret_b E.out.symm, F.below⟩
      have hne := hid (show (fk != 1) = false by rw [bne, hc]; rfl)
      cases hk : okF fk a b c p q
      · rw [hk] at HV0
        obtain ⟨hp0, hp1⟩ := HP.out
        have E := hid (show ((fk == 1) && okF fk a b c p q && (gk == 5) && okF gk a2 b2 c2 p2 q2 && rngB x nx j && rngB y ny k && finB (two m o) 2) = false by simp [hk])
        clear hc hk hp0 hp1
        refine region_freeD (E := leX) (fun _ _ _ v => v = .bool false) (by kernel_rfl) (by kernel_rfl) ?_
        refine wpFreeD_one rfl (.pointer (some ⟨wr.heap.size, 0, none⟩)) (fun w1 _ => by kernel_rfl) ?_
        simp only [Act.put, List.setIfInBounds_toArray, List.set_cons_succ, List.set_cons_zero]
        refine wpFreeD_load1 rfl rfl rfl (p := ⟨wr.heap.size, 0, none⟩) (fun w1 h1 => (((F.drewN 1).le h1).row m0).cell? 0) ukindInt64 ?_
        simp only [Act.put, List.setIfInBounds_toArray, List.set_cons_succ, List.set_cons_zero]
        refine wpFreeD_one rfl (.slice (some ⟨gK, 0, none⟩) 2 2) (fun w1 _ => by kernel_rfl) ?_
        simp only [Act.put, List.setIfInBounds_toArray, List.set_cons_succ, List.set_cons_zero]
        refine wpFreeD_one rfl (.int .i64 0) (fun w1 _ => by kernel_rfl) ?_
        simp only [Act.put, List.setIfInBounds_toArray, List.set_cons_succ, List.set_cons_zero]
        refine wpFreeD_indexW0 rfl rfl (i := 0) rfl rfl Tryd.underlying108 uinfo1Int64 (by decide) ?_
        simp only [Act.put, List.setIfInBounds_toArray, List.set_cons_succ, List.set_cons_zero]
        refine wpFreeD_load1 rfl rfl rfl (p := ⟨gK, 0 + 0 * 1, none⟩) (fun w1 h1 => (((F.drewN 1).le h1).row m2).cell? 0) ukindInt64 ?_
        simp only [Act.put, List.setIfInBounds_toArray, List.set_cons_succ, List.set_cons_zero]
        refine wpFreeD_one rfl (.bool (fk != 1)) (fun w1 _ => by kernel_rfl) ?_
        simp only [Act.put, List.setIfInBounds_toArray, List.set_cons_succ, List.set_cons_zero]
        rw [hne.out]
        refine wpFreeD_one rfl (.bool false) (fun w1 _ => by kernel_rfl) ?_
        simp only [Act.put, List.setIfInBounds_toArray, List.set_cons_succ, List.set_cons_zero]
        refine wpFreeD_loadGW F rfl (by kernel_rfl) rfl rfl m0 Tryd.underlying35 rfl uinfoFilterI rfl ?_
        simp only [Act.put, List.setIfInBounds_toArray, List.set_cons_succ, List.set_cons_zero]
        refine wpFreeD_callW (by kernel_rfl) rfl Tryd.func63 (by kernel_rfl) (by kernel_rfl) (args := #[.agg #[.int .i64 fk, .float .f32 a, .float .f32 b, .float .f32 c, .float .f32 p, .float .f32 q]]) (by simp [Act.eval]) (fun v w1 w2 hw hv => hv) (fun w1 hw1 _ => (HV0.out w1).mono ?_) ?_
        · rintro e w2 ⟨rfl, hl⟩
          exact ⟨_, rfl, hl, rfl⟩
        rintro v ⟨_, _, _, rfl⟩
        simp only [Act.put, List.setIfInBounds_toArray, List.set_cons_succ, List.set_cons_zero]
        refine wpFreeD_oneW (by kernel_rfl) (.bool true) (fun w1 _ => by kernel_rfl) ?_
        simp only [Act.put, List.setIfInBounds_toArray, List.set_cons_succ, List.set_cons_zero]
        refine wpFreeD_one rfl (.bool true) (fun w1 _ => by kernel_rfl) ?_
        simp only [Act.put, List.setIfInBounds_toArray, List.set_cons_succ, List.set_cons_zero]
        refine wpFreeD_nil (fun wR hwR _ => ?_)
        replace F := (F.drewN 1).le hwR
        clear hwR
        go_wp2
        go_ret
        exact ⟨ret_b E.out.symm, F.below⟩
      · rw [hk] at HV0
        have hkk := hid hk; have hcc := hid hc
        clear hc hk
        refine region_freeD (E := leX) (fun _ _ _ v => v = .bool true) (by kernel_rfl) (by kernel_rfl) ?_
        refine wpFreeD_one rfl (.pointer (some ⟨wr.heap.size, 0, none⟩)) (fun w1 _ => by kernel_rfl) ?_
        simp only [Act.put, List.setIfInBounds_toArray, List.set_cons_succ, List.set_cons_zero]
        refine wpFreeD_load1 rfl rfl rfl (p := ⟨wr.heap.size, 0, none⟩) (fun w1 h1 => (((F.drewN 1).le h1).row m0).cell? 0) ukindInt64 ?_
        simp only [Act.put, List.setIfInBounds_toArray, List.set_cons_succ, List.set_cons_zero]
        refine wpFreeD_one rfl (.slice (some ⟨gK, 0, none⟩) 2 2) (fun w1 _ => by kernel_rfl) ?_
        simp only [Act.put, List.setIfInBounds_toArray, List.set_cons_succ, List.set_cons_zero]
        refine wpFreeD_one rfl (.int .i64 0) (fun w1 _ => by kernel_rfl) ?_
        simp only [Act.put, List.setIfInBounds_toArray, List.set_cons_succ, List.set_cons_zero]
        refine wpFreeD_indexW0 rfl rfl (i := 0) rfl rfl Tryd.underlying108 uinfo1Int64 (by decide) ?_
        simp only [Act.put, List.setIfInBounds_toArray, List.set_cons_succ, List.set_cons_zero]
        refine wpFreeD_load1 rfl rfl rfl (p := ⟨gK, 0 + 0 * 1, none⟩) (fun w1 h1 => (((F.drewN 1).le h1).row m2).cell? 0) ukindInt64 ?_
        simp only [Act.put, List.setIfInBounds_toArray, List.set_cons_succ, List.set_cons_zero]
        refine wpFreeD_one rfl (.bool (fk != 1)) (fun w1 _ => by kernel_rfl) ?_
        simp only [Act.put, List.setIfInBounds_toArray, List.set_cons_succ, List.set_cons_zero]
        rw [hne.out]
        refine wpFreeD_one rfl (.bool false) (fun w1 _ => by kernel_rfl) ?_
        simp only [Act.put, List.setIfInBounds_toArray, List.set_cons_succ, List.set_cons_zero]
        refine wpFreeD_loadGW F rfl (by kernel_rfl) rfl rfl m0 Tryd.underlying35 rfl uinfoFilterI rfl ?_
        simp only [Act.put, List.setIfInBounds_toArray, List.set_cons_succ, List.set_cons_zero]
        refine wpFreeD_callW (by kernel_rfl) rfl Tryd.func63 (by kernel_rfl) (by kernel_rfl) (args := #[.agg #[.int .i64 fk, .float .f32 a, .float .f32 b, .float .f32 c, .float .f32 p, .float .f32 q]]) (by simp [Act.eval]) (fun v w1 w2 hw hv => hv) (fun w1 hw1 _ => (HV0.out w1).mono ?_) ?_
        · rintro e w2 ⟨rfl, hl⟩
          exact ⟨_, rfl, hl, rfl⟩
        rintro v ⟨_, _, _, rfl⟩
        simp only [Act.put, List.setIfInBounds_toArray, List.set_cons_succ, List.set_cons_zero]
        refine wpFreeD_oneW (by kernel_rfl) (.bool false) (fun w1 _ => by kernel_rfl) ?_
        simp only [Act.put, List.setIfInBounds_toArray, List.set_cons_succ, List.set_cons_zero]
        refine wpFreeD_one rfl (.bool false) (fun w1 _ => by kernel_rfl) ?_
        simp only [Act.put, List.setIfInBounds_toArray, List.set_cons_succ, List.set_cons_zero]
        refine wpFreeD_nil (fun wR hwR _ => ?_)
        replace F := (F.drewN 1).le hwR
        clear hwR
        go_wp2
        go_roundw
        case rel => exact ⟨1, by omega, by go_num, ⟨fun _ => ⟨hcc.out, hkk.out⟩, fun h => absurd h (by omega)⟩, F.tl⟩
        case measure => simp [intOf]
    | 1, _ =>
      have F := HF0.out
      go_wp2_with (first | ((with_reducible refine listN F ?_); clear F; intro wN F) | (with_reducible refine wpList_indexW0 (i := 1) rfl rfl rfl rfl Tryd.underlying116 uinfoFilterI (by decide) ?_) | ((with_reducible refine at_load rfl ?_); (with_reducible refine wpList_loadGP F rfl rfl rfl (by first | exact m0 | exact m1 | exact m2 | exact m3 | exact m4 | exact m5 | exact m6 | exact m7) Tryd.underlying35 rfl [.int .i64 gk, .float .f32 a2, .float .f32 b2, .float .f32 c2, .float .f32 p2, .float .f32 q2] (filAtJet1 fk a b c p q gk a2 b2 c2 p2 q2) uinfoFilterI rfl ?_)))
      replace F := F.box 35 #[.int .i64 gk, .float .f32 a2, .float .f32 b2, .float .f32 c2, .float .f32 p2, .float .f32 q2]
      cases hc : (gk == 5)
      · have hne := hid (show (gk != 5) = true by rw [bne, hc]; rfl)
        obtain ⟨hp0, hp1⟩ := HP.out
        have E := hid (show ((fk == 1) && okF fk a b c p q && (gk == 5) && okF gk a2 b2 c2 p2 q2 && rngB x nx j && rngB y ny k && finB (two m o) 2) = false by simp [hc, (hp0 (by omega)).1, (hp0 (by omega)).2])
        clear hc hp0 hp1
        refine region_freeD (E := leX) (fun _ _ _ v => v = .bool false) (by kernel_rfl) (by kernel_rfl) ?_
        refine wpFreeD_one rfl (.pointer (some ⟨wr.heap.size, 0, none⟩)) (fun w1 _ => by kernel_rfl) ?_
        simp only [Act.put, List.setIfInBounds_toArray, List.set_cons_succ, List.set_cons_zero]
        refine wpFreeD_load1 rfl rfl rfl (p := ⟨wr.heap.size, 0, none⟩) (fun w1 h1 => (((F.drewN 1).le h1).row m0).cell? 0) ukindInt64 ?_
        simp only [Act.put, List.setIfInBounds_toArray, List.set_cons_succ, List.set_cons_zero]
        refine wpFreeD_one rfl (.slice (some ⟨gK, 0, none⟩) 2 2) (fun w1 _ => by kernel_rfl) ?_
        simp only [Act.put, List.setIfInBounds_toArray, List.set_cons_succ, List.set_cons_zero]
        refine wpFreeD_one rfl (.int .i64 1) (fun w1 _ => by kernel_rfl) ?_
        simp only [Act.put, List.setIfInBounds_toArray, List.set_cons_succ, List.set_cons_zero]
        refine wpFreeD_indexW0 rfl rfl (i := 1) rfl rfl Tryd.underlying108 uinfo1Int64 (by decide) ?_
        simp only [Act.put, List.setIfInBounds_toArray, List.set_cons_succ, List.set_cons_zero]
        refine wpFreeD_load1 rfl rfl rfl (p := ⟨gK, 0 + 1 * 1, none⟩) (fun w1 h1 => (((F.drewN 1).le h1).row m2).cell? 1) ukindInt64 ?_
        simp only [Act.put, List.setIfInBounds_toArray, List.set_cons_succ, List.set_cons_zero]
        refine wpFreeD_one rfl (.bool (gk != 5)) (fun w1 _ => by kernel_rfl) ?_
        simp only [Act.put, List.setIfInBounds_toArray, List.set_cons_succ, List.set_cons_zero]
        rw [hne.out]
        refine wpFreeD_one rfl (.bool true) (fun w1 _ => by kernel_rfl) ?_
        simp only [Act.put, List.setIfInBounds_toArray, List.set_cons_succ, List.set_cons_zero]
        refine wpFreeD_skip (by kernel_rfl) ?_
        simp only [Act.put, List.setIfInBounds_toArray, List.set_cons_succ, List.set_cons_zero]
        refine wpFreeD_skip (by kernel_rfl) ?_
        simp only [Act.put, List.setIfInBounds_toArray, List.set_cons_succ, List.set_cons_zero]
        refine wpFreeD_skip (by kernel_rfl) ?_
        simp only [Act.put, List.setIfInBounds_toArray, List.set_cons_succ, List.set_cons_zero]
        refine wpFreeD_one rfl (.bool true) (fun w1 _ => by kernel_rfl) ?_
        simp only [Act.put, List.setIfInBounds_toArray, List.set_cons_succ, List.set_cons_zero]
        refine wpFreeD_nil (fun wR hwR _ => ?_)
        replace F := (F.drewN 1).le hwR
        clear hwR
        go_wp2
        go_ret
        exact ⟨ret_b E.out.symm, F.below⟩
      have hne := hid (show (gk != 5) = false by rw [bne, hc]; rfl)
      cases hk : okF gk a2 b2 c2 p2 q2
      · rw [hk] at HV1
        obtain ⟨hp0, hp1⟩ := HP.out
        have E := hid (show ((fk == 1) && okF fk a b c p q && (gk == 5) && okF gk a2 b2 c2 p2 q2 && rngB x nx j && rngB y ny k && finB (two m o) 2) = false by simp [hk, (hp0 (by omega)).1, (hp0 (by omega)).2])
        clear hc hk hp0 hp1
        refine region_freeD (E := leX) (fun _ _ _ v => v = .bool false) (by kernel_rfl) (by kernel_rfl) ?_
        refine wpFreeD_one rfl (.pointer (some ⟨wr.heap.size, 0, none⟩)) (fun w1 _ => by kernel_rfl) ?_
        simp only [Act.put, List.setIfInBounds_toArray, List.set_cons_succ, List.set_cons_zero]
        refine wpFreeD_load1 rfl rfl rfl (p := ⟨wr.heap.size, 0, none⟩) (fun w1 h1 => (((F.drewN 1).le h1).row m0).cell? 0) ukindInt64 ?_
        simp only [Act.put, List.setIfInBounds_toArray, List.set_cons_succ, List.set_cons_zero]
        refine wpFreeD_one rfl (.slice (some ⟨gK, 0, none⟩) 2 2) (fun w1 _ => by kernel_rfl) ?_
        simp only [Act.put, List.setIfInBounds_toArray, List.set_cons_succ, List.set_cons_zero]
        refine wpFreeD_one rfl (.int .i64 1) (fun w1 _ => by kernel_rfl) ?_
        simp only [Act.put, List.setIfInBounds_toArray, List.set_cons_succ, List.set_cons_zero]
        refine wpFreeD_indexW0 rfl rfl (i := 1) rfl rfl Tryd.underlying108 uinfo1Int64 (by decide) ?_
        simp only [Act.put, List.setIfInBounds_toArray, List.set_cons_succ, List.set_cons_zero]
        refine wpFreeD_load1 rfl rfl rfl (p := ⟨gK, 0 + 1 * 1, none⟩) (fun w1 h1 => (((F.drewN 1).le h1).row m2).cell? 1) ukindInt64 ?_
        simp only [Act.put, List.setIfInBounds_toArray, List.set_cons_succ, List.set_cons_zero]
        refine wpFreeD_one rfl (.bool (gk != 5)) (fun w1 _ => by kernel_rfl) ?_
        simp only [Act.put, List.setIfInBounds_toArray, List.set_cons_succ, List.set_cons_zero]
        rw [hne.out]
        refine wpFreeD_one rfl (.bool false) (fun w1 _ => by kernel_rfl) ?_
        simp only [Act.put, List.setIfInBounds_toArray, List.set_cons_succ, List.set_cons_zero]
        refine wpFreeD_loadGW F rfl (by kernel_rfl) rfl rfl m0 Tryd.underlying35 rfl uinfoFilterI rfl ?_
        simp only [Act.put, List.setIfInBounds_toArray, List.set_cons_succ, List.set_cons_zero]
        refine wpFreeD_callW (by kernel_rfl) rfl Tryd.func63 (by kernel_rfl) (by kernel_rfl) (args := #[.agg #[.int .i64 gk, .float .f32 a2, .float .f32 b2, .float .f32 c2, .float .f32 p2, .float .f32 q2]]) (by simp [Act.eval]) (fun v w1 w2 hw hv => hv) (fun w1 hw1 _ => (HV1.out w1).mono ?_) ?_
        · rintro e w2 ⟨rfl, hl⟩
          exact ⟨_, rfl, hl, rfl⟩
        rintro v ⟨_, _, _, rfl⟩
        simp only [Act.put, List.setIfInBounds_toArray, List.set_cons_succ, List.set_cons_zero]
        refine wpFreeD_oneW (by kernel_rfl) (.bool true) (fun w1 _ => by kernel_rfl) ?_
        simp only [Act.put, List.setIfInBounds_toArray, List.set_cons_succ, List.set_cons_zero]
        refine wpFreeD_one rfl (.bool true) (fun w1 _ => by kernel_rfl) ?_
        simp only [Act.put, List.setIfInBounds_toArray, List.set_cons_succ, List.set_cons_zero]
        refine wpFreeD_nil (fun wR hwR _ => ?_)
        replace F := (F.drewN 1).le hwR
        clear hwR
        go_wp2
        go_ret
        exact ⟨ret_b E.out.symm, F.below⟩
      · rw [hk] at HV1
        have hkk := hid hk; have hcc := hid hc
        clear hc hk
        refine region_freeD (E := leX) (fun _ _ _ v => v = .bool true) (by kernel_rfl) (by kernel_rfl) ?_
        refine wpFreeD_one rfl (.pointer (some ⟨wr.heap.size, 0, none⟩)) (fun w1 _ => by kernel_rfl) ?_
        simp only [Act.put, List.setIfInBounds_toArray, List.set_cons_succ, List.set_cons_zero]
        refine wpFreeD_load1 rfl rfl rfl (p := ⟨wr.heap.size, 0, none⟩) (fun w1 h1 => (((F.drewN 1).le h1).row m0).cell? 0) ukindInt64 ?_
        simp only [Act.put, List.setIfInBounds_toArray, List.set_cons_succ, List.set_cons_zero]
        refine wpFreeD_one rfl (.slice (some ⟨gK, 0, none⟩) 2 2) (fun w1 _ => by kernel_rfl) ?_
        simp only [Act.put, List.setIfInBounds_toArray, List.set_cons_succ, List.set_cons_zero]
        refine wpFreeD_one rfl (.int .i64 1) (fun w1 _ => by kernel_rfl) ?_
        simp only [Act.put, List.setIfInBounds_toArray, List.set_cons_succ, List.set_cons_zero]
        refine wpFreeD_indexW0 rfl rfl (i := 1) rfl rfl Tryd.underlying108 uinfo1Int64 (by decide) ?_
        simp only [Act.put, List.setIfInBounds_toArray, List.set_cons_succ, List.set_cons_zero]
        refine wpFreeD_load1 rfl rfl rfl (p := ⟨gK, 0 + 1 * 1, none⟩) (fun w1 h1 => (((F.drewN 1).le h1).row m2).cell? 1) ukindInt64 ?_
        simp only [Act.put, List.setIfInBounds_toArray, List.set_cons_succ, List.set_cons_zero]
        refine wpFreeD_one rfl (.bool (gk != 5)) (fun w1 _ => by kernel_rfl) ?_
        simp only [Act.put, List.setIfInBounds_toArray, List.set_cons_succ, List.set_cons_zero]
        rw [hne.out]
        refine wpFreeD_one rfl (.bool false) (fun w1 _ => by kernel_rfl) ?_
        simp only [Act.put, List.setIfInBounds_toArray, List.set_cons_succ, List.set_cons_zero]
        refine wpFreeD_loadGW F rfl (by kernel_rfl) rfl rfl m0 Tryd.underlying35 rfl uinfoFilterI rfl ?_
        simp only [Act.put, List.setIfInBounds_toArray, List.set_cons_succ, List.set_cons_zero]
        refine wpFreeD_callW (by kernel_rfl) rfl Tryd.func63 (by kernel_rfl) (by kernel_rfl) (args := #[.agg #[.int .i64 gk, .float .f32 a2, .float .f32 b2, .float .f32 c2, .float .f32 p2, .float .f32 q2]]) (by simp [Act.eval]) (fun v w1 w2 hw hv => hv) (fun w1 hw1 _ => (HV1.out w1).mono ?_) ?_
        · rintro e w2 ⟨rfl, hl⟩
          exact ⟨_, rfl, hl, rfl⟩
        rintro v ⟨_, _, _, rfl⟩
        simp only [Act.put, List.setIfInBounds_toArray, List.set_cons_succ, List.set_cons_zero]
        refine wpFreeD_oneW (by kernel_rfl) (.bool false) (fun w1 _ => by kernel_rfl) ?_
        simp only [Act.put, List.setIfInBounds_toArray, List.set_cons_succ, List.set_cons_zero]
        refine wpFreeD_one rfl (.bool false) (fun w1 _ => by kernel_rfl) ?_
        simp only [Act.put, List.setIfInBounds_toArray, List.set_cons_succ, List.set_cons_zero]
        refine wpFreeD_nil (fun wR hwR _ => ?_)
        replace F := (F.drewN 1).le hwR
        clear hwR
        go_wp2
        go_roundw
        case rel => exact ⟨2, by omega, by go_num, ⟨fun _ => HP.out.1 (by omega), fun _ => ⟨hcc.out, hkk.out⟩⟩, F.tl⟩
        case measure => simp [intOf]
    | 2, _ =>
      have F := HF0.out
      clear HF0
      go_wp2_with (first | (go_at_call 129; ((with_reducible refine (HR.out _).mono ?_); rintro e w3 ⟨gR, rfl, hgR, hrR, hlR⟩; replace F := F.rowS hlR hgR hrR; clear hgR hrR hlR)))
      go_loopw [38] (fun i wr => ∃ n : Nat, n ≤ 2 ∧ i = .int .i64 n ∧ Hid ((0 < n → rngB x nx j = true) ∧ (1 < n → rngB y ny k = true)) ∧ Hid (Frg w wr [rowF gR 34 #[s, .int .i64 j, t, .int .i64 k]])) (fun i _ => 2 - (intOf i).toNat)
      case atStart => exact ⟨0, by omega, rfl, ⟨fun h => absurd h (by omega), fun h => absurd h (by omega)⟩, F.sub (by simp)⟩
      case round =>
        clear F
        obtain ⟨n, hn, rfl, HQ, HF1⟩ := hrel
        match n, hn with
        | 0, _ =>
          have F := HF1.out
          cases hk : rngB x nx j
          · have hk2 : rngB x nx j = false := hk
            unfold rngB at hk
            rw [hk] at HX
            obtain ⟨hq0, hq1⟩ := HQ.out
            obtain ⟨hp0, hp1⟩ := HP.out
            clear hk hk2 hq0 hq1 hp0 hp1
            go_wp2_with (first | ((with_reducible refine listN F ?_); clear F; intro wN F) | (with_reducible refine wpList_indexW0 (i := 0) rfl rfl rfl rfl Tryd.underlying55 uinfoRingI (by decide) ?_) | ((with_reducible refine at_load rfl ?_); first | (with_reducible refine wpList_loadGP F rfl rfl rfl m0 Tryd.underlying34 rfl [s, .int .i64 j] (rngAt0 _ _ _ _) uinfoRingI rfl ?_) | (with_reducible refine wpList_loadG F rfl rfl rfl m0 Tryd.underlying34 rfl uinfoRingI rfl ?_)) | ((with_reducible refine at_store rfl ?_); (refine wpList_storeG F rfl rfl rfl rfl rfl uinfoRingI rfl (by (simp only [List.all_toArray', List.all_cons, List.all_nil, Bool.and_true, Bool.true_and, SO0.out]) <;> rfl) ?_; clear F; intro W F zW; clear zW)) | (go_at_call 77; ((with_reducible refine (HX.out _ F.below).mono ?_); rintro e w1 ⟨rfl, hl⟩; replace F := F.le hl; clear hl)))
            go_ret
            exact ⟨ret_b (by simp), F.below⟩
          · have hk2 := hid hk
            unfold rngB at hk
            rw [hk] at HX
            clear hk
            go_wp2_with (first | ((with_reducible refine listN F ?_); clear F; intro wN F) | (with_reducible refine wpList_indexW0 (i := 0) rfl rfl rfl rfl Tryd.underlying55 uinfoRingI (by decide) ?_) | ((with_reducible refine at_load rfl ?_); first | (with_reducible refine wpList_loadGP F rfl rfl rfl m0 Tryd.underlying34 rfl [s, .int .i64 j] (rngAt0 _ _ _ _) uinfoRingI rfl ?_) | (with_reducible refine wpList_loadG F rfl rfl rfl m0 Tryd.underlying34 rfl uinfoRingI rfl ?_)) | ((with_reducible refine at_store rfl ?_); (refine wpList_storeG F rfl rfl rfl rfl rfl uinfoRingI rfl (by (simp only [List.all_toArray', List.all_cons, List.all_nil, Bool.and_true, Bool.true_and, SO0.out]) <;> rfl) ?_; clear F; intro W F zW; clear zW)) | (go_at_call 77; ((with_reducible refine (HX.out _ F.below).mono ?_); rintro e w1 ⟨rfl, hl⟩; replace F := F.le hl; clear hl)))
            go_roundw
            case rel => exact ⟨1, by omega, by go_num, ⟨fun _ => trivial, fun h => absurd h (by omega)⟩, F.sub (by simp)⟩
            case measure => simp [intOf]
        | 1, _ =>
          have F := HF1.out
          cases hk : rngB y ny k
          · have hk2 : rngB y ny k = false := hk
            unfold rngB at hk
            rw [hk] at HY
            obtain ⟨hq0, hq1⟩ := HQ.out
            obtain ⟨hp0, hp1⟩ := HP.out
            clear hk hk2 hq0 hq1 hp0 hp1
            go_wp2_with (first | ((with_reducible refine listN F ?_); clear F; intro wN F) | (with_reducible refine wpList_indexW0 (i := 1) rfl rfl rfl rfl Tryd.underlying55 uinfoRingI (by decide) ?_) | ((with_reducible refine at_load rfl ?_); first | (with_reducible refine wpList_loadGP F rfl rfl rfl m0 Tryd.underlying34 rfl [t, .int .i64 k] (rngAt1 _ _ _ _) uinfoRingI rfl ?_) | (with_reducible refine wpList_loadG F rfl rfl rfl m0 Tryd.underlying34 rfl uinfoRingI rfl ?_)) | ((with_reducible refine at_store rfl ?_); (refine wpList_storeG F rfl rfl rfl rfl rfl uinfoRingI rfl (by (simp only [List.all_toArray', List.all_cons, List.all_nil, Bool.and_true, Bool.true_and, SO1.out]) <;> rfl) ?_; clear F; intro W F zW; clear zW)) | (go_at_call 77; ((with_reducible refine (HY.out _ F.below).mono ?_); rintro e w1 ⟨rfl, hl⟩; replace F := F.le hl; clear hl)))
            go_ret
            exact ⟨ret_b (by simp), F.below⟩
          · have hk2 := hid hk
            unfold rngB at hk
            rw [hk] at HY
            clear hk
            go_wp2_with (first | ((with_reducible refine listN F ?_); clear F; intro wN F) | (with_reducible refine wpList_indexW0 (i := 1) rfl rfl rfl rfl Tryd.underlying55 uinfoRingI (by decide) ?_) | ((with_reducible refine at_load rfl ?_); first | (with_reducible refine wpList_loadGP F rfl rfl rfl m0 Tryd.underlying34 rfl [t, .int .i64 k] (rngAt1 _ _ _ _) uinfoRingI rfl ?_) | (with_reducible refine wpList_loadG F rfl rfl rfl m0 Tryd.underlying34 rfl uinfoRingI rfl ?_)) | ((with_reducible refine at_store rfl ?_); (refine wpList_storeG F rfl rfl rfl rfl rfl uinfoRingI rfl (by (simp only [List.all_toArray', List.all_cons, List.all_nil, Bool.and_true, Bool.true_and, SO1.out]) <;> rfl) ?_; clear F; intro W F zW; clear zW)) | (go_at_call 77; ((with_reducible refine (HY.out _ F.below).mono ?_); rintro e w1 ⟨rfl, hl⟩; replace F := F.le hl; clear hl)))
            go_roundw
            case rel => exact ⟨2, by omega, by go_num, ⟨fun _ => HQ.out.1 (by omega), fun _ => trivial⟩, F.sub (by simp)⟩
            case measure => simp [intOf]
        | 2, _ =>
          have F := HF1.out
          obtain ⟨hq0, hq1⟩ := HQ.out
          obtain ⟨hp0, hp1⟩ := HP.out
          have E := hid (show ((fk == 1) && okF fk a b c p q && (gk == 5) && okF gk a2 b2 c2 p2 q2 && rngB x nx j && rngB y ny k && finB (two m o) 2) = finB (two m o) 2 by simp [(hp0 (by omega)).1, (hp0 (by omega)).2, (hp1 (by omega)).1, (hp1 (by omega)).2, hq0 (by omega), hq1 (by omega)])
          clear hq0 hq1 hp0 hp1
          go_wp2_with (first | (go_at_call 128; ((with_reducible refine (HM.out _).mono ?_); rintro e w3 ⟨gM, rfl, hgM, hrM, hlM⟩; replace F := F.rowS hlM hgM hrM; clear hgM hrM hlM)) | (go_at_call 78; ((with_reducible refine (HN.out _ _ (F.row m0)).mono ?_); rintro e w1 ⟨rfl, rfl⟩)))
          go_ret
          exact ⟨ret_b E.out.symm, F.below⟩
set_option maxRecDepth 100000 in
set_option maxHeartbeats 4000000 in
theorem i_ValidJet (x y : Nat → Nat) (nx ny : Nat) (j k : Int) (fk : Int) (a b c p q : Nat) (gk : Int) (a2 b2 c2 p2 q2 : Nat) (m o : Nat) (B : Nat) (s t : Value) (w : World) (hs : (slT x nx).RdN w B s) (ht : (slT y ny).RdN w B t) (wf : (Lit.int .i64 j).wf = true ∧ (Lit.int .i64 k).wf = true) (hf : (fits .f32 a ∧ fits .f32 b ∧ fits .f32 c ∧ fits .f32 p ∧ fits .f32 q ∧ fits .f32 a2 ∧ fits .f32 b2 ∧ fits .f32 c2 ∧ fits .f32 p2 ∧ fits .f32 q2 ∧ fits .f32 m ∧ fits .f32 o)) :
    Calls Tryd.prog 33 #[.agg #[s, .int .i64 j, t, .int .i64 k, .int .i64 fk, .float .f32 a, .float .f32 b, .float .f32 c, .float .f32 p, .float .f32 q, .int .i64 gk, .float .f32 a2, .float .f32 b2, .float .f32 c2, .float .f32 p2, .float .f32 q2, .float .f32 m, .float .f32 o]] w (Out_b (okJet x y nx ny j k fk a b c p q gk a2 b2 c2 p2 q2 m o) w) := by
  have HV := hid (fun (w' : World) (hl : le w w') => i_validPartsJet x y nx ny j k fk a b c p q gk a2 b2 c2 p2 q2 m o B s t w' (hs.le hl) (ht.le hl) wf hf)
  have F := (Frg.nil w).box 46 #[s, .int .i64 j, t, .int .i64 k, .int .i64 fk, .float .f32 a, .float .f32 b, .float .f32 c, .float .f32 p, .float .f32 q, .int .i64 gk, .float .f32 a2, .float .f32 b2, .float .f32 c2, .float .f32 p2, .float .f32 q2, .float .f32 m, .float .f32 o]
  clear hs ht wf hf
  go_enter Tryd.func33, Tryd.ntmps33
  go_wp2_with (first | ((with_reducible refine at_loadU rfl rfl ?_); (with_reducible refine wpList_loadG F rfl rfl rfl m0 Tryd.underlying46 rfl uinfoJetI rfl ?_)) | (go_at_call 57; ((with_reducible refine (HV.out _ F.below).mono ?_); rintro e w1 ⟨rfl, hl⟩; replace F := F.le hl; clear hl)))
  go_ret
  exact ⟨rfl, F.below⟩
set_option maxRecDepth 100000 in
set_option maxHeartbeats 4000000 in
theorem s_l05Jet (x y : Nat → Nat) (nx ny : Nat) (j k : Int) (fk : Int) (a b c p q : Nat) (gk : Int) (a2 b2 c2 p2 q2 : Nat) (m o : Nat) (B : Nat) (s t : Value) (w : World) (g0 : Nat) (RR : Row w g0 46 #[s, .int .i64 j, t, .int .i64 k, .int .i64 fk, .float .f32 a, .float .f32 b, .float .f32 c, .float .f32 p, .float .f32 q, .int .i64 gk, .float .f32 a2, .float .f32 b2, .float .f32 c2, .float .f32 p2, .float .f32 q2, .float .f32 m, .float .f32 o]) (hs : (slT x nx).RdN w B s) (ht : (slT y ny).RdN w B t) (wf : (Lit.int .i64 j).wf = true ∧ (Lit.int .i64 k).wf = true) (hf : (fits .f32 a ∧ fits .f32 b ∧ fits .f32 c ∧ fits .f32 p ∧ fits .f32 q ∧ fits .f32 a2 ∧ fits .f32 b2 ∧ fits .f32 c2 ∧ fits .f32 p2 ∧ fits .f32 q2 ∧ fits .f32 m ∧ fits .f32 o)) :
    Calls Tryd.prog 31 #[.pointer (some ⟨g0, 0, none⟩)] w (Out_b (okJet x y nx ny j k fk a b c p q gk a2 b2 c2 p2 q2 m o) w) := by
  obtain ⟨fa, fb, fc, fp, fq, fa2, fb2, fc2, fp2, fq2, fm, fo⟩ := hf
  obtain ⟨wj, wk⟩ := wf
  have hRw := hid (fun (w1 : World) (h1 : le w w1) => RR.le h1)
  have HRD := hid (fun (b : Nat) (w1 : World) (h1 : le w w1) (R : Row w1 b 34 #[s, .int .i64 j, t, .int .i64 k]) => rg2_rd (hs.le h1) (ht.le h1) wj wk R)
  have HN := hid (fun (b : Nat) (w' : World) (R : Row w' b 25 #[.float .f32 m, .float .f32 o]) => s_l04All (b + 1) (.slice (some ⟨b, 0, none⟩) 2 2) (two m o) 2 w' (two_rd fm fo R))
  have HO0 := hid (fun (w' : World) (hl : le w w') => s_OkAt fk a b c p q g0 4 w' ⟨(hRw.out w' hl).cell? 4, fun i hi => by match i, hi with | 0, _ => exact (hRw.out w' hl).cell? 5 | 1, _ => exact (hRw.out w' hl).cell? 6 | 2, _ => exact (hRw.out w' hl).cell? 7, fun i hi => by match i, hi with | 0, _ => exact (hRw.out w' hl).cell? 8 | 1, _ => exact (hRw.out w' hl).cell? 9⟩)
  have HO1 := hid (fun (w' : World) (hl : le w w') => s_OkAt gk a2 b2 c2 p2 q2 g0 10 w' ⟨(hRw.out w' hl).cell? 10, fun i hi => by match i, hi with | 0, _ => exact (hRw.out w' hl).cell? 11 | 1, _ => exact (hRw.out w' hl).cell? 12 | 2, _ => exact (hRw.out w' hl).cell? 13, fun i hi => by match i, hi with | 0, _ => exact (hRw.out w' hl).cell? 14 | 1, _ => exact (hRw.out w' hl).cell? 15⟩)
  clear hs ht wj wk RR fa fb fc fp fq fa2 fb2 fc2 fp2 fq2 fm fo
  change Calls _ _ _ _ (Out_b ((fk == 1) && okF fk a b c p q && (gk == 5) && okF gk a2 b2 c2 p2 q2 && rngB x nx j && rngB y ny k && fin m && fin o) w)
  rw [show ((fk == 1) && okF fk a b c p q && (gk == 5) && okF gk a2 b2 c2 p2 q2 && rngB x nx j && rngB y ny k && fin m && fin o) = ((fk == 1) && okF fk a b c p q && (gk == 5) && okF gk a2 b2 c2 p2 q2 && rngB x nx j && rngB y ny k && finB (two m o) 2) by rw [fin_two, ← Bool.and_assoc]]
  rcases bool_ft ((rngB x nx j && rngB y ny k)) with h0 | h0
  · have hc0 := hid h0
    have E := hid (show ((fk == 1) && okF fk a b c p q && (gk == 5) && okF gk a2 b2 c2 p2 q2 && rngB x nx j && rngB y ny k && finB (two m o) 2) = false by have h0' := h0; simp only [Bool.and_eq_false_iff] at h0'; rcases h0' with h | h <;> simp [h])
    clear h0
    go_enter Tryd.func31, Tryd.ntmps31
    go_wp2_with fail
    refine region_freeD (E := leX) (fun f args _ v => if f = 49 then v = .bool false else if f = 50 then (args = #[.pointer (some ⟨g0, 4, none⟩)] → v = .bool false) ∧ (args = #[.pointer (some ⟨g0, 10, none⟩)] → v = .bool false) else v = .bool (finB (two m o) 2)) (by kernel_rfl) (by kernel_rfl) ?_
    refine wpFreeD_one rfl (.pointer (some ⟨g0, 0, none⟩)) (fun w1 _ => by kernel_rfl) ?_
    simp only [Act.put, List.setIfInBounds_toArray, List.set_cons_succ, List.set_cons_zero]
    refine wpFreeD_one rfl (.pointer (some ⟨g0, 0, none⟩)) (fun w1 _ => by kernel_rfl) ?_
    simp only [Act.put, List.setIfInBounds_toArray, List.set_cons_succ, List.set_cons_zero]
    refine wpFreeD_one rfl (.pointer (some ⟨g0, 0, none⟩)) (fun w1 _ => by kernel_rfl) ?_
    simp only [Act.put, List.setIfInBounds_toArray, List.set_cons_succ, List.set_cons_zero]
    refine wpFreeD_loadW rfl rfl rfl [s, .int .i64 j] (fun w1 h1 => Row.at_part (hRw.out w1 (le_trans (le_drewN _ _) h1)) (partJet_Throat (s) (.int .i64 j) (t) (.int .i64 k) (.int .i64 fk) (.float .f32 a) (.float .f32 b) (.float .f32 c) (.float .f32 p) (.float .f32 q) (.int .i64 gk) (.float .f32 a2) (.float .f32 b2) (.float .f32 c2) (.float .f32 p2) (.float .f32 q2) (.float .f32 m) (.float .f32 o))) Tryd.underlying34 rfl uinfoRingI rfl ?_
    simp only [Act.put, List.setIfInBounds_toArray, List.set_cons_succ, List.set_cons_zero]
    refine wpFreeD_one rfl (.pointer (some ⟨g0, 0, none⟩)) (fun w1 _ => by kernel_rfl) ?_
    simp only [Act.put, List.setIfInBounds_toArray, List.set_cons_succ, List.set_cons_zero]
    refine wpFreeD_one rfl (.pointer (some ⟨g0, 0, none⟩)) (fun w1 _ => by kernel_rfl) ?_
    simp only [Act.put, List.setIfInBounds_toArray, List.set_cons_succ, List.set_cons_zero]
    refine wpFreeD_one rfl (.pointer (some ⟨g0, 2, none⟩)) (fun w1 _ => by kernel_rfl) ?_
    simp only [Act.put, List.setIfInBounds_toArray, List.set_cons_succ, List.set_cons_zero]
    refine wpFreeD_loadW rfl rfl rfl [t, .int .i64 k] (fun w1 h1 => Row.at_part (hRw.out w1 (le_trans (le_drewN _ _) h1)) (partJet_Bore (s) (.int .i64 j) (t) (.int .i64 k) (.int .i64 fk) (.float .f32 a) (.float .f32 b) (.float .f32 c) (.float .f32 p) (.float .f32 q) (.int .i64 gk) (.float .f32 a2) (.float .f32 b2) (.float .f32 c2) (.float .f32 p2) (.float .f32 q2) (.float .f32 m) (.float .f32 o))) Tryd.underlying34 rfl uinfoRingI rfl ?_
    simp only [Act.put, List.setIfInBounds_toArray, List.set_cons_succ, List.set_cons_zero]
    refine wpFreeD_madeW (by kernel_rfl) (fun b => .slice (some ⟨b, 0, none⟩) 2 2) 34 #[s, .int .i64 j, t, .int .i64 k] (fun w1 => by kernel_rfl) (fun bR => ?_)
    simp only [Act.put, List.setIfInBounds_toArray, List.set_cons_succ, List.set_cons_zero]
    refine wpFreeD_callW (by kernel_rfl) rfl Tryd.func49 (by kernel_rfl) (by kernel_rfl) (args := #[.slice (some ⟨bR, 0, none⟩) 2 2]) (by simp [Act.eval]) (fun v w1 w2 hw hv => hv) (fun w1 hw1 hbe => ?_) ?_
    · obtain ⟨b', e1, hrow⟩ := (hbe ⟨8, Ground.data⟩ (by simp) (by kernel_rfl)).2 rfl
      obtain rfl : bR = b' := by simpa using e1
      refine (s_l04Rings _ _ _ _ w1 (HRD.out bR w1 (le_trans (le_drewN _ _) hw1) hrow) (rg2_ok _ _ _ _ _ _)).mono ?_
      rintro e w2 ⟨rfl, q, rfl⟩
      exact ⟨_, rfl, le_drewN _ _, by simp only [if_true]; rw [rg2_all, hc0.out]⟩
    rintro v ⟨_, _, _, hv⟩
    simp only [if_true] at hv
    subst hv
    simp only [Act.put, List.setIfInBounds_toArray, List.set_cons_succ, List.set_cons_zero]
    refine wpFreeD_one rfl (.bool false) (fun w1 _ => by kernel_rfl) ?_
    simp only [Act.put, List.setIfInBounds_toArray, List.set_cons_succ, List.set_cons_zero]
    refine wpFreeD_skip (by kernel_rfl) ?_
    simp only [Act.put, List.setIfInBounds_toArray, List.set_cons_succ, List.set_cons_zero]
    refine wpFreeD_skip (by kernel_rfl) ?_
    simp only [Act.put, List.setIfInBounds_toArray, List.set_cons_succ, List.set_cons_zero]
    refine wpFreeD_skip (by kernel_rfl) ?_
    simp only [Act.put, List.setIfInBounds_toArray, List.set_cons_succ, List.set_cons_zero]
    refine wpFreeD_skip (by kernel_rfl) ?_
    simp only [Act.put, List.setIfInBounds_toArray, List.set_cons_succ, List.set_cons_zero]
    refine wpFreeD_one rfl (.bool false) (fun w1 _ => by kernel_rfl) ?_
    simp only [Act.put, List.setIfInBounds_toArray, List.set_cons_succ, List.set_cons_zero]
    refine wpFreeD_one rfl (.bool false) (fun w1 _ => by kernel_rfl) ?_
    simp only [Act.put, List.setIfInBounds_toArray, List.set_cons_succ, List.set_cons_zero]
    refine wpFreeD_skip (by kernel_rfl) ?_
    simp only [Act.put, List.setIfInBounds_toArray, List.set_cons_succ, List.set_cons_zero]
    refine wpFreeD_skip (by kernel_rfl) ?_
    simp only [Act.put, List.setIfInBounds_toArray, List.set_cons_succ, List.set_cons_zero]
    refine wpFreeD_skip (by kernel_rfl) ?_
    simp only [Act.put, List.setIfInBounds_toArray, List.set_cons_succ, List.set_cons_zero]
    refine wpFreeD_skip (by kernel_rfl) ?_
    simp only [Act.put, List.setIfInBounds_toArray, List.set_cons_succ, List.set_cons_zero]
    refine wpFreeD_skip (by kernel_rfl) ?_
    simp only [Act.put, List.setIfInBounds_toArray, List.set_cons_succ, List.set_cons_zero]
    refine wpFreeD_skip (by kernel_rfl) ?_
    simp only [Act.put, List.setIfInBounds_toArray, List.set_cons_succ, List.set_cons_zero]
    refine wpFreeD_one rfl (.bool false) (fun w1 _ => by kernel_rfl) ?_
    simp only [Act.put, List.setIfInBounds_toArray, List.set_cons_succ, List.set_cons_zero]
    refine wpFreeD_one rfl (.bool false) (fun w1 _ => by kernel_rfl) ?_
    simp only [Act.put, List.setIfInBounds_toArray, List.set_cons_succ, List.set_cons_zero]
    refine wpFreeD_skip (by kernel_rfl) ?_
    simp only [Act.put, List.setIfInBounds_toArray, List.set_cons_succ, List.set_cons_zero]
    refine wpFreeD_skip (by kernel_rfl) ?_
    simp only [Act.put, List.setIfInBounds_toArray, List.set_cons_succ, List.set_cons_zero]
    refine wpFreeD_skip (by kernel_rfl) ?_
    simp only [Act.put, List.setIfInBounds_toArray, List.set_cons_succ, List.set_cons_zero]
    refine wpFreeD_skip (by kernel_rfl) ?_
    simp only [Act.put, List.setIfInBounds_toArray, List.set_cons_succ, List.set_cons_zero]
    refine wpFreeD_one rfl (.bool false) (fun w1 _ => by kernel_rfl) ?_
    simp only [Act.put, List.setIfInBounds_toArray, List.set_cons_succ, List.set_cons_zero]
    refine wpFreeD_one rfl (.bool false) (fun w1 _ => by kernel_rfl) ?_
    simp only [Act.put, List.setIfInBounds_toArray, List.set_cons_succ, List.set_cons_zero]
    refine wpFreeD_skip (by kernel_rfl) ?_
    simp only [Act.put, List.setIfInBounds_toArray, List.set_cons_succ, List.set_cons_zero]
    refine wpFreeD_skip (by kernel_rfl) ?_
    simp only [Act.put, List.setIfInBounds_toArray, List.set_cons_succ, List.set_cons_zero]
    refine wpFreeD_skip (by kernel_rfl) ?_
    simp only [Act.put, List.setIfInBounds_toArray, List.set_cons_succ, List.set_cons_zero]
    refine wpFreeD_skip (by kernel_rfl) ?_
    simp only [Act.put, List.setIfInBounds_toArray, List.set_cons_succ, List.set_cons_zero]
    refine wpFreeD_skip (by kernel_rfl) ?_
    simp only [Act.put, List.setIfInBounds_toArray, List.set_cons_succ, List.set_cons_zero]
    refine wpFreeD_skip (by kernel_rfl) ?_
    simp only [Act.put, List.setIfInBounds_toArray, List.set_cons_succ, List.set_cons_zero]
    refine wpFreeD_one rfl (.bool false) (fun w1 _ => by kernel_rfl) ?_
    simp only [Act.put, List.setIfInBounds_toArray, List.set_cons_succ, List.set_cons_zero]
    refine wpFreeD_one rfl (.bool false) (fun w1 _ => by kernel_rfl) ?_
    simp only [Act.put, List.setIfInBounds_toArray, List.set_cons_succ, List.set_cons_zero]
    refine wpFreeD_skip (by kernel_rfl) ?_
    simp only [Act.put, List.setIfInBounds_toArray, List.set_cons_succ, List.set_cons_zero]
    refine wpFreeD_skip (by kernel_rfl) ?_
    simp only [Act.put, List.setIfInBounds_toArray, List.set_cons_succ, List.set_cons_zero]
    refine wpFreeD_skip (by kernel_rfl) ?_
    simp only [Act.put, List.setIfInBounds_toArray, List.set_cons_succ, List.set_cons_zero]
    refine wpFreeD_skip (by kernel_rfl) ?_
    simp only [Act.put, List.setIfInBounds_toArray, List.set_cons_succ, List.set_cons_zero]
    refine wpFreeD_skip (by kernel_rfl) ?_
    simp only [Act.put, List.setIfInBounds_toArray, List.set_cons_succ, List.set_cons_zero]
    refine wpFreeD_skip (by kernel_rfl) ?_
    simp only [Act.put, List.setIfInBounds_toArray, List.set_cons_succ, List.set_cons_zero]
    refine wpFreeD_skip (by kernel_rfl) ?_
    simp only [Act.put, List.setIfInBounds_toArray, List.set_cons_succ, List.set_cons_zero]
    refine wpFreeD_skip (by kernel_rfl) ?_
    simp only [Act.put, List.setIfInBounds_toArray, List.set_cons_succ, List.set_cons_zero]
    refine wpFreeD_skip (by kernel_rfl) ?_
    simp only [Act.put, List.setIfInBounds_toArray, List.set_cons_succ, List.set_cons_zero]
    refine wpFreeD_skip (by kernel_rfl) ?_
    simp only [Act.put, List.setIfInBounds_toArray, List.set_cons_succ, List.set_cons_zero]
    refine wpFreeD_one rfl (.bool false) (fun w1 _ => by kernel_rfl) ?_
    simp only [Act.put, List.setIfInBounds_toArray, List.set_cons_succ, List.set_cons_zero]
    refine wpFreeD_one rfl (.bool false) (fun w1 _ => by kernel_rfl) ?_
    simp only [Act.put, List.setIfInBounds_toArray, List.set_cons_succ, List.set_cons_zero]
    refine wpFreeD_nil (fun wR hwR _ => ?_)
    have HL := hid (le_trans (le_drewN _ _) hwR)
    clear hwR
    go_wp2
    go_ret
    exact ⟨ret_b E.out.symm, HL.out⟩
  · have hc0 := hid h0; clear h0
    rcases bool_ft (okF fk a b c p q) with h1 | h1
    · have hc1 := hid h1
      have E := hid (show ((fk == 1) && okF fk a b c p q && (gk == 5) && okF gk a2 b2 c2 p2 q2 && rngB x nx j && rngB y ny k && finB (two m o) 2) = false by simp [h1])
      clear h1
      go_enter Tryd.func31, Tryd.ntmps31
      go_wp2_with fail
      refine region_freeD (E := leX) (fun f args _ v => if f = 49 then v = .bool true else if f = 50 then (args = #[.pointer (some ⟨g0, 4, none⟩)] → v = .bool false) ∧ (args = #[.pointer (some ⟨g0, 10, none⟩)] → v = .bool false) else v = .bool (finB (two m o) 2)) (by kernel_rfl) (by kernel_rfl) ?_
      refine wpFreeD_one rfl (.pointer (some ⟨g0, 0, none⟩)) (fun w1 _ => by kernel_rfl) ?_
      simp only [Act.put, List.setIfInBounds_toArray, List.set_cons_succ, List.set_cons_zero]
      refine wpFreeD_one rfl (.pointer (some ⟨g0, 0, none⟩)) (fun w1 _ => by kernel_rfl) ?_
      simp only [Act.put, List.setIfInBounds_toArray, List.set_cons_succ, List.set_cons_zero]
      refine wpFreeD_one rfl (.pointer (some ⟨g0, 0, none⟩)) (fun w1 _ => by kernel_rfl) ?_
      simp only [Act.put, List.setIfInBounds_toArray, List.set_cons_succ, List.set_cons_zero]
      refine wpFreeD_loadW rfl rfl rfl [s, .int .i64 j] (fun w1 h1 => Row.at_part (hRw.out w1 (le_trans (le_drewN _ _) h1)) (partJet_Throat (s) (.int .i64 j) (t) (.int .i64 k) (.int .i64 fk) (.float .f32 a) (.float .f32 b) (.float .f32 c) (.float .f32 p) (.float .f32 q) (.int .i64 gk) (.float .f32 a2) (.float .f32 b2) (.float .f32 c2) (.float .f32 p2) (.float .f32 q2) (.float .f32 m) (.float .f32 o))) Tryd.underlying34 rfl uinfoRingI rfl ?_
      simp only [Act.put, List.setIfInBounds_toArray, List.set_cons_succ, List.set_cons_zero]
      refine wpFreeD_one rfl (.pointer (some ⟨g0, 0, none⟩)) (fun w1 _ => by kernel_rfl) ?_
      simp only [Act.put, List.setIfInBounds_toArray, List.set_cons_succ, List.set_cons_zero]
      refine wpFreeD_one rfl (.pointer (some ⟨g0, 0, none⟩)) (fun w1 _ => by kernel_rfl) ?_
      simp only [Act.put, List.setIfInBounds_toArray, List.set_cons_succ, List.set_cons_zero]
      refine wpFreeD_one rfl (.pointer (some ⟨g0, 2, none⟩)) (fun w1 _ => by kernel_rfl) ?_
      simp only [Act.put, List.setIfInBounds_toArray, List.set_cons_succ, List.set_cons_zero]
      refine wpFreeD_loadW rfl rfl rfl [t, .int .i64 k] (fun w1 h1 => Row.at_part (hRw.out w1 (le_trans (le_drewN _ _) h1)) (partJet_Bore (s) (.int .i64 j) (t) (.int .i64 k) (.int .i64 fk) (.float .f32 a) (.float .f32 b) (.float .f32 c) (.float .f32 p) (.float .f32 q) (.int .i64 gk) (.float .f32 a2) (.float .f32 b2) (.float .f32 c2) (.float .f32 p2) (.float .f32 q2) (.float .f32 m) (.float .f32 o))) Tryd.underlying34 rfl uinfoRingI rfl ?_
      simp only [Act.put, List.setIfInBounds_toArray, List.set_cons_succ, List.set_cons_zero]
      refine wpFreeD_madeW (by kernel_rfl) (fun b => .slice (some ⟨b, 0, none⟩) 2 2) 34 #[s, .int .i64 j, t, .int .i64 k] (fun w1 => by kernel_rfl) (fun bR => ?_)
      simp only [Act.put, List.setIfInBounds_toArray, List.set_cons_succ, List.set_cons_zero]
      refine wpFreeD_callW (by kernel_rfl) rfl Tryd.func49 (by kernel_rfl) (by kernel_rfl) (args := #[.slice (some ⟨bR, 0, none⟩) 2 2]) (by simp [Act.eval]) (fun v w1 w2 hw hv => hv) (fun w1 hw1 hbe => ?_) ?_
      · obtain ⟨b', e1, hrow⟩ := (hbe ⟨8, Ground.data⟩ (by simp) (by kernel_rfl)).2 rfl
        obtain rfl : bR = b' := by simpa using e1
        refine (s_l04Rings _ _ _ _ w1 (HRD.out bR w1 (le_trans (le_drewN _ _) hw1) hrow) (rg2_ok _ _ _ _ _ _)).mono ?_
        rintro e w2 ⟨rfl, q, rfl⟩
        exact ⟨_, rfl, le_drewN _ _, by simp only [if_true]; rw [rg2_all, hc0.out]⟩
      rintro v ⟨_, _, _, hv⟩
      simp only [if_true] at hv
      subst hv
      simp only [Act.put, List.setIfInBounds_toArray, List.set_cons_succ, List.set_cons_zero]
      refine wpFreeD_one rfl (.bool true) (fun w1 _ => by kernel_rfl) ?_
      simp only [Act.put, List.setIfInBounds_toArray, List.set_cons_succ, List.set_cons_zero]
      refine wpFreeD_oneW (by kernel_rfl) (.pointer (some ⟨g0, 0, none⟩)) (fun w1 _ => by kernel_rfl) ?_
      simp only [Act.put, List.setIfInBounds_toArray, List.set_cons_succ, List.set_cons_zero]
      refine wpFreeD_oneW (by kernel_rfl) (.pointer (some ⟨g0, 0, none⟩)) (fun w1 _ => by kernel_rfl) ?_
      simp only [Act.put, List.setIfInBounds_toArray, List.set_cons_succ, List.set_cons_zero]
      refine wpFreeD_oneW (by kernel_rfl) (.pointer (some ⟨g0, 4, none⟩)) (fun w1 _ => by kernel_rfl) ?_
      simp only [Act.put, List.setIfInBounds_toArray, List.set_cons_succ, List.set_cons_zero]
      refine wpFreeD_callW (by kernel_rfl) rfl Tryd.func50 (by kernel_rfl) (by kernel_rfl) (args := #[.pointer (some ⟨g0, 4, none⟩)]) (by simp [Act.eval]) (fun v w1 w2 hw hv => hv) (fun w1 hw1 _ => (HO0.out w1 (le_trans (le_drewN _ _) hw1)).mono ?_) ?_
      · rintro e w2 ⟨rfl, q, rfl⟩
        exact ⟨_, rfl, le_drewN _ _, by simp only [show ¬ (50 = 49) by decide, if_false, if_true]; simp [hc1.out]⟩
      rintro v ⟨_, _, _, hv⟩
      simp only [show ¬ (50 = 49) by decide, if_false, if_true] at hv
      obtain rfl := hv.1 (by first | rfl | trivial)
      simp only [Act.put, List.setIfInBounds_toArray, List.set_cons_succ, List.set_cons_zero]
      refine wpFreeD_one rfl (.bool false) (fun w1 _ => by kernel_rfl) ?_
      simp only [Act.put, List.setIfInBounds_toArray, List.set_cons_succ, List.set_cons_zero]
      refine wpFreeD_one rfl (.bool false) (fun w1 _ => by kernel_rfl) ?_
      simp only [Act.put, List.setIfInBounds_toArray, List.set_cons_succ, List.set_cons_zero]
      refine wpFreeD_skip (by kernel_rfl) ?_
      simp only [Act.put, List.setIfInBounds_toArray, List.set_cons_succ, List.set_cons_zero]
      refine wpFreeD_skip (by kernel_rfl) ?_
      simp only [Act.put, List.setIfInBounds_toArray, List.set_cons_succ, List.set_cons_zero]
      refine wpFreeD_skip (by kernel_rfl) ?_
      simp only [Act.put, List.setIfInBounds_toArray, List.set_cons_succ, List.set_cons_zero]
      refine wpFreeD_skip (by kernel_rfl) ?_
      simp only [Act.put, List.setIfInBounds_toArray, List.set_cons_succ, List.set_cons_zero]
      refine wpFreeD_skip (by kernel_rfl) ?_
      simp only [Act.put, List.setIfInBounds_toArray, List.set_cons_succ, List.set_cons_zero]
      refine wpFreeD_skip (by kernel_rfl) ?_
      simp only [Act.put, List.setIfInBounds_toArray, List.set_cons_succ, List.set_cons_zero]
      refine wpFreeD_one rfl (.bool false) (fun w1 _ => by kernel_rfl) ?_
      simp only [Act.put, List.setIfInBounds_toArray, List.set_cons_succ, List.set_cons_zero]
      refine wpFreeD_one rfl (.bool false) (fun w1 _ => by kernel_rfl) ?_
      simp only [Act.put, List.setIfInBounds_toArray, List.set_cons_succ, List.set_cons_zero]
      refine wpFreeD_skip (by kernel_rfl) ?_
      simp only [Act.put, List.setIfInBounds_toArray, List.set_cons_succ, List.set_cons_zero]
      refine wpFreeD_skip (by kernel_rfl) ?_
      simp only [Act.put, List.setIfInBounds_toArray, List.set_cons_succ, List.set_cons_zero]
      refine wpFreeD_skip (by kernel_rfl) ?_
      simp only [Act.put, List.setIfInBounds_toArray, List.set_cons_succ, List.set_cons_zero]
      refine wpFreeD_skip (by kernel_rfl) ?_
      simp only [Act.put, List.setIfInBounds_toArray, List.set_cons_succ, List.set_cons_zero]
      refine wpFreeD_one rfl (.bool false) (fun w1 _ => by kernel_rfl) ?_
      simp only [Act.put, List.setIfInBounds_toArray, List.set_cons_succ, List.set_cons_zero]
      refine wpFreeD_one rfl (.bool false) (fun w1 _ => by kernel_rfl) ?_
      simp only [Act.put, List.setIfInBounds_toArray, List.set_cons_succ, List.set_cons_zero]
      refine wpFreeD_skip (by kernel_rfl) ?_
      simp only [Act.put, List.setIfInBounds_toArray, List.set_cons_succ, List.set_cons_zero]
      refine wpFreeD_skip (by kernel_rfl) ?_
      simp only [Act.put, List.setIfInBounds_toArray, List.set_cons_succ, List.set_cons_zero]
      refine wpFreeD_skip (by kernel_rfl) ?_
      simp only [Act.put, List.setIfInBounds_toArray, List.set_cons_succ, List.set_cons_zero]
      refine wpFreeD_skip (by kernel_rfl) ?_
      simp only [Act.put, List.setIfInBounds_toArray, List.set_cons_succ, List.set_cons_zero]
      refine wpFreeD_skip (by kernel_rfl) ?_
      simp only [Act.put, List.setIfInBounds_toArray, List.set_cons_succ, List.set_cons_zero]
      refine wpFreeD_skip (by kernel_rfl) ?_
      simp only [Act.put, List.setIfInBounds_toArray, List.set_cons_succ, List.set_cons_zero]
      refine wpFreeD_one rfl (.bool false) (fun w1 _ => by kernel_rfl) ?_
      simp only [Act.put, List.setIfInBounds_toArray, List.set_cons_succ, List.set_cons_zero]
      refine wpFreeD_one rfl (.bool false) (fun w1 _ => by kernel_rfl) ?_
      simp only [Act.put, List.setIfInBounds_toArray, List.set_cons_succ, List.set_cons_zero]
      refine wpFreeD_skip (by kernel_rfl) ?_
      simp only [Act.put, List.setIfInBounds_toArray, List.set_cons_succ, List.set_cons_zero]
      refine wpFreeD_skip (by kernel_rfl) ?_
      simp only [Act.put, List.setIfInBounds_toArray, List.set_cons_succ, List.set_cons_zero]
      refine wpFreeD_skip (by kernel_rfl) ?_
      simp only [Act.put, List.setIfInBounds_toArray, List.set_cons_succ, List.set_cons_zero]
      refine wpFreeD_skip (by kernel_rfl) ?_
      simp only [Act.put, List.setIfInBounds_toArray, List.set_cons_succ, List.set_cons_zero]
      refine wpFreeD_skip (by kernel_rfl) ?_
      simp only [Act.put, List.setIfInBounds_toArray, List.set_cons_succ, List.set_cons_zero]
      refine wpFreeD_skip (by kernel_rfl) ?_
      simp only [Act.put, List.setIfInBounds_toArray, List.set_cons_succ, List.set_cons_zero]
      refine wpFreeD_skip (by kernel_rfl) ?_
      simp only [Act.put, List.setIfInBounds_toArray, List.set_cons_succ, List.set_cons_zero]
      refine wpFreeD_skip (by kernel_rfl) ?_
      simp only [Act.put, List.setIfInBounds_toArray, List.set_cons_succ, List.set_cons_zero]
      refine wpFreeD_skip (by kernel_rfl) ?_
      simp only [Act.put, List.setIfInBounds_toArray, List.set_cons_succ, List.set_cons_zero]
      refine wpFreeD_skip (by kernel_rfl) ?_
      simp only [Act.put, List.setIfInBounds_toArray, List.set_cons_succ, List.set_cons_zero]
      refine wpFreeD_one rfl (.bool false) (fun w1 _ => by kernel_rfl) ?_
      simp only [Act.put, List.setIfInBounds_toArray, List.set_cons_succ, List.set_cons_zero]
      refine wpFreeD_one rfl (.bool false) (fun w1 _ => by kernel_rfl) ?_
      simp only [Act.put, List.setIfInBounds_toArray, List.set_cons_succ, List.set_cons_zero]
      refine wpFreeD_nil (fun wR hwR _ => ?_)
      have HL := hid (le_trans (le_drewN _ _) hwR)
      clear hwR
      go_wp2
      go_ret
      exact ⟨ret_b E.out.symm, HL.out⟩
    · have hc1 := hid h1; clear h1
      rcases bool_ft ((fk == 1)) with h2 | h2
      · have hc2 := hid h2
        have E := hid (show ((fk == 1) && okF fk a b c p q && (gk == 5) && okF gk a2 b2 c2 p2 q2 && rngB x nx j && rngB y ny k && finB (two m o) 2) = false by simp [h2])
        clear h2
        go_enter Tryd.func31, Tryd.ntmps31
        go_wp2_with fail
        refine region_freeD (E := leX) (fun f args _ v => if f = 49 then v = .bool true else if f = 50 then (args = #[.pointer (some ⟨g0, 4, none⟩)] → v = .bool true) ∧ (args = #[.pointer (some ⟨g0, 10, none⟩)] → v = .bool false) else v = .bool (finB (two m o) 2)) (by kernel_rfl) (by kernel_rfl) ?_
        refine wpFreeD_one rfl (.pointer (some ⟨g0, 0, none⟩)) (fun w1 _ => by kernel_rfl) ?_
        simp only [Act.put, List.setIfInBounds_toArray, List.set_cons_succ, List.set_cons_zero]
        refine wpFreeD_one rfl (.pointer (some ⟨g0, 0, none⟩)) (fun w1 _ => by kernel_rfl) ?_
        simp only [Act.put, List.setIfInBounds_toArray, List.set_cons_succ, List.set_cons_zero]
        refine wpFreeD_one rfl (.pointer (some ⟨g0, 0, none⟩)) (fun w1 _ => by kernel_rfl) ?_
        simp only [Act.put, List.setIfInBounds_toArray, List.set_cons_succ, List.set_cons_zero]
        refine wpFreeD_loadW rfl rfl rfl [s, .int .i64 j] (fun w1 h1 => Row.at_part (hRw.out w1 (le_trans (le_drewN _ _) h1)) (partJet_Throat (s) (.int .i64 j) (t) (.int .i64 k) (.int .i64 fk) (.float .f32 a) (.float .f32 b) (.float .f32 c) (.float .f32 p) (.float .f32 q) (.int .i64 gk) (.float .f32 a2) (.float .f32 b2) (.float .f32 c2) (.float .f32 p2) (.float .f32 q2) (.float .f32 m) (.float .f32 o))) Tryd.underlying34 rfl uinfoRingI rfl ?_
        simp only [Act.put, List.setIfInBounds_toArray, List.set_cons_succ, List.set_cons_zero]
        refine wpFreeD_one rfl (.pointer (some ⟨g0, 0, none⟩)) (fun w1 _ => by kernel_rfl) ?_
        simp only [Act.put, List.setIfInBounds_toArray, List.set_cons_succ, List.set_cons_zero]
        refine wpFreeD_one rfl (.pointer (some ⟨g0, 0, none⟩)) (fun w1 _ => by kernel_rfl) ?_
        simp only [Act.put, List.setIfInBounds_toArray, List.set_cons_succ, List.set_cons_zero]
        refine wpFreeD_one rfl (.pointer (some ⟨g0, 2, none⟩)) (fun w1 _ => by kernel_rfl) ?_
        simp only [Act.put, List.setIfInBounds_toArray, List.set_cons_succ, List.set_cons_zero]
        refine wpFreeD_loadW rfl rfl rfl [t, .int .i64 k] (fun w1 h1 => Row.at_part (hRw.out w1 (le_trans (le_drewN _ _) h1)) (partJet_Bore (s) (.int .i64 j) (t) (.int .i64 k) (.int .i64 fk) (.float .f32 a) (.float .f32 b) (.float .f32 c) (.float .f32 p) (.float .f32 q) (.int .i64 gk) (.float .f32 a2) (.float .f32 b2) (.float .f32 c2) (.float .f32 p2) (.float .f32 q2) (.float .f32 m) (.float .f32 o))) Tryd.underlying34 rfl uinfoRingI rfl ?_
        simp only [Act.put, List.setIfInBounds_toArray, List.set_cons_succ, List.set_cons_zero]
        refine wpFreeD_madeW (by kernel_rfl) (fun b => .slice (some ⟨b, 0, none⟩) 2 2) 34 #[s, .int .i64 j, t, .int .i64 k] (fun w1 => by kernel_rfl) (fun bR => ?_)
        simp only [Act.put, List.setIfInBounds_toArray, List.set_cons_succ, List.set_cons_zero]
        refine wpFreeD_callW (by kernel_rfl) rfl Tryd.func49 (by kernel_rfl) (by kernel_rfl) (args := #[.slice (some ⟨bR, 0, none⟩) 2 2]) (by simp [Act.eval]) (fun v w1 w2 hw hv => hv) (fun w1 hw1 hbe => ?_) ?_
        · obtain ⟨b', e1, hrow⟩ := (hbe ⟨8, Ground.data⟩ (by simp) (by kernel_rfl)).2 rfl
          obtain rfl : bR = b' := by simpa using e1
          refine (s_l04Rings _ _ _ _ w1 (HRD.out bR w1 (le_trans (le_drewN _ _) hw1) hrow) (rg2_ok _ _ _ _ _ _)).mono ?_
          rintro e w2 ⟨rfl, q, rfl⟩
          exact ⟨_, rfl, le_drewN _ _, by simp only [if_true]; rw [rg2_all, hc0.out]⟩
        rintro v ⟨_, _, _, hv⟩
        simp only [if_true] at hv
        subst hv
        simp only [Act.put, List.setIfInBounds_toArray, List.set_cons_succ, List.set_cons_zero]
        refine wpFreeD_one rfl (.bool true) (fun w1 _ => by kernel_rfl) ?_
        simp only [Act.put, List.setIfInBounds_toArray, List.set_cons_succ, List.set_cons_zero]
        refine wpFreeD_oneW (by kernel_rfl) (.pointer (some ⟨g0, 0, none⟩)) (fun w1 _ => by kernel_rfl) ?_
        simp only [Act.put, List.setIfInBounds_toArray, List.set_cons_succ, List.set_cons_zero]
        refine wpFreeD_oneW (by kernel_rfl) (.pointer (some ⟨g0, 0, none⟩)) (fun w1 _ => by kernel_rfl) ?_
        simp only [Act.put, List.setIfInBounds_toArray, List.set_cons_succ, List.set_cons_zero]
        refine wpFreeD_oneW (by kernel_rfl) (.pointer (some ⟨g0, 4, none⟩)) (fun w1 _ => by kernel_rfl) ?_
        simp only [Act.put, List.setIfInBounds_toArray, List.set_cons_succ, List.set_cons_zero]
        refine wpFreeD_callW (by kernel_rfl) rfl Tryd.func50 (by kernel_rfl) (by kernel_rfl) (args := #[.pointer (some ⟨g0, 4, none⟩)]) (by simp [Act.eval]) (fun v w1 w2 hw hv => hv) (fun w1 hw1 _ => (HO0.out w1 (le_trans (le_drewN _ _) hw1)).mono ?_) ?_
        · rintro e w2 ⟨rfl, q, rfl⟩
          exact ⟨_, rfl, le_drewN _ _, by simp only [show ¬ (50 = 49) by decide, if_false, if_true]; simp [hc1.out]⟩
        rintro v ⟨_, _, _, hv⟩
        simp only [show ¬ (50 = 49) by decide, if_false, if_true] at hv
        obtain rfl := hv.1 (by first | rfl | trivial)
        simp only [Act.put, List.setIfInBounds_toArray, List.set_cons_succ, List.set_cons_zero]
        refine wpFreeD_one rfl (.bool true) (fun w1 _ => by kernel_rfl) ?_
        simp only [Act.put, List.setIfInBounds_toArray, List.set_cons_succ, List.set_cons_zero]
        refine wpFreeD_one rfl (.bool true) (fun w1 _ => by kernel_rfl) ?_
        simp only [Act.put, List.setIfInBounds_toArray, List.set_cons_succ, List.set_cons_zero]
        refine wpFreeD_oneW (by kernel_rfl) (.pointer (some ⟨g0, 0, none⟩)) (fun w1 _ => by kernel_rfl) ?_
        simp only [Act.put, List.setIfInBounds_toArray, List.set_cons_succ, List.set_cons_zero]
        refine wpFreeD_oneW (by kernel_rfl) (.pointer (some ⟨g0, 0, none⟩)) (fun w1 _ => by kernel_rfl) ?_
        simp only [Act.put, List.setIfInBounds_toArray, List.set_cons_succ, List.set_cons_zero]
        refine wpFreeD_oneW (by kernel_rfl) (.pointer (some ⟨g0, 4, none⟩)) (fun w1 _ => by kernel_rfl) ?_
        simp only [Act.put, List.setIfInBounds_toArray, List.set_cons_succ, List.set_cons_zero]
        refine wpFreeD_oneW (by kernel_rfl) (.pointer (some ⟨g0, 4, none⟩)) (fun w1 _ => by kernel_rfl) ?_
        simp only [Act.put, List.setIfInBounds_toArray, List.set_cons_succ, List.set_cons_zero]
        refine wpFreeD_load1W (by kernel_rfl) rfl rfl (p := ⟨g0, 4, none⟩) (fun w1 h1 => (hRw.out w1 (le_trans (le_drewN _ _) h1)).cell? 4) ukindInt64 ?_
        simp only [Act.put, List.setIfInBounds_toArray, List.set_cons_succ, List.set_cons_zero]
        refine wpFreeD_oneW (by kernel_rfl) (.bool (fk == 1)) (fun w1 _ => by kernel_rfl) ?_
        simp only [Act.put, List.setIfInBounds_toArray, List.set_cons_succ, List.set_cons_zero]
        rw [hc2.out]
        refine wpFreeD_one rfl (.bool false) (fun w1 _ => by kernel_rfl) ?_
        simp only [Act.put, List.setIfInBounds_toArray, List.set_cons_succ, List.set_cons_zero]
        refine wpFreeD_one rfl (.bool false) (fun w1 _ => by kernel_rfl) ?_
        simp only [Act.put, List.setIfInBounds_toArray, List.set_cons_succ, List.set_cons_zero]
        refine wpFreeD_skip (by kernel_rfl) ?_
        simp only [Act.put, List.setIfInBounds_toArray, List.set_cons_succ, List.set_cons_zero]
        refine wpFreeD_skip (by kernel_rfl) ?_
        simp only [Act.put, List.setIfInBounds_toArray, List.set_cons_succ, List.set_cons_zero]
        refine wpFreeD_skip (by kernel_rfl) ?_
        simp only [Act.put, List.setIfInBounds_toArray, List.set_cons_succ, List.set_cons_zero]
        refine wpFreeD_skip (by kernel_rfl) ?_
        simp only [Act.put, List.setIfInBounds_toArray, List.set_cons_succ, List.set_cons_zero]
        refine wpFreeD_one rfl (.bool false) (fun w1 _ => by kernel_rfl) ?_
        simp only [Act.put, List.setIfInBounds_toArray, List.set_cons_succ, List.set_cons_zero]
        refine wpFreeD_one rfl (.bool false) (fun w1 _ => by kernel_rfl) ?_
        simp only [Act.put, List.setIfInBounds_toArray, List.set_cons_succ, List.set_cons_zero]
        refine wpFreeD_skip (by kernel_rfl) ?_
        simp only [Act.put, List.setIfInBounds_toArray, List.set_cons_succ, List.set_cons_zero]
        refine wpFreeD_skip (by kernel_rfl) ?_
        simp only [Act.put, List.setIfInBounds_toArray, List.set_cons_succ, List.set_cons_zero]
        refine wpFreeD_skip (by kernel_rfl) ?_
        simp only [Act.put, List.setIfInBounds_toArray, List.set_cons_succ, List.set_cons_zero]
        refine wpFreeD_skip (by kernel_rfl) ?_
        simp only [Act.put, List.setIfInBounds_toArray, List.set_cons_succ, List.set_cons_zero]
        refine wpFreeD_skip (by kernel_rfl) ?_
        simp only [Act.put, List.setIfInBounds_toArray, List.set_cons_succ, List.set_cons_zero]
        refine wpFreeD_skip (by kernel_rfl) ?_
        simp only [Act.put, List.setIfInBounds_toArray, List.set_cons_succ, List.set_cons_zero]
        refine wpFreeD_one rfl (.bool false) (fun w1 _ => by kernel_rfl) ?_
        simp only [Act.put, List.setIfInBounds_toArray, List.set_cons_succ, List.set_cons_zero]
        refine wpFreeD_one rfl (.bool false) (fun w1 _ => by kernel_rfl) ?_
        simp only [Act.put, List.setIfInBounds_toArray, List.set_cons_succ, List.set_cons_zero]
        refine wpFreeD_skip (by kernel_rfl) ?_
        simp only [Act.put, List.setIfInBounds_toArray, List.set_cons_succ, List.set_cons_zero]
        refine wpFreeD_skip (by kernel_rfl) ?_
        simp only [Act.put, List.setIfInBounds_toArray, List.set_cons_succ, List.set_cons_zero]
        refine wpFreeD_skip (by kernel_rfl) ?_
        simp only [Act.put, List.setIfInBounds_toArray, List.set_cons_succ, List.set_cons_zero]
        refine wpFreeD_skip (by kernel_rfl) ?_
        simp only [Act.put, List.setIfInBounds_toArray, List.set_cons_succ, List.set_cons_zero]
        refine wpFreeD_skip (by kernel_rfl) ?_
        simp only [Act.put, List.setIfInBounds_toArray, List.set_cons_succ, List.set_cons_zero]
        refine wpFreeD_skip (by kernel_rfl) ?_
        simp only [Act.put, List.setIfInBounds_toArray, List.set_cons_succ, List.set_cons_zero]
        refine wpFreeD_skip (by kernel_rfl) ?_
        simp only [Act.put, List.setIfInBounds_toArray, List.set_cons_succ, List.set_cons_zero]
        refine wpFreeD_skip (by kernel_rfl) ?_
        simp only [Act.put, List.setIfInBounds_toArray, List.set_cons_succ, List.set_cons_zero]
        refine wpFreeD_skip (by kernel_rfl) ?_
        simp only [Act.put, List.setIfInBounds_toArray, List.set_cons_succ, List.set_cons_zero]
        refine wpFreeD_skip (by kernel_rfl) ?_
        simp only [Act.put, List.setIfInBounds_toArray, List.set_cons_succ, List.set_cons_zero]
        refine wpFreeD_one rfl (.bool false) (fun w1 _ => by kernel_rfl) ?_
        simp only [Act.put, List.setIfInBounds_toArray, List.set_cons_succ, List.set_cons_zero]
        refine wpFreeD_one rfl (.bool false) (fun w1 _ => by kernel_rfl) ?_
        simp only [Act.put, List.setIfInBounds_toArray, List.set_cons_succ, List.set_cons_zero]
        refine wpFreeD_nil (fun wR hwR _ => ?_)
        have HL := hid (le_trans (le_drewN _ _) hwR)
        clear hwR
        go_wp2
        go_ret
        exact ⟨ret_b E.out.symm, HL.out⟩
      · have hc2 := hid h2; clear h2
        rcases bool_ft (okF gk a2 b2 c2 p2 q2) with h3 | h3
        · have hc3 := hid h3
          have E := hid (show ((fk == 1) && okF fk a b c p q && (gk == 5) && okF gk a2 b2 c2 p2 q2 && rngB x nx j && rngB y ny k && finB (two m o) 2) = false by simp [h3])
          clear h3
          go_enter Tryd.func31, Tryd.ntmps31
          go_wp2_with fail
          refine region_freeD (E := leX) (fun f args _ v => if f = 49 then v = .bool true else if f = 50 then (args = #[.pointer (some ⟨g0, 4, none⟩)] → v = .bool true) ∧ (args = #[.pointer (some ⟨g0, 10, none⟩)] → v = .bool false) else v = .bool (finB (two m o) 2)) (by kernel_rfl) (by kernel_rfl) ?_
          refine wpFreeD_one rfl (.pointer (some ⟨g0, 0, none⟩)) (fun w1 _ => by kernel_rfl) ?_
          simp only [Act.put, List.setIfInBounds_toArray, List.set_cons_succ, List.set_cons_zero]
          refine wpFreeD_one rfl (.pointer (some ⟨g0, 0, none⟩)) (fun w1 _ => by kernel_rfl) ?_
          simp only [Act.put, List.setIfInBounds_toArray, List.set_cons_succ, List.set_cons_zero]
          refine wpFreeD_one rfl (.pointer (some ⟨g0, 0, none⟩)) (fun w1 _ => by kernel_rfl) ?_
          simp only [Act.put, List.setIfInBounds_toArray, List.set_cons_succ, List.set_cons_zero]
          refine wpFreeD_loadW rfl rfl rfl [s, .int .i64 j] (fun w1 h1 => Row.at_part (hRw.out w1 (le_trans (le_drewN _ _) h1)) (partJet_Throat (s) (.int .i64 j) (t) (.int .i64 k) (.int .i64 fk) (.float .f32 a) (.float .f32 b) (.float .f32 c) (.float .f32 p) (.float .f32 q) (.int .i64 gk) (.float .f32 a2) (.float .f32 b2) (.float .f32 c2) (.float .f32 p2) (.float .f32 q2) (.float .f32 m) (.float .f32 o))) Tryd.underlying34 rfl uinfoRingI rfl ?_
          simp only [Act.put, List.setIfInBounds_toArray, List.set_cons_succ, List.set_cons_zero]
          refine wpFreeD_one rfl (.pointer (some ⟨g0, 0, none⟩)) (fun w1 _ => by kernel_rfl) ?_
          simp only [Act.put, List.setIfInBounds_toArray, List.set_cons_succ, List.set_cons_zero]
          refine wpFreeD_one rfl (.pointer (some ⟨g0, 0, none⟩)) (fun w1 _ => by kernel_rfl) ?_
          simp only [Act.put, List.setIfInBounds_toArray, List.set_cons_succ, List.set_cons_zero]
          refine wpFreeD_one rfl (.pointer (some ⟨g0, 2, none⟩)) (fun w1 _ => by kernel_rfl) ?_
          simp only [Act.put, List.setIfInBounds_toArray, List.set_cons_succ, List.set_cons_zero]
          refine wpFreeD_loadW rfl rfl rfl [t, .int .i64 k] (fun w1 h1 => Row.at_part (hRw.out w1 (le_trans (le_drewN _ _) h1)) (partJet_Bore (s) (.int .i64 j) (t) (.int .i64 k) (.int .i64 fk) (.float .f32 a) (.float .f32 b) (.float .f32 c) (.float .f32 p) (.float .f32 q) (.int .i64 gk) (.float .f32 a2) (.float .f32 b2) (.float .f32 c2) (.float .f32 p2) (.float .f32 q2) (.float .f32 m) (.float .f32 o))) Tryd.underlying34 rfl uinfoRingI rfl ?_
          simp only [Act.put, List.setIfInBounds_toArray, List.set_cons_succ, List.set_cons_zero]
          refine wpFreeD_madeW (by kernel_rfl) (fun b => .slice (some ⟨b, 0, none⟩) 2 2) 34 #[s, .int .i64 j, t, .int .i64 k] (fun w1 => by kernel_rfl) (fun bR => ?_)
          simp only [Act.put, List.setIfInBounds_toArray, List.set_cons_succ, List.set_cons_zero]
          refine wpFreeD_callW (by kernel_rfl) rfl Tryd.func49 (by kernel_rfl) (by kernel_rfl) (args := #[.slice (some ⟨bR, 0, none⟩) 2 2]) (by simp [Act.eval]) (fun v w1 w2 hw hv => hv) (fun w1 hw1 hbe => ?_) ?_
          · obtain ⟨b', e1, hrow⟩ := (hbe ⟨8, Ground.data⟩ (by simp) (by kernel_rfl)).2 rfl
            obtain rfl : bR = b' := by simpa using e1
            refine (s_l04Rings _ _ _ _ w1 (HRD.out bR w1 (le_trans (le_drewN _ _) hw1) hrow) (rg2_ok _ _ _ _ _ _)).mono ?_
            rintro e w2 ⟨rfl, q, rfl⟩
            exact ⟨_, rfl, le_drewN _ _, by simp only [if_true]; rw [rg2_all, hc0.out]⟩
          rintro v ⟨_, _, _, hv⟩
          simp only [if_true] at hv
          subst hv
          simp only [Act.put, List.setIfInBounds_toArray, List.set_cons_succ, List.set_cons_zero]
          refine wpFreeD_one rfl (.bool true) (fun w1 _ => by kernel_rfl) ?_
          simp only [Act.put, List.setIfInBounds_toArray, List.set_cons_succ, List.set_cons_zero]
          refine wpFreeD_oneW (by kernel_rfl) (.pointer (some ⟨g0, 0, none⟩)) (fun w1 _ => by kernel_rfl) ?_
          simp only [Act.put, List.setIfInBounds_toArray, List.set_cons_succ, List.set_cons_zero]
          refine wpFreeD_oneW (by kernel_rfl) (.pointer (some ⟨g0, 0, none⟩)) (fun w1 _ => by kernel_rfl) ?_
          simp only [Act.put, List.setIfInBounds_toArray, List.set_cons_succ, List.set_cons_zero]
          refine wpFreeD_oneW (by kernel_rfl) (.pointer (some ⟨g0, 4, none⟩)) (fun w1 _ => by kernel_rfl) ?_
          simp only [Act.put, List.setIfInBounds_toArray, List.set_cons_succ, List.set_cons_zero]
          refine wpFreeD_callW (by kernel_rfl) rfl Tryd.func50 (by kernel_rfl) (by kernel_rfl) (args := #[.pointer (some ⟨g0, 4, none⟩)]) (by simp [Act.eval]) (fun v w1 w2 hw hv => hv) (fun w1 hw1 _ => (HO0.out w1 (le_trans (le_drewN _ _) hw1)).mono ?_) ?_
          · rintro e w2 ⟨rfl, q, rfl⟩
            exact ⟨_, rfl, le_drewN _ _, by simp only [show ¬ (50 = 49) by decide, if_false, if_true]; simp [hc1.out]⟩
          rintro v ⟨_, _, _, hv⟩
          simp only [show ¬ (50 = 49) by decide, if_false, if_true] at hv
          obtain rfl := hv.1 (by first | rfl | trivial)
          simp only [Act.put, List.setIfInBounds_toArray, List.set_cons_succ, List.set_cons_zero]
          refine wpFreeD_one rfl (.bool true) (fun w1 _ => by kernel_rfl) ?_
          simp only [Act.put, List.setIfInBounds_toArray, List.set_cons_succ, List.set_cons_zero]
          refine wpFreeD_one rfl (.bool true) (fun w1 _ => by kernel_rfl) ?_
          simp only [Act.put, List.setIfInBounds_toArray, List.set_cons_succ, List.set_cons_zero]
          refine wpFreeD_oneW (by kernel_rfl) (.pointer (some ⟨g0, 0, none⟩)) (fun w1 _ => by kernel_rfl) ?_
          simp only [Act.put, List.setIfInBounds_toArray, List.set_cons_succ, List.set_cons_zero]
          refine wpFreeD_oneW (by kernel_rfl) (.pointer (some ⟨g0, 0, none⟩)) (fun w1 _ => by kernel_rfl) ?_
          simp only [Act.put, List.setIfInBounds_toArray, List.set_cons_succ, List.set_cons_zero]
          refine wpFreeD_oneW (by kernel_rfl) (.pointer (some ⟨g0, 4, none⟩)) (fun w1 _ => by kernel_rfl) ?_
          simp only [Act.put, List.setIfInBounds_toArray, List.set_cons_succ, List.set_cons_zero]
          refine wpFreeD_oneW (by kernel_rfl) (.pointer (some ⟨g0, 4, none⟩)) (fun w1 _ => by kernel_rfl) ?_
          simp only [Act.put, List.setIfInBounds_toArray, List.set_cons_succ, List.set_cons_zero]
          refine wpFreeD_load1W (by kernel_rfl) rfl rfl (p := ⟨g0, 4, none⟩) (fun w1 h1 => (hRw.out w1 (le_trans (le_drewN _ _) h1)).cell? 4) ukindInt64 ?_
          simp only [Act.put, List.setIfInBounds_toArray, List.set_cons_succ, List.set_cons_zero]
          refine wpFreeD_oneW (by kernel_rfl) (.bool (fk == 1)) (fun w1 _ => by kernel_rfl) ?_
          simp only [Act.put, List.setIfInBounds_toArray, List.set_cons_succ, List.set_cons_zero]
          rw [hc2.out]
          refine wpFreeD_one rfl (.bool true) (fun w1 _ => by kernel_rfl) ?_
          simp only [Act.put, List.setIfInBounds_toArray, List.set_cons_succ, List.set_cons_zero]
          refine wpFreeD_one rfl (.bool true) (fun w1 _ => by kernel_rfl) ?_
          simp only [Act.put, List.setIfInBounds_toArray, List.set_cons_succ, List.set_cons_zero]
          refine wpFreeD_oneW (by kernel_rfl) (.pointer (some ⟨g0, 0, none⟩)) (fun w1 _ => by kernel_rfl) ?_
          simp only [Act.put, List.setIfInBounds_toArray, List.set_cons_succ, List.set_cons_zero]
          refine wpFreeD_oneW (by kernel_rfl) (.pointer (some ⟨g0, 0, none⟩)) (fun w1 _ => by kernel_rfl) ?_
          simp only [Act.put, List.setIfInBounds_toArray, List.set_cons_succ, List.set_cons_zero]
          refine wpFreeD_oneW (by kernel_rfl) (.pointer (some ⟨g0, 10, none⟩)) (fun w1 _ => by kernel_rfl) ?_
          simp only [Act.put, List.setIfInBounds_toArray, List.set_cons_succ, List.set_cons_zero]
          refine wpFreeD_callW (by kernel_rfl) rfl Tryd.func50 (by kernel_rfl) (by kernel_rfl) (args := #[.pointer (some ⟨g0, 10, none⟩)]) (by simp [Act.eval]) (fun v w1 w2 hw hv => hv) (fun w1 hw1 _ => (HO1.out w1 (le_trans (le_drewN _ _) hw1)).mono ?_) ?_
          · rintro e w2 ⟨rfl, q, rfl⟩
            exact ⟨_, rfl, le_drewN _ _, by simp only [show ¬ (50 = 49) by decide, if_false, if_true]; simp [hc3.out]⟩
          rintro v ⟨_, _, _, hv⟩
          simp only [show ¬ (50 = 49) by decide, if_false, if_true] at hv
          obtain rfl := hv.2 (by first | rfl | trivial)
          simp only [Act.put, List.setIfInBounds_toArray, List.set_cons_succ, List.set_cons_zero]
          refine wpFreeD_one rfl (.bool false) (fun w1 _ => by kernel_rfl) ?_
          simp only [Act.put, List.setIfInBounds_toArray, List.set_cons_succ, List.set_cons_zero]
          refine wpFreeD_one rfl (.bool false) (fun w1 _ => by kernel_rfl) ?_
          simp only [Act.put, List.setIfInBounds_toArray, List.set_cons_succ, List.set_cons_zero]
          refine wpFreeD_skip (by kernel_rfl) ?_
          simp only [Act.put, List.setIfInBounds_toArray, List.set_cons_succ, List.set_cons_zero]
          refine wpFreeD_skip (by kernel_rfl) ?_
          simp only [Act.put, List.setIfInBounds_toArray, List.set_cons_succ, List.set_cons_zero]
          refine wpFreeD_skip (by kernel_rfl) ?_
          simp only [Act.put, List.setIfInBounds_toArray, List.set_cons_succ, List.set_cons_zero]
          refine wpFreeD_skip (by kernel_rfl) ?_
          simp only [Act.put, List.setIfInBounds_toArray, List.set_cons_succ, List.set_cons_zero]
          refine wpFreeD_skip (by kernel_rfl) ?_
          simp only [Act.put, List.setIfInBounds_toArray, List.set_cons_succ, List.set_cons_zero]
          refine wpFreeD_skip (by kernel_rfl) ?_
          simp only [Act.put, List.setIfInBounds_toArray, List.set_cons_succ, List.set_cons_zero]
          refine wpFreeD_one rfl (.bool false) (fun w1 _ => by kernel_rfl) ?_
          simp only [Act.put, List.setIfInBounds_toArray, List.set_cons_succ, List.set_cons_zero]
          refine wpFreeD_one rfl (.bool false) (fun w1 _ => by kernel_rfl) ?_
          simp only [Act.put, List.setIfInBounds_toArray, List.set_cons_succ, List.set_cons_zero]
          refine wpFreeD_skip (by kernel_rfl) ?_
          simp only [Act.put, List.setIfInBounds_toArray, List.set_cons_succ, List.set_cons_zero]
          refine wpFreeD_skip (by kernel_rfl) ?_
          simp only [Act.put, List.setIfInBounds_toArray, List.set_cons_succ, List.set_cons_zero]
          refine wpFreeD_skip (by kernel_rfl) ?_
          simp only [Act.put, List.setIfInBounds_toArray, List.set_cons_succ, List.set_cons_zero]
          refine wpFreeD_skip (by kernel_rfl) ?_
          simp only [Act.put, List.setIfInBounds_toArray, List.set_cons_succ, List.set_cons_zero]
          refine wpFreeD_skip (by kernel_rfl) ?_
          simp only [Act.put, List.setIfInBounds_toArray, List.set_cons_succ, List.set_cons_zero]
          refine wpFreeD_skip (by kernel_rfl) ?_
          simp only [Act.put, List.setIfInBounds_toArray, List.set_cons_succ, List.set_cons_zero]
          refine wpFreeD_skip (by kernel_rfl) ?_
          simp only [Act.put, List.setIfInBounds_toArray, List.set_cons_succ, List.set_cons_zero]
          refine wpFreeD_skip (by kernel_rfl) ?_
          simp only [Act.put, List.setIfInBounds_toArray, List.set_cons_succ, List.set_cons_zero]
          refine wpFreeD_skip (by kernel_rfl) ?_
          simp only [Act.put, List.setIfInBounds_toArray, List.set_cons_succ, List.set_cons_zero]
          refine wpFreeD_skip (by kernel_rfl) ?_
          simp only [Act.put, List.setIfInBounds_toArray, List.set_cons_succ, List.set_cons_zero]
          refine wpFreeD_one rfl (.bool false) (fun w1 _ => by kernel_rfl) ?_
          simp only [Act.put, List.setIfInBounds_toArray, List.set_cons_succ, List.set_cons_zero]
          refine wpFreeD_one rfl (.bool false) (fun w1 _ => by kernel_rfl) ?_
          simp only [Act.put, List.setIfInBounds_toArray, List.set_cons_succ, List.set_cons_zero]
          refine wpFreeD_nil (fun wR hwR _ => ?_)
          have HL := hid (le_trans (le_drewN _ _) hwR)
          clear hwR
          go_wp2
          go_ret
          exact ⟨ret_b E.out.symm, HL.out⟩
        · have hc3 := hid h3; clear h3
          rcases bool_ft ((gk == 5)) with h4 | h4
          · have hc4 := hid h4
            have E := hid (show ((fk == 1) && okF fk a b c p q && (gk == 5) && okF gk a2 b2 c2 p2 q2 && rngB x nx j && rngB y ny k && finB (two m o) 2) = false by simp [h4])
            clear h4
            go_enter Tryd.func31, Tryd.ntmps31
            go_wp2_with fail
            refine region_freeD (E := leX) (fun f args _ v => if f = 49 then v = .bool true else if f = 50 then (args = #[.pointer (some ⟨g0, 4, none⟩)] → v = .bool true) ∧ (args = #[.pointer (some ⟨g0, 10, none⟩)] → v = .bool true) else v = .bool (finB (two m o) 2)) (by kernel_rfl) (by kernel_rfl) ?_
            refine wpFreeD_one rfl (.pointer (some ⟨g0, 0, none⟩)) (fun w1 _ => by kernel_rfl) ?_
            simp only [Act.put, List.setIfInBounds_toArray, List.set_cons_succ, List.set_cons_zero]
            refine wpFreeD_one rfl (.pointer (some ⟨g0, 0, none⟩)) (fun w1 _ => by kernel_rfl) ?_
            simp only [Act.put, List.setIfInBounds_toArray, List.set_cons_succ, List.set_cons_zero]
            refine wpFreeD_one rfl (.pointer (some ⟨g0, 0, none⟩)) (fun w1 _ => by kernel_rfl) ?_
            simp only [Act.put, List.setIfInBounds_toArray, List.set_cons_succ, List.set_cons_zero]
            refine wpFreeD_loadW rfl rfl rfl [s, .int .i64 j] (fun w1 h1 => Row.at_part (hRw.out w1 (le_trans (le_drewN _ _) h1)) (partJet_Throat (s) (.int .i64 j) (t) (.int .i64 k) (.int .i64 fk) (.float .f32 a) (.float .f32 b) (.float .f32 c) (.float .f32 p) (.float .f32 q) (.int .i64 gk) (.float .f32 a2) (.float .f32 b2) (.float .f32 c2) (.float .f32 p2) (.float .f32 q2) (.float .f32 m) (.float .f32 o))) Tryd.underlying34 rfl uinfoRingI rfl ?_
            simp only [Act.put, List.setIfInBounds_toArray, List.set_cons_succ, List.set_cons_zero]
            refine wpFreeD_one rfl (.pointer (some ⟨g0, 0, none⟩)) (fun w1 _ => by kernel_rfl) ?_
            simp only [Act.put, List.setIfInBounds_toArray, List.set_cons_succ, List.set_cons_zero]
            refine wpFreeD_one rfl (.pointer (some ⟨g0, 0, none⟩)) (fun w1 _ => by kernel_rfl) ?_
            simp only [Act.put, List.setIfInBounds_toArray, List.set_cons_succ, List.set_cons_zero]
            refine wpFreeD_one rfl (.pointer (some ⟨g0, 2, none⟩)) (fun w1 _ => by kernel_rfl) ?_
            simp only [Act.put, List.setIfInBounds_toArray, List.set_cons_succ, List.set_cons_zero]
            refine wpFreeD_loadW rfl rfl rfl [t, .int .i64 k] (fun w1 h1 => Row.at_part (hRw.out w1 (le_trans (le_drewN _ _) h1)) (partJet_Bore (s) (.int .i64 j) (t) (.int .i64 k) (.int .i64 fk) (.float .f32 a) (.float .f32 b) (.float .f32 c) (.float .f32 p) (.float .f32 q) (.int .i64 gk) (.float .f32 a2) (.float .f32 b2) (.float .f32 c2) (.float .f32 p2) (.float .f32 q2) (.float .f32 m) (.float .f32 o))) Tryd.underlying34 rfl uinfoRingI rfl ?_
            simp only [Act.put, List.setIfInBounds_toArray, List.set_cons_succ, List.set_cons_zero]
            refine wpFreeD_madeW (by kernel_rfl) (fun b => .slice (some ⟨b, 0, none⟩) 2 2) 34 #[s, .int .i64 j, t, .int .i64 k] (fun w1 => by kernel_rfl) (fun bR => ?_)
            simp only [Act.put, List.setIfInBounds_toArray, List.set_cons_succ, List.set_cons_zero]
            refine wpFreeD_callW (by kernel_rfl) rfl Tryd.func49 (by kernel_rfl) (by kernel_rfl) (args := #[.slice (some ⟨bR, 0, none⟩) 2 2]) (by simp [Act.eval]) (fun v w1 w2 hw hv => hv) (fun w1 hw1 hbe => ?_) ?_
            · obtain ⟨b', e1, hrow⟩ := (hbe ⟨8, Ground.data⟩ (by simp) (by kernel_rfl)).2 rfl
              obtain rfl : bR = b' := by simpa using e1
              refine (s_l04Rings _ _ _ _ w1 (HRD.out bR w1 (le_trans (le_drewN _ _) hw1) hrow) (rg2_ok _ _ _ _ _ _)).mono ?_
              rintro e w2 ⟨rfl, q, rfl⟩
              exact ⟨_, rfl, le_drewN _ _, by simp only [if_true]; rw [rg2_all, hc0.out]⟩
            rintro v ⟨_, _, _, hv⟩
            simp only [if_true] at hv
            subst hv
            simp only [Act.put, List.setIfInBounds_toArray, List.set_cons_succ, List.set_cons_zero]
            refine wpFreeD_one rfl (.bool true) (fun w1 _ => by kernel_rfl) ?_
            simp only [Act.put, List.setIfInBounds_toArray, List.set_cons_succ, List.set_cons_zero]
            refine wpFreeD_oneW (by kernel_rfl) (.pointer (some ⟨g0, 0, none⟩)) (fun w1 _ => by kernel_rfl) ?_
            simp only [Act.put, List.setIfInBounds_toArray, List.set_cons_succ, List.set_cons_zero]
            refine wpFreeD_oneW (by kernel_rfl) (.pointer (some ⟨g0, 0, none⟩)) (fun w1 _ => by kernel_rfl) ?_
            simp only [Act.put, List.setIfInBounds_toArray, List.set_cons_succ, List.set_cons_zero]
            refine wpFreeD_oneW (by kernel_rfl) (.pointer (some ⟨g0, 4, none⟩)) (fun w1 _ => by kernel_rfl) ?_
            simp only [Act.put, List.setIfInBounds_toArray, List.set_cons_succ, List.set_cons_zero]
            refine wpFreeD_callW (by kernel_rfl) rfl Tryd.func50 (by kernel_rfl) (by kernel_rfl) (args := #[.pointer (some ⟨g0, 4, none⟩)]) (by simp [Act.eval]) (fun v w1 w2 hw hv => hv) (fun w1 hw1 _ => (HO0.out w1 (le_trans (le_drewN _ _) hw1)).mono ?_) ?_
            · rintro e w2 ⟨rfl, q, rfl⟩
              exact ⟨_, rfl, le_drewN _ _, by simp only [show ¬ (50 = 49) by decide, if_false, if_true]; simp [hc1.out]⟩
            rintro v ⟨_, _, _, hv⟩
            simp only [show ¬ (50 = 49) by decide, if_false, if_true] at hv
            obtain rfl := hv.1 (by first | rfl | trivial)
            simp only [Act.put, List.setIfInBounds_toArray, List.set_cons_succ, List.set_cons_zero]
            refine wpFreeD_one rfl (.bool true) (fun w1 _ => by kernel_rfl) ?_
            simp only [Act.put, List.setIfInBounds_toArray, List.set_cons_succ, List.set_cons_zero]
            refine wpFreeD_one rfl (.bool true) (fun w1 _ => by kernel_rfl) ?_
            simp only [Act.put, List.setIfInBounds_toArray, List.set_cons_succ, List.set_cons_zero]
            refine wpFreeD_oneW (by kernel_rfl) (.pointer (some ⟨g0, 0, none⟩)) (fun w1 _ => by kernel_rfl) ?_
            simp only [Act.put, List.setIfInBounds_toArray, List.set_cons_succ, List.set_cons_zero]
            refine wpFreeD_oneW (by kernel_rfl) (.pointer (some ⟨g0, 0, none⟩)) (fun w1 _ => by kernel_rfl) ?_
            simp only [Act.put, List.setIfInBounds_toArray, List.set_cons_succ, List.set_cons_zero]
            refine wpFreeD_oneW (by kernel_rfl) (.pointer (some ⟨g0, 4, none⟩)) (fun w1 _ => by kernel_rfl) ?_
            simp only [Act.put, List.setIfInBounds_toArray, List.set_cons_succ, List.set_cons_zero]
            refine wpFreeD_oneW (by kernel_rfl) (.pointer (some ⟨g0, 4, none⟩)) (fun w1 _ => by kernel_rfl) ?_
            simp only [Act.put, List.setIfInBounds_toArray, List.set_cons_succ, List.set_cons_zero]
            refine wpFreeD_load1W (by kernel_rfl) rfl rfl (p := ⟨g0, 4, none⟩) (fun w1 h1 => (hRw.out w1 (le_trans (le_drewN _ _) h1)).cell? 4) ukindInt64 ?_
            simp only [Act.put, List.setIfInBounds_toArray, List.set_cons_succ, List.set_cons_zero]
            refine wpFreeD_oneW (by kernel_rfl) (.bool (fk == 1)) (fun w1 _ => by kernel_rfl) ?_
            simp only [Act.put, List.setIfInBounds_toArray, List.set_cons_succ, List.set_cons_zero]
            rw [hc2.out]
            refine wpFreeD_one rfl (.bool true) (fun w1 _ => by kernel_rfl) ?_
            simp only [Act.put, List.setIfInBounds_toArray, List.set_cons_succ, List.set_cons_zero]
            refine wpFreeD_one rfl (.bool true) (fun w1 _ => by kernel_rfl) ?_
            simp only [Act.put, List.setIfInBounds_toArray, List.set_cons_succ, List.set_cons_zero]
            refine wpFreeD_oneW (by kernel_rfl) (.pointer (some ⟨g0, 0, none⟩)) (fun w1 _ => by kernel_rfl) ?_
            simp only [Act.put, List.setIfInBounds_toArray, List.set_cons_succ, List.set_cons_zero]
            refine wpFreeD_oneW (by kernel_rfl) (.pointer (some ⟨g0, 0, none⟩)) (fun w1 _ => by kernel_rfl) ?_
            simp only [Act.put, List.setIfInBounds_toArray, List.set_cons_succ, List.set_cons_zero]
            refine wpFreeD_oneW (by kernel_rfl) (.pointer (some ⟨g0, 10, none⟩)) (fun w1 _ => by kernel_rfl) ?_
            simp only [Act.put, List.setIfInBounds_toArray, List.set_cons_succ, List.set_cons_zero]
            refine wpFreeD_callW (by kernel_rfl) rfl Tryd.func50 (by kernel_rfl) (by kernel_rfl) (args := #[.pointer (some ⟨g0, 10, none⟩)]) (by simp [Act.eval]) (fun v w1 w2 hw hv => hv) (fun w1 hw1 _ => (HO1.out w1 (le_trans (le_drewN _ _) hw1)).mono ?_) ?_
            · rintro e w2 ⟨rfl, q, rfl⟩
              exact ⟨_, rfl, le_drewN _ _, by simp only [show ¬ (50 = 49) by decide, if_false, if_true]; simp [hc3.out]⟩
            rintro v ⟨_, _, _, hv⟩
            simp only [show ¬ (50 = 49) by decide, if_false, if_true] at hv
            obtain rfl := hv.2 (by first | rfl | trivial)
            simp only [Act.put, List.setIfInBounds_toArray, List.set_cons_succ, List.set_cons_zero]
            refine wpFreeD_one rfl (.bool true) (fun w1 _ => by kernel_rfl) ?_
            simp only [Act.put, List.setIfInBounds_toArray, List.set_cons_succ, List.set_cons_zero]
            refine wpFreeD_one rfl (.bool true) (fun w1 _ => by kernel_rfl) ?_
            simp only [Act.put, List.setIfInBounds_toArray, List.set_cons_succ, List.set_cons_zero]
            refine wpFreeD_oneW (by kernel_rfl) (.pointer (some ⟨g0, 0, none⟩)) (fun w1 _ => by kernel_rfl) ?_
            simp only [Act.put, List.setIfInBounds_toArray, List.set_cons_succ, List.set_cons_zero]
            refine wpFreeD_oneW (by kernel_rfl) (.pointer (some ⟨g0, 0, none⟩)) (fun w1 _ => by kernel_rfl) ?_
            simp only [Act.put, List.setIfInBounds_toArray, List.set_cons_succ, List.set_cons_zero]
            refine wpFreeD_oneW (by kernel_rfl) (.pointer (some ⟨g0, 10, none⟩)) (fun w1 _ => by kernel_rfl) ?_
            simp only [Act.put, List.setIfInBounds_toArray, List.set_cons_succ, List.set_cons_zero]
            refine wpFreeD_oneW (by kernel_rfl) (.pointer (some ⟨g0, 10, none⟩)) (fun w1 _ => by kernel_rfl) ?_
            simp only [Act.put, List.setIfInBounds_toArray, List.set_cons_succ, List.set_cons_zero]
            refine wpFreeD_load1W (by kernel_rfl) rfl rfl (p := ⟨g0, 10, none⟩) (fun w1 h1 => (hRw.out w1 (le_trans (le_drewN _ _) h1)).cell? 10) ukindInt64 ?_
            simp only [Act.put, List.setIfInBounds_toArray, List.set_cons_succ, List.set_cons_zero]
            refine wpFreeD_oneW (by kernel_rfl) (.bool (gk == 5)) (fun w1 _ => by kernel_rfl) ?_
            simp only [Act.put, List.setIfInBounds_toArray, List.set_cons_succ, List.set_cons_zero]
            rw [hc4.out]
            refine wpFreeD_one rfl (.bool false) (fun w1 _ => by kernel_rfl) ?_
            simp only [Act.put, List.setIfInBounds_toArray, List.set_cons_succ, List.set_cons_zero]
            refine wpFreeD_one rfl (.bool false) (fun w1 _ => by kernel_rfl) ?_
            simp only [Act.put, List.setIfInBounds_toArray, List.set_cons_succ, List.set_cons_zero]
            refine wpFreeD_skip (by kernel_rfl) ?_
            simp only [Act.put, List.setIfInBounds_toArray, List.set_cons_succ, List.set_cons_zero]
            refine wpFreeD_skip (by kernel_rfl) ?_
            simp only [Act.put, List.setIfInBounds_toArray, List.set_cons_succ, List.set_cons_zero]
            refine wpFreeD_skip (by kernel_rfl) ?_
            simp only [Act.put, List.setIfInBounds_toArray, List.set_cons_succ, List.set_cons_zero]
            refine wpFreeD_skip (by kernel_rfl) ?_
            simp only [Act.put, List.setIfInBounds_toArray, List.set_cons_succ, List.set_cons_zero]
            refine wpFreeD_skip (by kernel_rfl) ?_
            simp only [Act.put, List.setIfInBounds_toArray, List.set_cons_succ, List.set_cons_zero]
            refine wpFreeD_skip (by kernel_rfl) ?_
            simp only [Act.put, List.setIfInBounds_toArray, List.set_cons_succ, List.set_cons_zero]
            refine wpFreeD_skip (by kernel_rfl) ?_
            simp only [Act.put, List.setIfInBounds_toArray, List.set_cons_succ, List.set_cons_zero]
            refine wpFreeD_skip (by kernel_rfl) ?_
            simp only [Act.put, List.setIfInBounds_toArray, List.set_cons_succ, List.set_cons_zero]
            refine wpFreeD_skip (by kernel_rfl) ?_
            simp only [Act.put, List.setIfInBounds_toArray, List.set_cons_succ, List.set_cons_zero]
            refine wpFreeD_skip (by kernel_rfl) ?_
            simp only [Act.put, List.setIfInBounds_toArray, List.set_cons_succ, List.set_cons_zero]
            refine wpFreeD_one rfl (.bool false) (fun w1 _ => by kernel_rfl) ?_
            simp only [Act.put, List.setIfInBounds_toArray, List.set_cons_succ, List.set_cons_zero]
            refine wpFreeD_one rfl (.bool false) (fun w1 _ => by kernel_rfl) ?_
            simp only [Act.put, List.setIfInBounds_toArray, List.set_cons_succ, List.set_cons_zero]
            refine wpFreeD_nil (fun wR hwR _ => ?_)
            have HL := hid (le_trans (le_drewN _ _) hwR)
            clear hwR
            go_wp2
            go_ret
            exact ⟨ret_b E.out.symm, HL.out⟩
          · have hc4 := hid h4; clear h4
            have E := hid (show ((fk == 1) && okF fk a b c p q && (gk == 5) && okF gk a2 b2 c2 p2 q2 && rngB x nx j && rngB y ny k && finB (two m o) 2) = finB (two m o) 2 by have h0' := hc0.out; simp only [Bool.and_eq_true] at h0'; simp [h0'.1, h0'.2, hc1.out, hc2.out, hc3.out, hc4.out])
            go_enter Tryd.func31, Tryd.ntmps31
            go_wp2_with fail
            refine region_freeD (E := leX) (fun f args _ v => if f = 49 then v = .bool true else if f = 50 then (args = #[.pointer (some ⟨g0, 4, none⟩)] → v = .bool true) ∧ (args = #[.pointer (some ⟨g0, 10, none⟩)] → v = .bool true) else v = .bool (finB (two m o) 2)) (by kernel_rfl) (by kernel_rfl) ?_
            refine wpFreeD_one rfl (.pointer (some ⟨g0, 0, none⟩)) (fun w1 _ => by kernel_rfl) ?_
            simp only [Act.put, List.setIfInBounds_toArray, List.set_cons_succ, List.set_cons_zero]
            refine wpFreeD_one rfl (.pointer (some ⟨g0, 0, none⟩)) (fun w1 _ => by kernel_rfl) ?_
            simp only [Act.put, List.setIfInBounds_toArray, List.set_cons_succ, List.set_cons_zero]
            refine wpFreeD_one rfl (.pointer (some ⟨g0, 0, none⟩)) (fun w1 _ => by kernel_rfl) ?_
            simp only [Act.put, List.setIfInBounds_toArray, List.set_cons_succ, List.set_cons_zero]
            refine wpFreeD_loadW rfl rfl rfl [s, .int .i64 j] (fun w1 h1 => Row.at_part (hRw.out w1 (le_trans (le_drewN _ _) h1)) (partJet_Throat (s) (.int .i64 j) (t) (.int .i64 k) (.int .i64 fk) (.float .f32 a) (.float .f32 b) (.float .f32 c) (.float .f32 p) (.float .f32 q) (.int .i64 gk) (.float .f32 a2) (.float .f32 b2) (.float .f32 c2) (.float .f32 p2) (.float .f32 q2) (.float .f32 m) (.float .f32 o))) Tryd.underlying34 rfl uinfoRingI rfl ?_
            simp only [Act.put, List.setIfInBounds_toArray, List.set_cons_succ, List.set_cons_zero]
            refine wpFreeD_one rfl (.pointer (some ⟨g0, 0, none⟩)) (fun w1 _ => by kernel_rfl) ?_
            simp only [Act.put, List.setIfInBounds_toArray, List.set_cons_succ, List.set_cons_zero]
            refine wpFreeD_one rfl (.pointer (some ⟨g0, 0, none⟩)) (fun w1 _ => by kernel_rfl) ?_
            simp only [Act.put, List.setIfInBounds_toArray, List.set_cons_succ, List.set_cons_zero]
            refine wpFreeD_one rfl (.pointer (some ⟨g0, 2, none⟩)) (fun w1 _ => by kernel_rfl) ?_
            simp only [Act.put, List.setIfInBounds_toArray, List.set_cons_succ, List.set_cons_zero]
            refine wpFreeD_loadW rfl rfl rfl [t, .int .i64 k] (fun w1 h1 => Row.at_part (hRw.out w1 (le_trans (le_drewN _ _) h1)) (partJet_Bore (s) (.int .i64 j) (t) (.int .i64 k) (.int .i64 fk) (.float .f32 a) (.float .f32 b) (.float .f32 c) (.float .f32 p) (.float .f32 q) (.int .i64 gk) (.float .f32 a2) (.float .f32 b2) (.float .f32 c2) (.float .f32 p2) (.float .f32 q2) (.float .f32 m) (.float .f32 o))) Tryd.underlying34 rfl uinfoRingI rfl ?_
            simp only [Act.put, List.setIfInBounds_toArray, List.set_cons_succ, List.set_cons_zero]
            refine wpFreeD_madeW (by kernel_rfl) (fun b => .slice (some ⟨b, 0, none⟩) 2 2) 34 #[s, .int .i64 j, t, .int .i64 k] (fun w1 => by kernel_rfl) (fun bR => ?_)
            simp only [Act.put, List.setIfInBounds_toArray, List.set_cons_succ, List.set_cons_zero]
            refine wpFreeD_callW (by kernel_rfl) rfl Tryd.func49 (by kernel_rfl) (by kernel_rfl) (args := #[.slice (some ⟨bR, 0, none⟩) 2 2]) (by simp [Act.eval]) (fun v w1 w2 hw hv => hv) (fun w1 hw1 hbe => ?_) ?_
            · obtain ⟨b', e1, hrow⟩ := (hbe ⟨8, Ground.data⟩ (by simp) (by kernel_rfl)).2 rfl
              obtain rfl : bR = b' := by simpa using e1
              refine (s_l04Rings _ _ _ _ w1 (HRD.out bR w1 (le_trans (le_drewN _ _) hw1) hrow) (rg2_ok _ _ _ _ _ _)).mono ?_
              rintro e w2 ⟨rfl, q, rfl⟩
              exact ⟨_, rfl, le_drewN _ _, by simp only [if_true]; rw [rg2_all, hc0.out]⟩
            rintro v ⟨_, _, _, hv⟩
            simp only [if_true] at hv
            subst hv
            simp only [Act.put, List.setIfInBounds_toArray, List.set_cons_succ, List.set_cons_zero]
            refine wpFreeD_one rfl (.bool true) (fun w1 _ => by kernel_rfl) ?_
            simp only [Act.put, List.setIfInBounds_toArray, List.set_cons_succ, List.set_cons_zero]
            refine wpFreeD_oneW (by kernel_rfl) (.pointer (some ⟨g0, 0, none⟩)) (fun w1 _ => by kernel_rfl) ?_
            simp only [Act.put, List.setIfInBounds_toArray, List.set_cons_succ, List.set_cons_zero]
            refine wpFreeD_oneW (by kernel_rfl) (.pointer (some ⟨g0, 0, none⟩)) (fun w1 _ => by kernel_rfl) ?_
            simp only [Act.put, List.setIfInBounds_toArray, List.set_cons_succ, List.set_cons_zero]
            refine wpFreeD_oneW (by kernel_rfl) (.pointer (some ⟨g0, 4, none⟩)) (fun w1 _ => by kernel_rfl) ?_
            simp only [Act.put, List.setIfInBounds_toArray, List.set_cons_succ, List.set_cons_zero]
            refine wpFreeD_callW (by kernel_rfl) rfl Tryd.func50 (by kernel_rfl) (by kernel_rfl) (args := #[.pointer (some ⟨g0, 4, none⟩)]) (by simp [Act.eval]) (fun v w1 w2 hw hv => hv) (fun w1 hw1 _ => (HO0.out w1 (le_trans (le_drewN _ _) hw1)).mono ?_) ?_
            · rintro e w2 ⟨rfl, q, rfl⟩
              exact ⟨_, rfl, le_drewN _ _, by simp only [show ¬ (50 = 49) by decide, if_false, if_true]; simp [hc1.out]⟩
            rintro v ⟨_, _, _, hv⟩
            simp only [show ¬ (50 = 49) by decide, if_false, if_true] at hv
            obtain rfl := hv.1 (by first | rfl | trivial)
            simp only [Act.put, List.setIfInBounds_toArray, List.set_cons_succ, List.set_cons_zero]
            refine wpFreeD_one rfl (.bool true) (fun w1 _ => by kernel_rfl) ?_
            simp only [Act.put, List.setIfInBounds_toArray, List.set_cons_succ, List.set_cons_zero]
            refine wpFreeD_one rfl (.bool true) (fun w1 _ => by kernel_rfl) ?_
            simp only [Act.put, List.setIfInBounds_toArray, List.set_cons_succ, List.set_cons_zero]
            refine wpFreeD_oneW (by kernel_rfl) (.pointer (some ⟨g0, 0, none⟩)) (fun w1 _ => by kernel_rfl) ?_
            simp only [Act.put, List.setIfInBounds_toArray, List.set_cons_succ, List.set_cons_zero]
            refine wpFreeD_oneW (by kernel_rfl) (.pointer (some ⟨g0, 0, none⟩)) (fun w1 _ => by kernel_rfl) ?_
            simp only [Act.put, List.setIfInBounds_toArray, List.set_cons_succ, List.set_cons_zero]
            refine wpFreeD_oneW (by kernel_rfl) (.pointer (some ⟨g0, 4, none⟩)) (fun w1 _ => by kernel_rfl) ?_
            simp only [Act.put, List.setIfInBounds_toArray, List.set_cons_succ, List.set_cons_zero]
            refine wpFreeD_oneW (by kernel_rfl) (.pointer (some ⟨g0, 4, none⟩)) (fun w1 _ => by kernel_rfl) ?_
            simp only [Act.put, List.setIfInBounds_toArray, List.set_cons_succ, List.set_cons_zero]
            refine wpFreeD_load1W (by kernel_rfl) rfl rfl (p := ⟨g0, 4, none⟩) (fun w1 h1 => (hRw.out w1 (le_trans (le_drewN _ _) h1)).cell? 4) ukindInt64 ?_
            simp only [Act.put, List.setIfInBounds_toArray, List.set_cons_succ, List.set_cons_zero]
            refine wpFreeD_oneW (by kernel_rfl) (.bool (fk == 1)) (fun w1 _ => by kernel_rfl) ?_
            simp only [Act.put, List.setIfInBounds_toArray, List.set_cons_succ, List.set_cons_zero]
            rw [hc2.out]
            refine wpFreeD_one rfl (.bool true) (fun w1 _ => by kernel_rfl) ?_
            simp only [Act.put, List.setIfInBounds_toArray, List.set_cons_succ, List.set_cons_zero]
            refine wpFreeD_one rfl (.bool true) (fun w1 _ => by kernel_rfl) ?_
            simp only [Act.put, List.setIfInBounds_toArray, List.set_cons_succ, List.set_cons_zero]
            refine wpFreeD_oneW (by kernel_rfl) (.pointer (some ⟨g0, 0, none⟩)) (fun w1 _ => by kernel_rfl) ?_
            simp only [Act.put, List.setIfInBounds_toArray, List.set_cons_succ, List.set_cons_zero]
            refine wpFreeD_oneW (by kernel_rfl) (.pointer (some ⟨g0, 0, none⟩)) (fun w1 _ => by kernel_rfl) ?_
            simp only [Act.put, List.setIfInBounds_toArray, List.set_cons_succ, List.set_cons_zero]
            refine wpFreeD_oneW (by kernel_rfl) (.pointer (some ⟨g0, 10, none⟩)) (fun w1 _ => by kernel_rfl) ?_
            simp only [Act.put, List.setIfInBounds_toArray, List.set_cons_succ, List.set_cons_zero]
            refine wpFreeD_callW (by kernel_rfl) rfl Tryd.func50 (by kernel_rfl) (by kernel_rfl) (args := #[.pointer (some ⟨g0, 10, none⟩)]) (by simp [Act.eval]) (fun v w1 w2 hw hv => hv) (fun w1 hw1 _ => (HO1.out w1 (le_trans (le_drewN _ _) hw1)).mono ?_) ?_
            · rintro e w2 ⟨rfl, q, rfl⟩
              exact ⟨_, rfl, le_drewN _ _, by simp only [show ¬ (50 = 49) by decide, if_false, if_true]; simp [hc3.out]⟩
            rintro v ⟨_, _, _, hv⟩
            simp only [show ¬ (50 = 49) by decide, if_false, if_true] at hv
            obtain rfl := hv.2 (by first | rfl | trivial)
            simp only [Act.put, List.setIfInBounds_toArray, List.set_cons_succ, List.set_cons_zero]
            refine wpFreeD_one rfl (.bool true) (fun w1 _ => by kernel_rfl) ?_
            simp only [Act.put, List.setIfInBounds_toArray, List.set_cons_succ, List.set_cons_zero]
            refine wpFreeD_one rfl (.bool true) (fun w1 _ => by kernel_rfl) ?_
            simp only [Act.put, List.setIfInBounds_toArray, List.set_cons_succ, List.set_cons_zero]
            refine wpFreeD_oneW (by kernel_rfl) (.pointer (some ⟨g0, 0, none⟩)) (fun w1 _ => by kernel_rfl) ?_
            simp only [Act.put, List.setIfInBounds_toArray, List.set_cons_succ, List.set_cons_zero]
            refine wpFreeD_oneW (by kernel_rfl) (.pointer (some ⟨g0, 0, none⟩)) (fun w1 _ => by kernel_rfl) ?_
            simp only [Act.put, List.setIfInBounds_toArray, List.set_cons_succ, List.set_cons_zero]
            refine wpFreeD_oneW (by kernel_rfl) (.pointer (some ⟨g0, 10, none⟩)) (fun w1 _ => by kernel_rfl) ?_
            simp only [Act.put, List.setIfInBounds_toArray, List.set_cons_succ, List.set_cons_zero]
            refine wpFreeD_oneW (by kernel_rfl) (.pointer (some ⟨g0, 10, none⟩)) (fun w1 _ => by kernel_rfl) ?_
            simp only [Act.put, List.setIfInBounds_toArray, List.set_cons_succ, List.set_cons_zero]
            refine wpFreeD_load1W (by kernel_rfl) rfl rfl (p := ⟨g0, 10, none⟩) (fun w1 h1 => (hRw.out w1 (le_trans (le_drewN _ _) h1)).cell? 10) ukindInt64 ?_
            simp only [Act.put, List.setIfInBounds_toArray, List.set_cons_succ, List.set_cons_zero]
            refine wpFreeD_oneW (by kernel_rfl) (.bool (gk == 5)) (fun w1 _ => by kernel_rfl) ?_
            simp only [Act.put, List.setIfInBounds_toArray, List.set_cons_succ, List.set_cons_zero]
            rw [hc4.out]
            refine wpFreeD_one rfl (.bool true) (fun w1 _ => by kernel_rfl) ?_
            simp only [Act.put, List.setIfInBounds_toArray, List.set_cons_succ, List.set_cons_zero]
            refine wpFreeD_one rfl (.bool true) (fun w1 _ => by kernel_rfl) ?_
            simp only [Act.put, List.setIfInBounds_toArray, List.set_cons_succ, List.set_cons_zero]
            refine wpFreeD_oneW (by kernel_rfl) (.pointer (some ⟨g0, 0, none⟩)) (fun w1 _ => by kernel_rfl) ?_
            simp only [Act.put, List.setIfInBounds_toArray, List.set_cons_succ, List.set_cons_zero]
            refine wpFreeD_oneW (by kernel_rfl) (.pointer (some ⟨g0, 0, none⟩)) (fun w1 _ => by kernel_rfl) ?_
            simp only [Act.put, List.setIfInBounds_toArray, List.set_cons_succ, List.set_cons_zero]
            refine wpFreeD_oneW (by kernel_rfl) (.pointer (some ⟨g0, 16, none⟩)) (fun w1 _ => by kernel_rfl) ?_
            simp only [Act.put, List.setIfInBounds_toArray, List.set_cons_succ, List.set_cons_zero]
            refine wpFreeD_load1W (by kernel_rfl) rfl rfl (p := ⟨g0, 16, none⟩) (fun w1 h1 => (hRw.out w1 (le_trans (le_drewN _ _) h1)).cell? 16) ukindFloat32 ?_
            simp only [Act.put, List.setIfInBounds_toArray, List.set_cons_succ, List.set_cons_zero]
            refine wpFreeD_oneW (by kernel_rfl) (.pointer (some ⟨g0, 0, none⟩)) (fun w1 _ => by kernel_rfl) ?_
            simp only [Act.put, List.setIfInBounds_toArray, List.set_cons_succ, List.set_cons_zero]
            refine wpFreeD_oneW (by kernel_rfl) (.pointer (some ⟨g0, 0, none⟩)) (fun w1 _ => by kernel_rfl) ?_
            simp only [Act.put, List.setIfInBounds_toArray, List.set_cons_succ, List.set_cons_zero]
            refine wpFreeD_oneW (by kernel_rfl) (.pointer (some ⟨g0, 17, none⟩)) (fun w1 _ => by kernel_rfl) ?_
            simp only [Act.put, List.setIfInBounds_toArray, List.set_cons_succ, List.set_cons_zero]
            refine wpFreeD_load1W (by kernel_rfl) rfl rfl (p := ⟨g0, 17, none⟩) (fun w1 h1 => (hRw.out w1 (le_trans (le_drewN _ _) h1)).cell? 17) ukindFloat32 ?_
            simp only [Act.put, List.setIfInBounds_toArray, List.set_cons_succ, List.set_cons_zero]
            refine wpFreeD_madeW (by kernel_rfl) (fun b => .slice (some ⟨b, 0, none⟩) 2 2) 25 #[.float .f32 m, .float .f32 o] (fun w1 => by kernel_rfl) (fun bN => ?_)
            simp only [Act.put, List.setIfInBounds_toArray, List.set_cons_succ, List.set_cons_zero]
            refine wpFreeD_callW (by kernel_rfl) rfl Tryd.func51 (by kernel_rfl) (by kernel_rfl) (args := #[.slice (some ⟨bN, 0, none⟩) 2 2]) (by simp [Act.eval]) (fun v w1 w2 hw hv => hv) (fun w1 hw1 hbe => ?_) ?_
            · obtain ⟨b', e1, hrow⟩ := (hbe ⟨47, Ground.data⟩ (by simp) (by kernel_rfl)).2 rfl
              obtain rfl : bN = b' := by simpa using e1
              refine (HN.out bN w1 hrow).mono ?_
              rintro e w2 ⟨rfl, q, rfl⟩
              exact ⟨_, rfl, le_drewN _ _, by simp only [show ¬ (51 = 49) by decide, show ¬ (51 = 50) by decide, if_false]⟩
            rintro v ⟨_, _, _, hv⟩
            simp only [show ¬ (51 = 49) by decide, show ¬ (51 = 50) by decide, if_false] at hv
            subst hv
            simp only [Act.put, List.setIfInBounds_toArray, List.set_cons_succ, List.set_cons_zero]
            refine wpFreeD_one rfl (.bool (finB (two m o) 2)) (fun w1 _ => by kernel_rfl) ?_
            simp only [Act.put, List.setIfInBounds_toArray, List.set_cons_succ, List.set_cons_zero]
            refine wpFreeD_one rfl (.bool (finB (two m o) 2)) (fun w1 _ => by kernel_rfl) ?_
            simp only [Act.put, List.setIfInBounds_toArray, List.set_cons_succ, List.set_cons_zero]
            refine wpFreeD_nil (fun wR hwR _ => ?_)
            have HL := hid (le_trans (le_drewN _ _) hwR)
            clear hwR
            go_wp2
            go_ret
            exact ⟨ret_b E.out.symm, HL.out⟩
theorem jet_data {cs : List CD} (h : HasShL shJet cs) : ∃ (xs ys : Nat → CD) (nx ny : Nat) (j k : Int) (fk : Int) (a b c p q : Nat) (gk : Int) (a2 b2 c2 p2 q2 : Nat) (m o : Nat), cs = [.sl 1 nx xs, .int .i64 j, .sl 1 ny ys, .int .i64 k, .int .i64 fk, .flt .f32 a, .flt .f32 b, .flt .f32 c, .flt .f32 p, .flt .f32 q, .int .i64 gk, .flt .f32 a2, .flt .f32 b2, .flt .f32 c2, .flt .f32 p2, .flt .f32 q2, .flt .f32 m, .flt .f32 o] ∧ (∀ i, i < nx → (xs i).flk = some .f32) ∧ (∀ i, i < ny → (ys i).flk = some .f32) := by
  obtain ⟨c0, cs, rfl, q0, h⟩ := h.inv
  obtain ⟨c1, cs, rfl, q1, h⟩ := h.inv
  obtain ⟨c2, cs, rfl, q2, h⟩ := h.inv
  obtain ⟨c3, cs, rfl, q3, h⟩ := h.inv
  obtain ⟨c4, cs, rfl, q4, h⟩ := h.inv
  obtain ⟨c5, cs, rfl, q5, h⟩ := h.inv
  obtain ⟨c6, cs, rfl, q6, h⟩ := h.inv
  obtain ⟨c7, cs, rfl, q7, h⟩ := h.inv
  obtain ⟨c8, cs, rfl, q8, h⟩ := h.inv
  obtain ⟨c9, cs, rfl, q9, h⟩ := h.inv
  obtain ⟨c10, cs, rfl, q10, h⟩ := h.inv
  obtain ⟨c11, cs, rfl, q11, h⟩ := h.inv
  obtain ⟨c12, cs, rfl, q12, h⟩ := h.inv
  obtain ⟨c13, cs, rfl, q13, h⟩ := h.inv
  obtain ⟨c14, cs, rfl, q14, h⟩ := h.inv
  obtain ⟨c15, cs, rfl, q15, h⟩ := h.inv
  obtain ⟨c16, cs, rfl, q16, h⟩ := h.inv
  obtain ⟨c17, cs, rfl, q17, h⟩ := h.inv
  obtain rfl := h.inv0
  obtain ⟨nx, xs, rfl, r0⟩ := q0
  obtain ⟨ny, ys, rfl, r2⟩ := q2
  obtain ⟨j, rfl⟩ := q1
  obtain ⟨k, rfl⟩ := q3
  obtain ⟨fk, rfl⟩ := q4
  obtain ⟨a, rfl⟩ := q5
  obtain ⟨b, rfl⟩ := q6
  obtain ⟨c, rfl⟩ := q7
  obtain ⟨p, rfl⟩ := q8
  obtain ⟨q, rfl⟩ := q9
  obtain ⟨gk, rfl⟩ := q10
  obtain ⟨a2, rfl⟩ := q11
  obtain ⟨b2, rfl⟩ := q12
  obtain ⟨c2, rfl⟩ := q13
  obtain ⟨p2, rfl⟩ := q14
  obtain ⟨q2, rfl⟩ := q15
  obtain ⟨m, rfl⟩ := q16
  obtain ⟨o, rfl⟩ := q17
  exact ⟨xs, ys, nx, ny, j, k, fk, a, b, c, p, q, gk, a2, b2, c2, p2, q2, m, o, rfl, fun i hi => ShOk.flts (fun i hi j hj => (r0 i hi j hj).ok) rfl i hi, fun i hi => ShOk.flts (fun i hi j hj => (r2 i hi j hj).ok) rfl i hi⟩
theorem jet_open {xs ys : Nat → CD} {nx ny : Nat} {j k : Int} {fk : Int} {a b c p q : Nat} {gk : Int} {a2 b2 c2 p2 q2 : Nat} {m o : Nat} {w : World} {B : Nat} {u : List Value} (h : RdLN w B (([.sl 1 nx xs, .int .i64 j, .sl 1 ny ys, .int .i64 k, .int .i64 fk, .flt .f32 a, .flt .f32 b, .flt .f32 c, .flt .f32 p, .flt .f32 q, .int .i64 gk, .flt .f32 a2, .flt .f32 b2, .flt .f32 c2, .flt .f32 p2, .flt .f32 q2, .flt .f32 m, .flt .f32 o] : List CD).map CD.cp) u) (hx : ∀ i, i < nx → (xs i).flk = some .f32) (hy : ∀ i, i < ny → (ys i).flk = some .f32) : ∃ s t : Value, u = [s, .int .i64 j, t, .int .i64 k, .int .i64 fk, .float .f32 a, .float .f32 b, .float .f32 c, .float .f32 p, .float .f32 q, .int .i64 gk, .float .f32 a2, .float .f32 b2, .float .f32 c2, .float .f32 p2, .float .f32 q2, .float .f32 m, .float .f32 o] ∧ (slT (fun i => (xs i).fx) nx).RdN w B s ∧ (slT (fun i => (ys i).fx) ny).RdN w B t ∧ ((Lit.int .i64 j).wf = true ∧ (Lit.int .i64 k).wf = true) ∧ (fits .f32 a ∧ fits .f32 b ∧ fits .f32 c ∧ fits .f32 p ∧ fits .f32 q ∧ fits .f32 a2 ∧ fits .f32 b2 ∧ fits .f32 c2 ∧ fits .f32 p2 ∧ fits .f32 q2 ∧ fits .f32 m ∧ fits .f32 o) := by
  simp only [List.map_cons, List.map_nil] at h
  obtain ⟨v0, u0, rfl, q0, hh0⟩ := h.inv
  obtain ⟨v1, u1, rfl, q1, hh1⟩ := hh0.inv
  obtain ⟨v2, u2, rfl, q2, hh2⟩ := hh1.inv
  obtain ⟨v3, u3, rfl, q3, hh3⟩ := hh2.inv
  obtain ⟨v4, u4, rfl, q4, hh4⟩ := hh3.inv
  obtain ⟨v5, u5, rfl, q5, hh5⟩ := hh4.inv
  obtain ⟨v6, u6, rfl, q6, hh6⟩ := hh5.inv
  obtain ⟨v7, u7, rfl, q7, hh7⟩ := hh6.inv
  obtain ⟨v8, u8, rfl, q8, hh8⟩ := hh7.inv
  obtain ⟨v9, u9, rfl, q9, hh9⟩ := hh8.inv
  obtain ⟨v10, u10, rfl, q10, hh10⟩ := hh9.inv
  obtain ⟨v11, u11, rfl, q11, hh11⟩ := hh10.inv
  obtain ⟨v12, u12, rfl, q12, hh12⟩ := hh11.inv
  obtain ⟨v13, u13, rfl, q13, hh13⟩ := hh12.inv
  obtain ⟨v14, u14, rfl, q14, hh14⟩ := hh13.inv
  obtain ⟨v15, u15, rfl, q15, hh15⟩ := hh14.inv
  obtain ⟨v16, u16, rfl, q16, hh16⟩ := hh15.inv
  obtain ⟨v17, u17, rfl, q17, hh17⟩ := hh16.inv
  obtain rfl := hh17.inv0
  obtain ⟨rfl, f1⟩ := q1
  obtain ⟨rfl, f3⟩ := q3
  obtain ⟨rfl, f4⟩ := q4
  obtain ⟨rfl, f5⟩ := q5
  obtain ⟨rfl, f6⟩ := q6
  obtain ⟨rfl, f7⟩ := q7
  obtain ⟨rfl, f8⟩ := q8
  obtain ⟨rfl, f9⟩ := q9
  obtain ⟨rfl, f10⟩ := q10
  obtain ⟨rfl, f11⟩ := q11
  obtain ⟨rfl, f12⟩ := q12
  obtain ⟨rfl, f13⟩ := q13
  obtain ⟨rfl, f14⟩ := q14
  obtain ⟨rfl, f15⟩ := q15
  obtain ⟨rfl, f16⟩ := q16
  obtain ⟨rfl, f17⟩ := q17
  exact ⟨v0, v2, rfl, q0.congr (slT_cp hx), q2.congr (slT_cp hy), ⟨f1, f3⟩, f5, f6, f7, f8, f9, f11, f12, f13, f14, f15, f16, f17⟩
end Go.Proofs.YtjihkfemejhllaaDoor

/- 'JetText' of both. -/
namespace Go.Fk
open Go Go.RowKit Go.Proofs.YtjihkfemejhllaaDoor
def partsJet (x y : Nat → Nat) (nx ny j k : Nat) (fk : Int) (a b c p q : Nat) (gk : Int) (a2 b2 c2 p2 q2 : Nat) (m o : Nat) : List ByteArray := [wordVJet ++ spB ++ txtS (duo m o) 2 ++ nlB, filT fk a b c p q ++ nlB, filT gk a2 b2 c2 p2 q2 ++ nlB, rgT x nx j ++ nlB, rgT y ny k ++ nlB]
theorem partsJet_size {x y : Nat → Nat} {nx ny j k : Nat} {fk : Int} {a b c p q : Nat} {gk : Int} {a2 b2 c2 p2 q2 : Nat} {m o : Nat} (h1 : nx ≤ 1024) (h2 : ny ≤ 1024) (h3 : j ≤ 1024) (h4 : k ≤ 1024) : ∀ z ∈ (partsJet x y nx ny j k fk a b c p q gk a2 b2 c2 p2 q2 m o), z.size ≤ 40000 := by
  intro z hz
  have e1 := rgT_size (x := x) h1 h3; have e2 := rgT_size (x := y) h2 h4; have e3 := txtS_size (duo m o) 2
  have g0 := filT_sz fk a b c p q
  have g1 := filT_sz gk a2 b2 c2 p2 q2
  have w2 : spB.size = 1 := rfl
  have w3 : nlB.size = 1 := rfl
  have w4 : wordVJet.size = 3 := rfl
  simp only [partsJet, List.mem_cons, List.not_mem_nil, or_false] at hz
  rcases hz with rfl | rfl | rfl | rfl | rfl <;> (simp only [ByteArray.size_append]; omega)
theorem partsJet_eq (x y : Nat → Nat) (nx ny j k : Nat) (fk : Int) (a b c p q : Nat) (gk : Int) (a2 b2 c2 p2 q2 : Nat) (m o : Nat) : wordVJet ++ samL (duo m o) 2 ++ nlB ++ filT fk a b c p q ++ nlB ++ filT gk a2 b2 c2 p2 q2 ++ nlB ++ (rgT x nx j ++ nlB) ++ (rgT y ny k ++ nlB) = accs (partsJet x y nx ny j k fk a b c p q gk a2 b2 c2 p2 q2 m o) 5 := by
  rw [samL_txt _ (by decide)]
  simp only [accs, partsJet, List.take_succ_cons, List.take_zero, List.foldl_cons, List.foldl_nil, ba_nil, ba_assoc]
theorem okJet_nums {x y : Nat → Nat} {nx ny : Nat} {j k : Int} {fk : Int} {a b c p q : Nat} {gk : Int} {a2 b2 c2 p2 q2 : Nat} {m o : Nat} (h : okJet x y nx ny j k fk a b c p q gk a2 b2 c2 p2 q2 m o = true) : (1 ≤ nx ∧ nx ≤ 1024 ∧ ∃ j1 : Nat, j = j1 ∧ j1 ≤ 1024) ∧ (1 ≤ ny ∧ ny ≤ 1024 ∧ ∃ k1 : Nat, k = k1 ∧ k1 ≤ 1024) := by
  unfold okJet rngB okRing at h
  simp only [Bool.and_eq_true, decide_eq_true_eq] at h
  have h1 := h.1.1.1.2.1; have h2 := h.1.1.2.1
  exact ⟨⟨by omega, by omega, j.toNat, by omega, by omega⟩, ⟨by omega, by omega, k.toNat, by omega, by omega⟩⟩
end Go.Fk
namespace Go.Proofs.YtjihkfemejhllaaDoor
open Go.RowKit Go.Fk
theorem infoF4Jet : (Tryd.prog.info? 25).map (fun i => (i.zero, i.size, i.bytes)) = some (some (.float .f32 0), 1, 4) := by kernel_rfl
theorem fillF2Jet (ti : TypeInfo) (p q : Nat) (h : ti.size = 1) : Instr.fill (fun i => some (i * ti.size, ti.size)) ((Array.range (2 * ti.size)).map ((.float .f32 0 : Value).cells[· % (.float .f32 0 : Value).cells.size]!)) (#[(0, .float .f32 p), (1, .float .f32 q)] : Array (Nat × Value)).toList = some #[.float .f32 p, .float .f32 q] := by
  rw [h]
  have hr : Array.range (2 * 1) = #[0, 1] := by decide
  rw [hr]
  simp [Instr.fill, Value.cells]
theorem mkF2Jet (p q : Nat) (w : World) : (Instr.buildSlice 22 2 #[(0, .float .f32 p), (1, .float .f32 q)]).run Tryd.prog w = .ok (.slice (some ⟨w.heap.size, 0, none⟩) 2 2) (w.alloc (.cells #[.float .f32 p, .float .f32 q] 25)) := by
  have h := infoF4Jet
  cases hi : Tryd.prog.info? 25 with
  | none => rw [hi] at h; simp at h
  | some i =>
    rw [hi] at h; simp at h
    exact run_buildSlice (P := Tryd.prog) w 22 25 2 _ _ i _ Tryd.underlying22 hi h.1 (by rw [h.2.1]; decide) (by rw [h.2.1]; decide) (fillF2Jet _ _ _ h.2.1)
set_option maxRecDepth 100000 in
set_option maxHeartbeats 4000000 in
theorem s_l05Jetted (x y : Nat → Nat) (nx ny : Nat) (j k : Nat) (fk : Int) (a b c p q : Nat) (gk : Int) (a2 b2 c2 p2 q2 : Nat) (m o : Nat) (B : Nat) (s t : Value) (w : World) (g : Nat) (hR : Row w g 46 #[s, .int .i64 (j : Nat), t, .int .i64 (k : Nat), .int .i64 fk, .float .f32 a, .float .f32 b, .float .f32 c, .float .f32 p, .float .f32 q, .int .i64 gk, .float .f32 a2, .float .f32 b2, .float .f32 c2, .float .f32 p2, .float .f32 q2, .float .f32 m, .float .f32 o]) (hs : (slT x nx).RdN w B s) (ht : (slT y ny).RdN w B t) (hf : fits .f32 a ∧ fits .f32 b ∧ fits .f32 c ∧ fits .f32 p ∧ fits .f32 q ∧ fits .f32 a2 ∧ fits .f32 b2 ∧ fits .f32 c2 ∧ fits .f32 p2 ∧ fits .f32 q2 ∧ fits .f32 m ∧ fits .f32 o) (n1 : 1 ≤ nx) (n2 : nx ≤ 1024) (hj : j ≤ 1024) (n3 : 1 ≤ ny) (n4 : ny ≤ 1024) (hk : k ≤ 1024) : Calls Tryd.prog 32 #[.pointer (some ⟨g, 0, none⟩)] w (Out_t (accs (partsJet x y nx ny j k fk a b c p q gk a2 b2 c2 p2 q2 m o) 5) w) := by
  obtain ⟨fa, fb, fc, fp, fq, fa2, fb2, fc2, fp2, fq2, fm, fo⟩ := hf
  have HF0 := hid (fun (w' : World) => s_FilterText fk a b c p q w' ⟨fa, fb, fc, fp, fq⟩)
  have HF1 := hid (fun (w' : World) => s_FilterText gk a2 b2 c2 p2 q2 w' ⟨fa2, fb2, fc2, fp2, fq2⟩)
  have HX := hid (fun (w' : World) (hl : le w w') => s_l04Line x nx j B s g 0 w' (hs.le hl) n1 n2 hj (by rw [(hR.le hl).cell?]; rfl) (by rw [(hR.le hl).cell?]; rfl))
  have HY := hid (fun (w' : World) (hl : le w w') => s_l04Line y ny k B t g 2 w' (ht.le hl) n3 n4 hk (by rw [(hR.le hl).cell?]; rfl) (by rw [(hR.le hl).cell?]; rfl))
  have e1 := rgT_size (x := x) n2 hj
  have e2 := rgT_size (x := y) n4 hk
  have e3 := samL_size (duo m o) 2
  have e40 := filT_sz fk a b c p q
  have e41 := filT_sz gk a2 b2 c2 p2 q2
  have w2_ : spB.size = 1 := rfl
  have w3_ : nlB.size = 1 := rfl
  have w4_ : wordVJet.size = 3 := rfl
  have EA := hid (partsJet_eq x y nx ny j k fk a b c p q gk a2 b2 c2 p2 q2 m o)
  have HR := hid hR
  clear hs ht hR fa fb fc fp fq fa2 fb2 fc2 fp2 fq2
  go_enter Tryd.func32, Tryd.ntmps32
  go_wp2_with fail
  have G := hid (le_drewN w 1)
  refine region_freeD (E := leX) (fun f args _ v => v = .string (if f = 52 then samL (duo m o) 2 else if f = 53 then filB args else if offA args = 0 then rgT x nx j ++ nlB else rgT y ny k ++ nlB)) (by kernel_rfl) (by kernel_rfl) ?_
  refine wpFreeD_one rfl (.pointer (some ⟨g, 0, none⟩)) (fun w1 _ => by kernel_rfl) ?_
  simp only [Act.put, List.setIfInBounds_toArray, List.set_cons_succ, List.set_cons_zero]
  refine wpFreeD_one rfl (.pointer (some ⟨g, 0, none⟩)) (fun w1 _ => by kernel_rfl) ?_
  simp only [Act.put, List.setIfInBounds_toArray, List.set_cons_succ, List.set_cons_zero]
  refine wpFreeD_one rfl (.pointer (some ⟨g, 16, none⟩)) (fun w1 _ => by kernel_rfl) ?_
  simp only [Act.put, List.setIfInBounds_toArray, List.set_cons_succ, List.set_cons_zero]
  refine wpFreeD_load1 rfl rfl rfl (p := ⟨g, 16, none⟩) (v := .float .f32 m) (fun w1 h1 => by rw [(HR.out.le (le_trans G.out h1)).cell?]; rfl) ukindFloat32 ?_
  simp only [Act.put, List.setIfInBounds_toArray, List.set_cons_succ, List.set_cons_zero]
  refine wpFreeD_one rfl (.pointer (some ⟨g, 0, none⟩)) (fun w1 _ => by kernel_rfl) ?_
  simp only [Act.put, List.setIfInBounds_toArray, List.set_cons_succ, List.set_cons_zero]
  refine wpFreeD_one rfl (.pointer (some ⟨g, 0, none⟩)) (fun w1 _ => by kernel_rfl) ?_
  simp only [Act.put, List.setIfInBounds_toArray, List.set_cons_succ, List.set_cons_zero]
  refine wpFreeD_one rfl (.pointer (some ⟨g, 17, none⟩)) (fun w1 _ => by kernel_rfl) ?_
  simp only [Act.put, List.setIfInBounds_toArray, List.set_cons_succ, List.set_cons_zero]
  refine wpFreeD_load1 rfl rfl rfl (p := ⟨g, 17, none⟩) (v := .float .f32 o) (fun w1 h1 => by rw [(HR.out.le (le_trans G.out h1)).cell?]; rfl) ukindFloat32 ?_
  simp only [Act.put, List.setIfInBounds_toArray, List.set_cons_succ, List.set_cons_zero]
  refine wpFreeD_newN rfl (fun z => .slice (some ⟨z, 0, none⟩) 2 2) (fun b b' h => by simpa using h) 25 #[.float .f32 m, .float .f32 o] (fun w1 => ?_) (fun z => ?_)
  · have hb := mkF2Jet m o w1
    simp [execOp, Act.eval, Result.andThen, hb]
  simp only [Act.put, List.setIfInBounds_toArray, List.set_cons_succ, List.set_cons_zero]
  refine wpFreeD_callB rfl rfl Tryd.func52 (by kernel_rfl) (by kernel_rfl) (args := #[.slice (some ⟨z, 0, none⟩) 2 2]) (by simp [Act.eval]) (fun v w1 w2 hw hv => hv) (fun w1 hw1 hbe => (s_l04Samples (duo m o) ⟨z, 0, none⟩ 2 2 w1 (by decide) (fun i hi => by match i, hi with | 0, _ => exact fm | 1, _ => exact fo) (fun i hi => by rw [add_none, ((hbe ⟨8, Ground.data⟩ (by simp) (by kernel_rfl)).2 rfl).2.cell?]; match i, hi with | 0, _ => rfl | 1, _ => rfl)).mono ?_) ?_
  · rintro e w2 ⟨rfl, hl⟩
    exact ⟨_, rfl, hl, rfl⟩
  rintro v ⟨_, _, _, hv⟩
  replace hv : v = .string (samL (duo m o) 2) := hv
  subst hv
  simp only [Act.put, List.setIfInBounds_toArray, List.set_cons_succ, List.set_cons_zero]
  refine wpFreeD_cat rfl rfl (s := wordVJet) (r := (samL (duo m o) 2)) rfl rfl (by first | omega | (simp only [ByteArray.size_append]; omega)) (q := wordVJet ++ samL (duo m o) 2) rfl ?_
  simp only [Act.put, List.setIfInBounds_toArray, List.set_cons_succ, List.set_cons_zero]
  refine wpFreeD_cat rfl rfl (s := (wordVJet ++ samL (duo m o) 2)) (r := nlB) rfl rfl (by first | omega | (simp only [ByteArray.size_append]; omega)) (q := wordVJet ++ samL (duo m o) 2 ++ nlB) rfl ?_
  simp only [Act.put, List.setIfInBounds_toArray, List.set_cons_succ, List.set_cons_zero]
  refine wpFreeD_one rfl (.pointer (some ⟨g, 0, none⟩)) (fun w1 _ => by kernel_rfl) ?_
  simp only [Act.put, List.setIfInBounds_toArray, List.set_cons_succ, List.set_cons_zero]
  refine wpFreeD_one rfl (.pointer (some ⟨g, 0, none⟩)) (fun w1 _ => by kernel_rfl) ?_
  simp only [Act.put, List.setIfInBounds_toArray, List.set_cons_succ, List.set_cons_zero]
  refine wpFreeD_one rfl (.pointer (some ⟨g, 4, none⟩)) (fun w1 _ => by kernel_rfl) ?_
  simp only [Act.put, List.setIfInBounds_toArray, List.set_cons_succ, List.set_cons_zero]
  refine wpFreeD_loadW rfl rfl rfl (p := ⟨g, 4, none⟩) [.int .i64 fk, .float .f32 a, .float .f32 b, .float .f32 c, .float .f32 p, .float .f32 q] (fun w1 h1 i v hi => by
    rw [add_none, (HR.out.le (le_trans G.out h1)).cell?, ← hi]
    match i, hi with
    | 0, _ => rfl
    | 1, _ => rfl
    | 2, _ => rfl
    | 3, _ => rfl
    | 4, _ => rfl
    | 5, _ => rfl
    | i + 6, hi => simp at hi) Tryd.underlying35 rfl infoFil rfl ?_
  simp only [Act.put, List.setIfInBounds_toArray, List.set_cons_succ, List.set_cons_zero]
  refine wpFreeD_callB rfl rfl Tryd.func53 (by kernel_rfl) (by kernel_rfl) (args := #[.agg #[.int .i64 fk, .float .f32 a, .float .f32 b, .float .f32 c, .float .f32 p, .float .f32 q]]) (by simp [Act.eval]) (fun v w1 w2 hw hv => hv) (fun w1 hw1 hbe => (HF0.out w1).mono ?_) ?_
  · rintro e w2 ⟨rfl, hl⟩
    exact ⟨_, rfl, hl, rfl⟩
  rintro v ⟨_, _, _, hv⟩
  replace hv : v = .string (filT fk a b c p q) := hv
  subst hv
  simp only [Act.put, List.setIfInBounds_toArray, List.set_cons_succ, List.set_cons_zero]
  refine wpFreeD_cat rfl rfl (s := (wordVJet ++ samL (duo m o) 2 ++ nlB)) (r := (filT fk a b c p q)) rfl rfl (by first | omega | (simp only [ByteArray.size_append]; omega)) (q := wordVJet ++ samL (duo m o) 2 ++ nlB ++ filT fk a b c p q) rfl ?_
  simp only [Act.put, List.setIfInBounds_toArray, List.set_cons_succ, List.set_cons_zero]
  refine wpFreeD_cat rfl rfl (s := (wordVJet ++ samL (duo m o) 2 ++ nlB ++ filT fk a b c p q)) (r := nlB) rfl rfl (by first | omega | (simp only [ByteArray.size_append]; omega)) (q := wordVJet ++ samL (duo m o) 2 ++ nlB ++ filT fk a b c p q ++ nlB) rfl ?_
  simp only [Act.put, List.setIfInBounds_toArray, List.set_cons_succ, List.set_cons_zero]
  refine wpFreeD_one rfl (.pointer (some ⟨g, 0, none⟩)) (fun w1 _ => by kernel_rfl) ?_
  simp only [Act.put, List.setIfInBounds_toArray, List.set_cons_succ, List.set_cons_zero]
  refine wpFreeD_one rfl (.pointer (some ⟨g, 0, none⟩)) (fun w1 _ => by kernel_rfl) ?_
  simp only [Act.put, List.setIfInBounds_toArray, List.set_cons_succ, List.set_cons_zero]
  refine wpFreeD_one rfl (.pointer (some ⟨g, 10, none⟩)) (fun w1 _ => by kernel_rfl) ?_
  simp only [Act.put, List.setIfInBounds_toArray, List.set_cons_succ, List.set_cons_zero]
  refine wpFreeD_loadW rfl rfl rfl (p := ⟨g, 10, none⟩) [.int .i64 gk, .float .f32 a2, .float .f32 b2, .float .f32 c2, .float .f32 p2, .float .f32 q2] (fun w1 h1 i v hi => by
    rw [add_none, (HR.out.le (le_trans G.out h1)).cell?, ← hi]
    match i, hi with
    | 0, _ => rfl
    | 1, _ => rfl
    | 2, _ => rfl
    | 3, _ => rfl
    | 4, _ => rfl
    | 5, _ => rfl
    | i + 6, hi => simp at hi) Tryd.underlying35 rfl infoFil rfl ?_
  simp only [Act.put, List.setIfInBounds_toArray, List.set_cons_succ, List.set_cons_zero]
  refine wpFreeD_callB rfl rfl Tryd.func53 (by kernel_rfl) (by kernel_rfl) (args := #[.agg #[.int .i64 gk, .float .f32 a2, .float .f32 b2, .float .f32 c2, .float .f32 p2, .float .f32 q2]]) (by simp [Act.eval]) (fun v w1 w2 hw hv => hv) (fun w1 hw1 hbe => (HF1.out w1).mono ?_) ?_
  · rintro e w2 ⟨rfl, hl⟩
    exact ⟨_, rfl, hl, rfl⟩
  rintro v ⟨_, _, _, hv⟩
  replace hv : v = .string (filT gk a2 b2 c2 p2 q2) := hv
  subst hv
  simp only [Act.put, List.setIfInBounds_toArray, List.set_cons_succ, List.set_cons_zero]
  refine wpFreeD_cat rfl rfl (s := (wordVJet ++ samL (duo m o) 2 ++ nlB ++ filT fk a b c p q ++ nlB)) (r := (filT gk a2 b2 c2 p2 q2)) rfl rfl (by first | omega | (simp only [ByteArray.size_append]; omega)) (q := wordVJet ++ samL (duo m o) 2 ++ nlB ++ filT fk a b c p q ++ nlB ++ filT gk a2 b2 c2 p2 q2) rfl ?_
  simp only [Act.put, List.setIfInBounds_toArray, List.set_cons_succ, List.set_cons_zero]
  refine wpFreeD_cat rfl rfl (s := (wordVJet ++ samL (duo m o) 2 ++ nlB ++ filT fk a b c p q ++ nlB ++ filT gk a2 b2 c2 p2 q2)) (r := nlB) rfl rfl (by first | omega | (simp only [ByteArray.size_append]; omega)) (q := wordVJet ++ samL (duo m o) 2 ++ nlB ++ filT fk a b c p q ++ nlB ++ filT gk a2 b2 c2 p2 q2 ++ nlB) rfl ?_
  simp only [Act.put, List.setIfInBounds_toArray, List.set_cons_succ, List.set_cons_zero]
  refine wpFreeD_one rfl (.pointer (some ⟨g, 0, none⟩)) (fun w1 _ => by kernel_rfl) ?_
  simp only [Act.put, List.setIfInBounds_toArray, List.set_cons_succ, List.set_cons_zero]
  refine wpFreeD_one rfl (.pointer (some ⟨g, 0, none⟩)) (fun w1 _ => by kernel_rfl) ?_
  simp only [Act.put, List.setIfInBounds_toArray, List.set_cons_succ, List.set_cons_zero]
  refine wpFreeD_one rfl (.pointer (some ⟨g, 0, none⟩)) (fun w1 _ => by kernel_rfl) ?_
  simp only [Act.put, List.setIfInBounds_toArray, List.set_cons_succ, List.set_cons_zero]
  refine wpFreeD_callB rfl rfl Tryd.func54 (by kernel_rfl) (by kernel_rfl) (args := #[.pointer (some ⟨g, 0, none⟩)]) (by simp [Act.eval]) (fun v w1 w2 hw hv => hv) (fun w1 hw1 hbe => (HX.out w1 (le_trans G.out hw1)).mono ?_) ?_
  · rintro e w2 ⟨rfl, hl⟩
    exact ⟨_, rfl, hl, rfl⟩
  rintro v ⟨_, _, _, hv⟩
  replace hv : v = .string (rgT x nx j ++ nlB) := hv
  subst hv
  simp only [Act.put, List.setIfInBounds_toArray, List.set_cons_succ, List.set_cons_zero]
  refine wpFreeD_cat rfl rfl (s := (wordVJet ++ samL (duo m o) 2 ++ nlB ++ filT fk a b c p q ++ nlB ++ filT gk a2 b2 c2 p2 q2 ++ nlB)) (r := (rgT x nx j ++ nlB)) rfl rfl (by first | omega | (simp only [ByteArray.size_append]; omega)) (q := wordVJet ++ samL (duo m o) 2 ++ nlB ++ filT fk a b c p q ++ nlB ++ filT gk a2 b2 c2 p2 q2 ++ nlB ++ (rgT x nx j ++ nlB)) rfl ?_
  simp only [Act.put, List.setIfInBounds_toArray, List.set_cons_succ, List.set_cons_zero]
  refine wpFreeD_one rfl (.pointer (some ⟨g, 0, none⟩)) (fun w1 _ => by kernel_rfl) ?_
  simp only [Act.put, List.setIfInBounds_toArray, List.set_cons_succ, List.set_cons_zero]
  refine wpFreeD_one rfl (.pointer (some ⟨g, 0, none⟩)) (fun w1 _ => by kernel_rfl) ?_
  simp only [Act.put, List.setIfInBounds_toArray, List.set_cons_succ, List.set_cons_zero]
  refine wpFreeD_one rfl (.pointer (some ⟨g, 2, none⟩)) (fun w1 _ => by kernel_rfl) ?_
  simp only [Act.put, List.setIfInBounds_toArray, List.set_cons_succ, List.set_cons_zero]
  refine wpFreeD_callB rfl rfl Tryd.func54 (by kernel_rfl) (by kernel_rfl) (args := #[.pointer (some ⟨g, 2, none⟩)]) (by simp [Act.eval]) (fun v w1 w2 hw hv => hv) (fun w1 hw1 hbe => (HY.out w1 (le_trans G.out hw1)).mono ?_) ?_
  · rintro e w2 ⟨rfl, hl⟩
    exact ⟨_, rfl, hl, rfl⟩
  rintro v ⟨_, _, _, hv⟩
  replace hv : v = .string (rgT y ny k ++ nlB) := hv
  subst hv
  simp only [Act.put, List.setIfInBounds_toArray, List.set_cons_succ, List.set_cons_zero]
  refine wpFreeD_cat rfl rfl (s := (wordVJet ++ samL (duo m o) 2 ++ nlB ++ filT fk a b c p q ++ nlB ++ filT gk a2 b2 c2 p2 q2 ++ nlB ++ (rgT x nx j ++ nlB))) (r := (rgT y ny k ++ nlB)) rfl rfl (by first | omega | (simp only [ByteArray.size_append]; omega)) (q := accs (partsJet x y nx ny j k fk a b c p q gk a2 b2 c2 p2 q2 m o) 5) EA.out ?_
  simp only [Act.put, List.setIfInBounds_toArray, List.set_cons_succ, List.set_cons_zero]
  refine wpFreeD_one rfl (.string (accs (partsJet x y nx ny j k fk a b c p q gk a2 b2 c2 p2 q2 m o) 5)) (fun w1 _ => by kernel_rfl) ?_
  simp only [Act.put, List.setIfInBounds_toArray, List.set_cons_succ, List.set_cons_zero]
  refine wpFreeD_nil (fun wR hwR _ => ?_)
  have HL := hid (le_trans G.out hwR)
  clear hwR
  go_wp2
  go_ret
  exact ⟨rfl, HL.out⟩
set_option maxRecDepth 100000 in
set_option maxHeartbeats 4000000 in
theorem i_partsTextJet (x y : Nat → Nat) (nx ny : Nat) (j k : Nat) (fk : Int) (a b c p q : Nat) (gk : Int) (a2 b2 c2 p2 q2 : Nat) (m o : Nat) (B : Nat) (s t : Value) (w : World) (hs : (slT x nx).RdN w B s) (ht : (slT y ny).RdN w B t) (hf : fits .f32 a ∧ fits .f32 b ∧ fits .f32 c ∧ fits .f32 p ∧ fits .f32 q ∧ fits .f32 a2 ∧ fits .f32 b2 ∧ fits .f32 c2 ∧ fits .f32 p2 ∧ fits .f32 q2 ∧ fits .f32 m ∧ fits .f32 o) (n1 : 1 ≤ nx) (n2 : nx ≤ 1024) (hj : j ≤ 1024) (n3 : 1 ≤ ny) (n4 : ny ≤ 1024) (hk : k ≤ 1024) (hT : Tab10 w) : Calls Tryd.prog 27 #[.iface 46 (.agg #[s, .int .i64 (j : Nat), t, .int .i64 (k : Nat), .int .i64 fk, .float .f32 a, .float .f32 b, .float .f32 c, .float .f32 p, .float .f32 q, .int .i64 gk, .float .f32 a2, .float .f32 b2, .float .f32 c2, .float .f32 p2, .float .f32 q2, .float .f32 m, .float .f32 o])] w (Out_t (accs (partsJet x y nx ny j k fk a b c p q gk a2 b2 c2 p2 q2 m o) 5) w) := by
  obtain ⟨fa, fb, fc, fp, fq, fa2, fb2, fc2, fp2, fq2, fm, fo⟩ := hf
  have HW := hid (fun (w' : World) => i_wordJet (.agg #[s, .int .i64 (j : Nat), t, .int .i64 (k : Nat), .int .i64 fk, .float .f32 a, .float .f32 b, .float .f32 c, .float .f32 p, .float .f32 q, .int .i64 gk, .float .f32 a2, .float .f32 b2, .float .f32 c2, .float .f32 p2, .float .f32 q2, .float .f32 m, .float .f32 o]) w')
  have HFl := hid (fun (w' : World) => i_filtersJet s t (j : Nat) (k : Nat) fk gk a b c p q a2 b2 c2 p2 q2 m o w')
  have HRg := hid (fun (w' : World) => i_ringsJet s t (j : Nat) (k : Nat) fk gk a b c p q a2 b2 c2 p2 q2 m o w')
  have HM := hid (fun (w' : World) => i_numbersJet s t (j : Nat) (k : Nat) fk gk a b c p q a2 b2 c2 p2 q2 m o w')
  have HN := hid (fun (z : Nat) (w' : World) (R : Row w' z 25 #[.float .f32 m, .float .f32 o]) => i_samplesText (duo m o) ⟨z, 0, none⟩ 2 2 w' (by decide) (fun i hi => by match i, hi with | 0, _ => exact fm | 1, _ => exact fo) (fun i hi => by rw [add_none, R.cell?]; match i, hi with | 0, _ => rfl | 1, _ => rfl))
  have HT0 := hid (fun (w' : World) => i_FilterText fk a b c p q w' ⟨fa, fb, fc, fp, fq⟩)
  have HT1 := hid (fun (w' : World) => i_FilterText gk a2 b2 c2 p2 q2 w' ⟨fa2, fb2, fc2, fp2, fq2⟩)
  have HX := hid (fun (w' : World) (hl : le w w') => i_ringText x nx j B s w' (hs.le hl) n1 n2 hj (hT.le hl))
  have HY := hid (fun (w' : World) (hl : le w w') => i_ringText y ny k B t w' (ht.le hl) n3 n4 hk (hT.le hl))
  have SO0 := hid (slT_rds hs).one; have SO1 := hid (slT_rds ht).one
  have PS := hid (partsJet_size (x := x) (y := y) (fk := fk) (a := a) (b := b) (c := c) (p := p) (q := q) (gk := gk) (a2 := a2) (b2 := b2) (c2 := c2) (p2 := p2) (q2 := q2) (m := m) (o := o) n2 n4 hj hk)
  have EP0 := hid (accs_succ (l := (partsJet x y nx ny j k fk a b c p q gk a2 b2 c2 p2 q2 m o)) (n := 0) (c := wordVJet ++ spB ++ txtS (duo m o) 2 ++ nlB) rfl)
  have EP1 := hid (accs_succ (l := (partsJet x y nx ny j k fk a b c p q gk a2 b2 c2 p2 q2 m o)) (n := 1) (c := filT fk a b c p q ++ nlB) rfl)
  have EP2 := hid (accs_succ (l := (partsJet x y nx ny j k fk a b c p q gk a2 b2 c2 p2 q2 m o)) (n := 2) (c := filT gk a2 b2 c2 p2 q2 ++ nlB) rfl)
  have EP3 := hid (accs_succ (l := (partsJet x y nx ny j k fk a b c p q gk a2 b2 c2 p2 q2 m o)) (n := 3) (c := rgT x nx j ++ nlB) rfl)
  have EP4 := hid (accs_succ (l := (partsJet x y nx ny j k fk a b c p q gk a2 b2 c2 p2 q2 m o)) (n := 4) (c := rgT y ny k ++ nlB) rfl)
  have ES0 := hid (PS.out (wordVJet ++ spB ++ txtS (duo m o) 2 ++ nlB) (by simp [partsJet]))
  have ES1 := hid (PS.out (filT fk a b c p q ++ nlB) (by simp [partsJet]))
  have ES2 := hid (PS.out (filT gk a2 b2 c2 p2 q2 ++ nlB) (by simp [partsJet]))
  have ES3 := hid (PS.out (rgT x nx j ++ nlB) (by simp [partsJet]))
  have ES4 := hid (PS.out (rgT y ny k ++ nlB) (by simp [partsJet]))
  have EZ := hid (accs_size PS.out)
  have z0 := txtS_size (duo m o) 2
  have zx := rgT_size (x := x) n2 hj
  have zy := rgT_size (x := y) n4 hk
  have zf0 := filT_sz fk a b c p q
  have zf1 := filT_sz gk a2 b2 c2 p2 q2
  have zw : wordVJet.size = 3 := rfl
  have HB0 := hid (Bd.fresh w)
  have HL0 := hid (le_alloc w (.cells #[.pointer none, .slice none 0 0] 107))
  clear hs ht hT fa fb fc fp fq fa2 fb2 fc2 fp2 fq2 fm fo
  obtain ⟨LL, hLL⟩ : ∃ LL, LL = (partsJet x y nx ny j k fk a b c p q gk a2 b2 c2 p2 q2 m o) := ⟨_, rfl⟩
  rw [← hLL]
  simp only [← hLL] at EP0 EP1 EP2 EP3 EP4 EZ PS
  clear hLL PS
  go_enter Tryd.func27, Tryd.ntmps27
  go_wp2_with fail
  obtain ⟨W1, hW1⟩ : ∃ W1, W1 = w.alloc (.cells #[.pointer none, .slice none 0 0] 107) := ⟨_, rfl⟩
  rw [← hW1] at HB0 HL0 ⊢
  have HS0 := hid (show w.heap.size < W1.heap.size by rw [hW1, World.size_alloc]; omega)
  clear hW1
  have F := Frg.nil W1
  go_wp2_with (first | ((with_reducible refine listN F ?_); clear F; intro wN F) | (go_at_call 58; ((with_reducible refine (HW.out _).mono ?_); rintro e w1 ⟨gK, rfl, hgK, hrK, hlK⟩; replace F := F.rowS hlK hgK hrK; clear hgK hrK hlK)) | (go_at_call 128; ((with_reducible refine (HM.out _).mono ?_); rintro e w2 ⟨gM, rfl, hgM, hrM, hlM⟩; replace F := F.rowS hlM hgM hrM; clear hgM hrM hlM)) | (go_at_call 42; ((with_reducible refine (HN.out _ _ (F.row m0)).mono ?_); rintro e w3 ⟨rfl, hl3⟩; replace F := F.le hl3; clear hl3)))
  first | ((with_reducible refine callAt0 F ?_); clear F; intro wN F) | ((with_reducible refine callAtN F ?_); clear F; intro wN F)
  have hz := EZ.out 0
  refine (run_Write w.heap.size w.heap.size ⟨#[]⟩ (wordVJet ++ spB ++ txtS (duo m o) 2 ++ nlB) wN (HB0.out.le F.below) (by have := ES0.out; show 0 + _ ≤ _; omega) (Nat.le_of_lt (Nat.lt_of_lt_of_le HS0.out F.below.size))).mono ?_
  rintro e w5 ⟨rfl, hbd, hbl, hok⟩
  rw [show (⟨#[]⟩ : ByteArray) ++ (wordVJet ++ spB ++ txtS (duo m o) 2 ++ nlB) = accs LL 1 from EP0.out.symm] at hbd
  have HBn := hid hbd
  have HLn := hid (show le w w5 from Below.trans (le_trans HL0.out F.below) hbl)
  have HSn := hid (show w.heap.size < w5.heap.size from Nat.lt_of_lt_of_le HS0.out (Nat.le_trans F.below.size hbl.size))
  clear hbd hbl hok hz F
  clear HB0 HL0 HS0
  have F := Frg.nil w5
  go_wp2_with (first | (go_at_call 127; ((with_reducible refine (HFl.out _).mono ?_); rintro e w2 ⟨gF, rfl, hgF, hrF, hlF⟩; have HgF := hid (Nat.lt_of_lt_of_le HSn.out hgF); replace F := F.rowS hlF hgF hrF; clear hgF hrF hlF)))
  go_loopw [26] (fun i wr => ∃ n : Nat, n ≤ 2 ∧ i = .int .i64 n ∧ Hid (Bd w.heap.size w.heap.size (accs LL (1 + n)) wr) ∧ Hid (le w wr) ∧ Hid (w.heap.size < wr.heap.size) ∧ Hid (Row wr gF 35 #[.int .i64 fk, .float .f32 a, .float .f32 b, .float .f32 c, .float .f32 p, .float .f32 q, .int .i64 gk, .float .f32 a2, .float .f32 b2, .float .f32 c2, .float .f32 p2, .float .f32 q2])) (fun i _ => 2 - (intOf i).toNat)
  case atStart => exact ⟨0, by omega, rfl, HBn.out.le F.below, le_trans HLn.out F.below, Nat.lt_of_lt_of_le HSn.out F.below.size, F.row m0⟩
  case round =>
    clear F HBn HLn HSn
    obtain ⟨n, hn, rfl, HB, HL, HS, HRF⟩ := hrel
    rename_i wr _
    match n, hn with
    | 0, _ =>
      have F := Frg.nil wr
      have HRow := HRF.out
      have HCL := hid (fun (qi : Nat) (v : Value) (hv : [Value.int .i64 fk, .float .f32 a, .float .f32 b, .float .f32 c, .float .f32 p, .float .f32 q][qi]? = some v) => show wr.cell? ((⟨gF, 0 + 0 * 6, none⟩ : Addr).add qi) = some v from by rw [add_none, HRow.cell?, ← hv]; match qi, hv with | 0, _ => rfl | 1, _ => rfl | 2, _ => rfl | 3, _ => rfl | 4, _ => rfl | 5, _ => rfl | qi + 6, hv => simp at hv)
      clear HRow
      go_wp2_with (first | (with_reducible refine wpList_indexW0 (i := 0) rfl rfl rfl rfl Tryd.underlying116 uinfoFilterI (by decide) ?_) | ((with_reducible refine at_load rfl ?_); (refine wpList_loadW rfl rfl rfl [.int .i64 fk, .float .f32 a, .float .f32 b, .float .f32 c, .float .f32 p, .float .f32 q] HCL.out Tryd.underlying35 rfl infoFil rfl ?_)))
      clear HCL
      replace F := F.box 35 #[.int .i64 fk, .float .f32 a, .float .f32 b, .float .f32 c, .float .f32 p, .float .f32 q]
      go_wp2_with (first | ((with_reducible refine listN F ?_); clear F; intro wN F) | ((with_reducible refine at_load rfl ?_); (with_reducible refine wpList_loadG F rfl rfl rfl m0 Tryd.underlying35 rfl infoFil rfl ?_)) | (go_at_call 44; ((with_reducible refine (HT0.out _).mono ?_); rintro e w3 ⟨rfl, hl3⟩; replace F := F.le hl3; clear hl3)))
      first | ((with_reducible refine callAt0 F ?_); clear F; intro wN F) | ((with_reducible refine callAtN F ?_); clear F; intro wN F)
      have hz := EZ.out 1
      refine (run_Write w.heap.size w.heap.size (accs LL 1) (filT fk a b c p q ++ nlB) wN (HB.out.le F.below) (by have := ES1.out; omega) (Nat.le_of_lt (Nat.lt_of_lt_of_le HS.out F.below.size))).mono ?_
      rintro e w5 ⟨rfl, hbd, hbl, hok⟩
      rw [← EP1.out] at hbd
      have HBn := hid hbd
      have HLn := hid (show le w w5 from Below.trans (le_trans HL.out F.below) hbl)
      have HSn := hid (show w.heap.size < w5.heap.size from Nat.lt_of_lt_of_le HS.out (Nat.le_trans F.below.size hbl.size))
      have HRFn := hid (kept_row hok (HRF.out.le F.below) (by have := HgF.out; omega) (by decide))
      clear hbd hbl hok hz F
      go_wp2
      go_roundw
      case rel => exact ⟨1, by omega, by go_num, HBn.out, HLn.out, HSn.out, HRFn.out⟩
      case measure => simp [intOf]
    | 1, _ =>
      have F := Frg.nil wr
      have HRow := HRF.out
      have HCL := hid (fun (qi : Nat) (v : Value) (hv : [Value.int .i64 gk, .float .f32 a2, .float .f32 b2, .float .f32 c2, .float .f32 p2, .float .f32 q2][qi]? = some v) => show wr.cell? ((⟨gF, 0 + 1 * 6, none⟩ : Addr).add qi) = some v from by rw [add_none, HRow.cell?, ← hv]; match qi, hv with | 0, _ => rfl | 1, _ => rfl | 2, _ => rfl | 3, _ => rfl | 4, _ => rfl | 5, _ => rfl | qi + 6, hv => simp at hv)
      clear HRow
      go_wp2_with (first | (with_reducible refine wpList_indexW0 (i := 1) rfl rfl rfl rfl Tryd.underlying116 uinfoFilterI (by decide) ?_) | ((with_reducible refine at_load rfl ?_); (refine wpList_loadW rfl rfl rfl [.int .i64 gk, .float .f32 a2, .float .f32 b2, .float .f32 c2, .float .f32 p2, .float .f32 q2] HCL.out Tryd.underlying35 rfl infoFil rfl ?_)))
      clear HCL
      replace F := F.box 35 #[.int .i64 gk, .float .f32 a2, .float .f32 b2, .float .f32 c2, .float .f32 p2, .float .f32 q2]
      go_wp2_with (first | ((with_reducible refine listN F ?_); clear F; intro wN F) | ((with_reducible refine at_load rfl ?_); (with_reducible refine wpList_loadG F rfl rfl rfl m0 Tryd.underlying35 rfl infoFil rfl ?_)) | (go_at_call 44; ((with_reducible refine (HT1.out _).mono ?_); rintro e w3 ⟨rfl, hl3⟩; replace F := F.le hl3; clear hl3)))
      first | ((with_reducible refine callAt0 F ?_); clear F; intro wN F) | ((with_reducible refine callAtN F ?_); clear F; intro wN F)
      have hz := EZ.out 2
      refine (run_Write w.heap.size w.heap.size (accs LL 2) (filT gk a2 b2 c2 p2 q2 ++ nlB) wN (HB.out.le F.below) (by have := ES2.out; omega) (Nat.le_of_lt (Nat.lt_of_lt_of_le HS.out F.below.size))).mono ?_
      rintro e w5 ⟨rfl, hbd, hbl, hok⟩
      rw [← EP2.out] at hbd
      have HBn := hid hbd
      have HLn := hid (show le w w5 from Below.trans (le_trans HL.out F.below) hbl)
      have HSn := hid (show w.heap.size < w5.heap.size from Nat.lt_of_lt_of_le HS.out (Nat.le_trans F.below.size hbl.size))
      have HRFn := hid (kept_row hok (HRF.out.le F.below) (by have := HgF.out; omega) (by decide))
      clear hbd hbl hok hz F
      go_wp2
      go_roundw
      case rel => exact ⟨2, by omega, by go_num, HBn.out, HLn.out, HSn.out, HRFn.out⟩
      case measure => simp [intOf]
    | 2, _ =>
      have F := Frg.nil wr
      go_wp2_with (first | (go_at_call 129; ((with_reducible refine (HRg.out _).mono ?_); rintro e w2 ⟨gR, rfl, hgR, hrR, hlR⟩; have HgR := hid (Nat.lt_of_lt_of_le HS.out hgR); replace F := F.rowS hlR hgR hrR; clear hgR hrR hlR)))
      go_loopw [38] (fun i wr => ∃ n : Nat, n ≤ 2 ∧ i = .int .i64 n ∧ Hid (Bd w.heap.size w.heap.size (accs LL (3 + n)) wr) ∧ Hid (le w wr) ∧ Hid (w.heap.size < wr.heap.size) ∧ Hid (Row wr gR 34 #[s, .int .i64 (j : Nat), t, .int .i64 (k : Nat)])) (fun i _ => 2 - (intOf i).toNat)
      case atStart => exact ⟨0, by omega, rfl, HB.out.le F.below, le_trans HL.out F.below, Nat.lt_of_lt_of_le HS.out F.below.size, F.row m0⟩
      case round =>
        clear F HB HL HS HRF
        obtain ⟨n2_, hn2, rfl, HB, HL, HS, HRR⟩ := hrel
        rename World => wq
        match n2_, hn2 with
        | 0, _ =>
          have F := Frg.nil wq
          have HRow := HRR.out
          have HCL := hid (fun (qi : Nat) (v : Value) (hv : [s, .int .i64 (j : Nat)][qi]? = some v) => show wq.cell? ((⟨gR, 0 + 0 * 2, none⟩ : Addr).add qi) = some v from by rw [add_none, HRow.cell?, ← hv]; match qi, hv with | 0, _ => rfl | 1, _ => rfl | qi + 2, hv => simp at hv)
          clear HRow
          go_wp2_with (first | (with_reducible refine wpList_indexW0 (i := 0) rfl rfl rfl rfl Tryd.underlying55 uinfoRingI (by decide) ?_) | ((with_reducible refine at_load rfl ?_); (refine wpList_loadW rfl rfl rfl [s, .int .i64 (j : Nat)] HCL.out Tryd.underlying34 rfl uinfoRingI rfl ?_)) | (with_reducible refine stop_store rfl ?_))
          show wpList _ _ _ _ _ _
          clear HCL
          replace F := F.box 34 #[.slice none 0 0, .int .i64 0]
          refine wpList_storeD rfl rfl rfl (cells := #[s, .int .i64 (j : Nat)]) rfl (F.row m0) uinfoRingI rfl (by simp only [List.all_toArray', List.all_cons, List.all_nil, SO0.out]; rfl) (fun w4 K => ?_)
          replace F := F.wr0 K
          clear K
          go_wp2_with (first | ((with_reducible refine listN F ?_); clear F; intro wN F) | ((with_reducible refine at_load rfl ?_); (with_reducible refine wpList_loadG F rfl rfl rfl m0 Tryd.underlying34 rfl uinfoRingI rfl ?_)) | (go_at_call 46; ((with_reducible refine (HX.out _ (le_trans HL.out F.below)).mono ?_); rintro e w3 ⟨rfl, hl3⟩; replace F := F.le hl3; clear hl3)))
          first | ((with_reducible refine callAt0 F ?_); clear F; intro wN F) | ((with_reducible refine callAtN F ?_); clear F; intro wN F)
          have hz := EZ.out 3
          refine (run_Write w.heap.size w.heap.size (accs LL 3) (rgT x nx j ++ nlB) wN (HB.out.le F.below) (by have := ES3.out; omega) (Nat.le_of_lt (Nat.lt_of_lt_of_le HS.out F.below.size))).mono ?_
          rintro e w5 ⟨rfl, hbd, hbl, hok⟩
          rw [← EP3.out] at hbd
          have HBn := hid hbd
          have HLn := hid (show le w w5 from Below.trans (le_trans HL.out F.below) hbl)
          have HSn := hid (show w.heap.size < w5.heap.size from Nat.lt_of_lt_of_le HS.out (Nat.le_trans F.below.size hbl.size))
          have HRRn := hid (kept_row hok (HRR.out.le F.below) (by have := HgR.out; omega) (by decide))
          clear hbd hbl hok hz F
          go_wp2
          go_roundw
          case rel => exact ⟨1, by omega, by go_num, HBn.out, HLn.out, HSn.out, HRRn.out⟩
          case measure => simp [intOf]
        | 1, _ =>
          have F := Frg.nil wq
          have HRow := HRR.out
          have HCL := hid (fun (qi : Nat) (v : Value) (hv : [t, .int .i64 (k : Nat)][qi]? = some v) => show wq.cell? ((⟨gR, 0 + 1 * 2, none⟩ : Addr).add qi) = some v from by rw [add_none, HRow.cell?, ← hv]; match qi, hv with | 0, _ => rfl | 1, _ => rfl | qi + 2, hv => simp at hv)
          clear HRow
          go_wp2_with (first | (with_reducible refine wpList_indexW0 (i := 1) rfl rfl rfl rfl Tryd.underlying55 uinfoRingI (by decide) ?_) | ((with_reducible refine at_load rfl ?_); (refine wpList_loadW rfl rfl rfl [t, .int .i64 (k : Nat)] HCL.out Tryd.underlying34 rfl uinfoRingI rfl ?_)) | (with_reducible refine stop_store rfl ?_))
          show wpList _ _ _ _ _ _
          clear HCL
          replace F := F.box 34 #[.slice none 0 0, .int .i64 0]
          refine wpList_storeD rfl rfl rfl (cells := #[t, .int .i64 (k : Nat)]) rfl (F.row m0) uinfoRingI rfl (by simp only [List.all_toArray', List.all_cons, List.all_nil, SO1.out]; rfl) (fun w4 K => ?_)
          replace F := F.wr0 K
          clear K
          go_wp2_with (first | ((with_reducible refine listN F ?_); clear F; intro wN F) | ((with_reducible refine at_load rfl ?_); (with_reducible refine wpList_loadG F rfl rfl rfl m0 Tryd.underlying34 rfl uinfoRingI rfl ?_)) | (go_at_call 46; ((with_reducible refine (HY.out _ (le_trans HL.out F.below)).mono ?_); rintro e w3 ⟨rfl, hl3⟩; replace F := F.le hl3; clear hl3)))
          first | ((with_reducible refine callAt0 F ?_); clear F; intro wN F) | ((with_reducible refine callAtN F ?_); clear F; intro wN F)
          have hz := EZ.out 4
          refine (run_Write w.heap.size w.heap.size (accs LL 4) (rgT y ny k ++ nlB) wN (HB.out.le F.below) (by have := ES4.out; omega) (Nat.le_of_lt (Nat.lt_of_lt_of_le HS.out F.below.size))).mono ?_
          rintro e w5 ⟨rfl, hbd, hbl, hok⟩
          rw [← EP4.out] at hbd
          have HBn := hid hbd
          have HLn := hid (show le w w5 from Below.trans (le_trans HL.out F.below) hbl)
          have HSn := hid (show w.heap.size < w5.heap.size from Nat.lt_of_lt_of_le HS.out (Nat.le_trans F.below.size hbl.size))
          have HRRn := hid (kept_row hok (HRR.out.le F.below) (by have := HgR.out; omega) (by decide))
          clear hbd hbl hok hz F
          go_wp2
          go_roundw
          case rel => exact ⟨2, by omega, by go_num, HBn.out, HLn.out, HSn.out, HRRn.out⟩
          case measure => simp [intOf]
        | 2, _ =>
          have HST := hid (run_Str w.heap.size w.heap.size (accs LL 5) wq HB.out (Nat.le_of_lt HS.out))
          go_wp2_with (go_at_call 60; ((with_reducible refine HST.out.mono ?_); rintro e w3 ⟨rfl, hl3⟩; skip))
          go_ret
          exact ⟨rfl, Below.trans HL.out hl3⟩
def txtJet (x y : Nat → Nat) (nx ny : Nat) (j k : Int) (fk : Int) (a b c p q : Nat) (gk : Int) (a2 b2 c2 p2 q2 : Nat) (m o : Nat) : ByteArray := if okJet x y nx ny j k fk a b c p q gk a2 b2 c2 p2 q2 m o then accs (partsJet x y nx ny j.toNat k.toNat fk a b c p q gk a2 b2 c2 p2 q2 m o) 5 else ⟨#[]⟩
set_option maxRecDepth 100000 in
set_option maxHeartbeats 4000000 in
theorem i_JetText (x y : Nat → Nat) (nx ny : Nat) (j k : Int) (fk : Int) (a b c p q : Nat) (gk : Int) (a2 b2 c2 p2 q2 : Nat) (m o : Nat) (B : Nat) (s t : Value) (w : World) (hs : (slT x nx).RdN w B s) (ht : (slT y ny).RdN w B t) (wf : (Lit.int .i64 j).wf = true ∧ (Lit.int .i64 k).wf = true) (hf : fits .f32 a ∧ fits .f32 b ∧ fits .f32 c ∧ fits .f32 p ∧ fits .f32 q ∧ fits .f32 a2 ∧ fits .f32 b2 ∧ fits .f32 c2 ∧ fits .f32 p2 ∧ fits .f32 q2 ∧ fits .f32 m ∧ fits .f32 o) (hT : Tab10 w) : Calls Tryd.prog 14 #[.agg #[s, .int .i64 j, t, .int .i64 k, .int .i64 fk, .float .f32 a, .float .f32 b, .float .f32 c, .float .f32 p, .float .f32 q, .int .i64 gk, .float .f32 a2, .float .f32 b2, .float .f32 c2, .float .f32 p2, .float .f32 q2, .float .f32 m, .float .f32 o]] w (Out_t (txtJet x y nx ny j k fk a b c p q gk a2 b2 c2 p2 q2 m o) w) := by
  unfold txtJet
  have HV := hid (fun (w' : World) (hl : le w w') => i_ValidJet x y nx ny j k fk a b c p q gk a2 b2 c2 p2 q2 m o B s t w' (hs.le hl) (ht.le hl) wf hf)
  have F := (Frg.nil w).box 46 #[s, .int .i64 j, t, .int .i64 k, .int .i64 fk, .float .f32 a, .float .f32 b, .float .f32 c, .float .f32 p, .float .f32 q, .int .i64 gk, .float .f32 a2, .float .f32 b2, .float .f32 c2, .float .f32 p2, .float .f32 q2, .float .f32 m, .float .f32 o]
  cases hok : okJet x y nx ny j k fk a b c p q gk a2 b2 c2 p2 q2 m o
  · rw [hok] at HV
    clear hok hs ht wf hf hT
    go_enter Tryd.func14, Tryd.ntmps14
    go_wp2_with (first | ((with_reducible refine listN F ?_); clear F; intro wN F) | ((with_reducible refine at_load rfl ?_); (with_reducible refine wpList_loadG F rfl rfl rfl m0 Tryd.underlying46 rfl uinfoJetI rfl ?_)) | (go_at_call 33; ((with_reducible refine (HV.out _ F.below).mono ?_); rintro e w1 ⟨rfl, hl1⟩; replace F := F.le hl1; clear hl1)))
    go_ret
    exact ⟨rfl, F.below⟩
  · obtain ⟨⟨n1, n2, j, rfl, hj⟩, n3, n4, k, rfl, hk⟩ := okJet_nums hok
    simp only [Int.toNat_natCast]
    have HP := hid (fun (w' : World) (hl : le w w') => i_partsTextJet x y nx ny j k fk a b c p q gk a2 b2 c2 p2 q2 m o B s t w' (hs.le hl) (ht.le hl) hf n1 n2 hj n3 n4 hk (hT.le hl))
    rw [hok] at HV
    clear hok hs ht wf hf hT
    go_enter Tryd.func14, Tryd.ntmps14
    go_wp2_with (first | ((with_reducible refine listN F ?_); clear F; intro wN F) | ((with_reducible refine at_load rfl ?_); (with_reducible refine wpList_loadG F rfl rfl rfl m0 Tryd.underlying46 rfl uinfoJetI rfl ?_)) | (go_at_call 33; ((with_reducible refine (HV.out _ F.below).mono ?_); rintro e w1 ⟨rfl, hl1⟩; replace F := F.le hl1; clear hl1)) | (go_at_call 27; ((with_reducible refine (HP.out _ F.below).mono ?_); rintro e w1 ⟨rfl, hl1⟩; replace F := F.le hl1; clear hl1)))
    go_ret
    exact ⟨rfl, F.below⟩
set_option maxRecDepth 100000 in
set_option maxHeartbeats 4000000 in
theorem s_JetText (x y : Nat → Nat) (nx ny : Nat) (j k : Int) (fk : Int) (a b c p q : Nat) (gk : Int) (a2 b2 c2 p2 q2 : Nat) (m o : Nat) (B : Nat) (s t : Value) (w : World) (hs : (slT x nx).RdN w B s) (ht : (slT y ny).RdN w B t) (wf : (Lit.int .i64 j).wf = true ∧ (Lit.int .i64 k).wf = true) (hf : fits .f32 a ∧ fits .f32 b ∧ fits .f32 c ∧ fits .f32 p ∧ fits .f32 q ∧ fits .f32 a2 ∧ fits .f32 b2 ∧ fits .f32 c2 ∧ fits .f32 p2 ∧ fits .f32 q2 ∧ fits .f32 m ∧ fits .f32 o) : Calls Tryd.prog 12 #[.agg #[s, .int .i64 j, t, .int .i64 k, .int .i64 fk, .float .f32 a, .float .f32 b, .float .f32 c, .float .f32 p, .float .f32 q, .int .i64 gk, .float .f32 a2, .float .f32 b2, .float .f32 c2, .float .f32 p2, .float .f32 q2, .float .f32 m, .float .f32 o]] w (Out_t (txtJet x y nx ny j k fk a b c p q gk a2 b2 c2 p2 q2 m o) w) := by
  unfold txtJet
  have HV := hid (fun (w' : World) (hl : le w w') (R : Row w' w.heap.size 46 #[s, .int .i64 j, t, .int .i64 k, .int .i64 fk, .float .f32 a, .float .f32 b, .float .f32 c, .float .f32 p, .float .f32 q, .int .i64 gk, .float .f32 a2, .float .f32 b2, .float .f32 c2, .float .f32 p2, .float .f32 q2, .float .f32 m, .float .f32 o]) => s_l05Jet x y nx ny j k fk a b c p q gk a2 b2 c2 p2 q2 m o B s t w' w.heap.size R (hs.le hl) (ht.le hl) wf hf)
  have F := (Frg.nil w).box 46 #[s, .int .i64 j, t, .int .i64 k, .int .i64 fk, .float .f32 a, .float .f32 b, .float .f32 c, .float .f32 p, .float .f32 q, .int .i64 gk, .float .f32 a2, .float .f32 b2, .float .f32 c2, .float .f32 p2, .float .f32 q2, .float .f32 m, .float .f32 o]
  cases hok : okJet x y nx ny j k fk a b c p q gk a2 b2 c2 p2 q2 m o
  · rw [hok] at HV
    clear hok hs ht wf hf
    go_enter Tryd.func12, Tryd.ntmps12
    go_wp2_with (first | ((with_reducible refine listN F ?_); clear F; intro wN F) | (go_at_call 31; ((with_reducible refine (HV.out _ F.below (F.row m0)).mono ?_); rintro e w1 ⟨rfl, hl1⟩; replace F := F.le hl1; clear hl1)))
    go_ret
    exact ⟨rfl, F.below⟩
  · obtain ⟨⟨n1, n2, j, rfl, hj⟩, n3, n4, k, rfl, hk⟩ := okJet_nums hok
    simp only [Int.toNat_natCast]
    have HP := hid (fun (w' : World) (hl : le w w') (R : Row w' w.heap.size 46 #[s, .int .i64 (j : Nat), t, .int .i64 (k : Nat), .int .i64 fk, .float .f32 a, .float .f32 b, .float .f32 c, .float .f32 p, .float .f32 q, .int .i64 gk, .float .f32 a2, .float .f32 b2, .float .f32 c2, .float .f32 p2, .float .f32 q2, .float .f32 m, .float .f32 o]) => s_l05Jetted x y nx ny j k fk a b c p q gk a2 b2 c2 p2 q2 m o B s t w' w.heap.size R (hs.le hl) (ht.le hl) hf n1 n2 hj n3 n4 hk)
    rw [hok] at HV
    clear hok hs ht wf hf
    go_enter Tryd.func12, Tryd.ntmps12
    go_wp2_with (first | ((with_reducible refine listN F ?_); clear F; intro wN F) | (go_at_call 31; ((with_reducible refine (HV.out _ F.below (F.row m0)).mono ?_); rintro e w1 ⟨rfl, hl1⟩; replace F := F.le hl1; clear hl1)) | (go_at_call 32; ((with_reducible refine (HP.out _ F.below (F.row m0)).mono ?_); rintro e w1 ⟨rfl, hl1⟩; replace F := F.le hl1; clear hl1)))
    go_ret
    exact ⟨rfl, F.below⟩
theorem both_JetText (cs : List CD) (h : HasShL shJet cs) : ∃ ar0 : ByteArray, (∀ (w : World) (B : Nat) (u : List Value), RdLN w B (cs.map CD.cp) u → Calls Tryd.prog 12 #[.agg u.toArray] w (Out_t ar0 w)) ∧ (∀ (w : World) (B : Nat) (u : List Value), RdLN w B (cs.map CD.cp) u → Tab10 w → Calls Tryd.prog 14 #[.agg u.toArray] w (Out_t ar0 w)) := by
  obtain ⟨xs, ys, nx, ny, j, k, fk, a, b, c, p, q, gk, a2, b2, c2, p2, q2, m, o, rfl, hx, hy⟩ := jet_data h
  refine ⟨txtJet (fun i => (xs i).fx) (fun i => (ys i).fx) nx ny j k fk a b c p q gk a2 b2 c2 p2 q2 m o, fun w B u hu => ?_, fun w B u hu hT => ?_⟩
  · obtain ⟨s, t, rfl, hs, ht, wf, hf⟩ := jet_open hu hx hy
    exact s_JetText (fun i => (xs i).fx) (fun i => (ys i).fx) nx ny j k fk a b c p q gk a2 b2 c2 p2 q2 m o B s t w hs ht wf hf
  · obtain ⟨s, t, rfl, hs, ht, wf, hf⟩ := jet_open hu hx hy
    exact i_JetText (fun i => (xs i).fx) (fun i => (ys i).fx) nx ny j k fk a b c p q gk a2 b2 c2 p2 q2 m o B s t w hs ht wf hf hT
end Go.Proofs.YtjihkfemejhllaaDoor

/- The walk of 'FnExactJetText'. -/
namespace Go.Proofs.YtjihkfemejhllaaDoor.fnExactJetText
open Go.RowKit Go.Fk
set_option maxRecDepth 100000 in
set_option maxHeartbeats 4000000 in
theorem core (cs0 : List CD) (vs0 : List Value) (ar0 : ByteArray) (w : World) (z0 : RdL w w.heap.size cs0 vs0) (k0 : ShOkL shJet cs0) (hT : Tab10 w) (hz : szL cs0 ≤ 1048576)
    (hS : ∀ (w : World) (B0 : Nat) (u0 : List Value), RdLN w B0 (cs0.map CD.cp) u0 → Calls Tryd.prog 12 #[.agg u0.toArray] w (Out_t ar0 w))
    (hI : ∀ (w : World) (B0 : Nat) (u0 : List Value), RdLN w B0 (cs0.map CD.cp) u0 → Tab10 w → Calls Tryd.prog 14 #[.agg u0.toArray] w (Out_t ar0 w)) :
    Calls Tryd.prog 4 #[.agg vs0.toArray] w fun e w' => e = .returned (.bool true) ∧ Below w.heap.size w w' := by
  have Z0 := hid z0; have K0 := hid k0; have hl0 : Hid (vs0.length = 18) := z0.1.trans k0.1; clear z0 k0
  have hz0 : szL cs0 ≤ 1048576 := by omega
  have hm0 : ¬ (1048576 : Int) - (szL cs0 : Nat) < 0 := by omega
  have HS := hid hS; have HI := hid hI; clear hS hI
  have HTb := hid hT; clear hT
  have F := Frg.nil w
  replace F := F.box 42 vs0.toArray
  go_enter Tryd.func4, Tryd.ntmps4
  go_wp2_with (first | (((with_reducible refine listN F ?_); clear F; intro wN F)) | ((with_reducible refine at_loadU rfl rfl ?_); first | (with_reducible refine wpList_loadG F rfl rfl rfl (by first | exact m0 | exact m1 | exact m2 | exact m3 | exact m4 | exact m5 | exact m6 | exact m7 | exact m8) Tryd.underlying46 rfl uinfoJetI (by simp only [List.size_toArray]; first | exact hl0.out | exact hl1.out | exact hu0.out | exact hu1.out) ?_) | (with_reducible refine wpList_loadG F rfl rfl rfl (by first | exact m0 | exact m1 | exact m2 | exact m3 | exact m4 | exact m5 | exact m6 | exact m7 | exact m8) Tryd.underlying42 rfl uinfoJetL (by simp only [List.size_toArray]; first | exact hl0.out | exact hl1.out | exact hu0.out | exact hu1.out) ?_)) | (go_at_call 11; ((with_reducible refine (szU_Jet _ cs0 vs0 (1048576 : Int) ((1048576 : Int) - (szL cs0 : Nat)) _ (Z0.out.le F.below) K0.out (by omega) (by omega) (lessBy_pos hm0)).mono ?_); rintro e w1 ⟨rfl, hb1⟩; replace F := F.le hb1)) | (go_at_call 13; ((with_reducible refine (toU_Jet _ cs0 vs0 _ (Z0.out.le F.below) K0.out hz0).mono ?_); rintro e w1 ⟨usA0, rfl, ho, hl⟩; have hu0 : Hid (usA0.length = 18) := ho.1.trans ((List.length_map ..).trans K0.out.1); have ho0 := hid ho.all_one; replace F := F.lay1 hl ho; clear ho hl)))
  first | ((with_reducible refine callAt0 F ?_); clear F; intro wN F) | ((with_reducible refine callAtN F ?_); clear F; intro wN F)
  refine (HS.out _ _ _ (F.layN (by first | exact m0 | exact m1 | exact m2 | exact m3 | exact m4 | exact m5 | exact m6 | exact m7 | exact m8))).mono ?_
  rintro e wS ⟨rfl, hlS⟩
  replace F := F.le hlS
  go_wp2_with (first | (((with_reducible refine listN F ?_); clear F; intro wN F)) | ((with_reducible refine at_store rfl ?_); first | (refine wpList_storeG F rfl rfl rfl rfl rfl (by simp only [List.size_toArray]; first | (rw [hu0.out]; exact uinfoJetI) | (rw [hu1.out]; exact uinfoJetI)) (by simp only [List.size_toArray]; first | (rw [hu0.out]; rfl) | (rw [hu1.out]; rfl)) (by first | exact ho0.out | exact ho1.out) ?_; clear F; intro W F zW; clear zW)) | ((with_reducible refine at_loadU rfl rfl ?_); first | (with_reducible refine wpList_loadG F rfl rfl rfl (by first | exact m0 | exact m1 | exact m2 | exact m3 | exact m4 | exact m5 | exact m6 | exact m7 | exact m8) Tryd.underlying46 rfl uinfoJetI (by simp only [List.size_toArray]; first | exact hl0.out | exact hl1.out | exact hu0.out | exact hu1.out) ?_) | (with_reducible refine wpList_loadG F rfl rfl rfl (by first | exact m0 | exact m1 | exact m2 | exact m3 | exact m4 | exact m5 | exact m6 | exact m7 | exact m8) Tryd.underlying42 rfl uinfoJetL (by simp only [List.size_toArray]; first | exact hl0.out | exact hl1.out | exact hu0.out | exact hu1.out) ?_)) | (go_at_call 13; ((with_reducible refine (toU_Jet _ cs0 vs0 _ (Z0.out.le F.below) K0.out hz0).mono ?_); rintro e w1 ⟨usB0, rfl, ho, hl⟩; have hu0 : Hid (usB0.length = 18) := ho.1.trans ((List.length_map ..).trans K0.out.1); have ho0 := hid ho.all_one; replace F := F.lay1 hl ho; clear ho hl)))
  first | ((with_reducible refine callAt0 F ?_); clear F; intro wN F) | ((with_reducible refine callAtN F ?_); clear F; intro wN F)
  refine (HI.out _ _ _ (F.layN (by first | exact m0 | exact m1 | exact m2 | exact m3 | exact m4 | exact m5 | exact m6 | exact m7 | exact m8)) (HTb.out.le F.below)).mono ?_
  rintro e wI ⟨rfl, hlI⟩
  replace F := F.le hlI
  go_wp2_with (first | (((with_reducible refine listN F ?_); clear F; intro wN F)) | ((with_reducible refine at_store rfl ?_); first | (refine wpList_storeG F rfl rfl rfl rfl rfl (by simp only [List.size_toArray]; first | (rw [hu0.out]; exact uinfoJetI) | (rw [hu1.out]; exact uinfoJetI)) (by simp only [List.size_toArray]; first | (rw [hu0.out]; rfl) | (rw [hu1.out]; rfl)) (by first | exact ho0.out | exact ho1.out) ?_; clear F; intro W F zW; clear zW)) | ((with_reducible refine at_loadU rfl rfl ?_); first | (with_reducible refine wpList_loadG F rfl rfl rfl (by first | exact m0 | exact m1 | exact m2 | exact m3 | exact m4 | exact m5 | exact m6 | exact m7 | exact m8) Tryd.underlying46 rfl uinfoJetI (by simp only [List.size_toArray]; first | exact hl0.out | exact hl1.out | exact hu0.out | exact hu1.out) ?_) | (with_reducible refine wpList_loadG F rfl rfl rfl (by first | exact m0 | exact m1 | exact m2 | exact m3 | exact m4 | exact m5 | exact m6 | exact m7 | exact m8) Tryd.underlying42 rfl uinfoJetL (by simp only [List.size_toArray]; first | exact hl0.out | exact hl1.out | exact hu0.out | exact hu1.out) ?_)))
  first | (refine wpAt0 F ?_; clear F; intro wN F) | (refine wpAtN F ?_; clear F; intro wN F)
  refine region_freeD (E := leX) (fun f _ w v => if f = 13 then ∃ (us : List Value) (B : Nat), v = .agg us.toArray ∧ RdL w B (cs0.map CD.cp) us else v = .bool true) (by kernel_rfl) (by kernel_rfl) ?_
  refine wpFreeD_loadG F rfl rfl rfl rfl (by first | exact m0 | exact m1 | exact m2 | exact m3 | exact m4 | exact m5 | exact m6 | exact m7 | exact m8) Tryd.underlying46 rfl uinfoJetI (by simp only [List.size_toArray]; exact hu0.out) ?_
  simp only [Act.put, List.setIfInBounds_toArray, List.set_cons_succ, List.set_cons_zero]
  refine wpFreeD_loadG F rfl rfl rfl rfl (by first | exact m0 | exact m1 | exact m2 | exact m3 | exact m4 | exact m5 | exact m6 | exact m7 | exact m8) Tryd.underlying42 rfl uinfoJetL (by simp only [List.size_toArray]; exact hl0.out) ?_
  simp only [Act.put, List.setIfInBounds_toArray, List.set_cons_succ, List.set_cons_zero]
  refine wpFreeD_callB rfl rfl Tryd.func13 (by kernel_rfl) (by kernel_rfl) (args := #[.agg vs0.toArray]) (by simp [Act.eval]) (fun v w1 w2 hw hv => by simp only [if_true] at hv ⊢; obtain ⟨u, B, h1, h2⟩ := hv; exact ⟨u, B, h1, h2.le hw⟩) (fun w1 hw1 _ => (toU_Jet _ cs0 vs0 w1 (Z0.out.le (le_trans (F.drewN _).below hw1)) K0.out hz0).mono ?_) ?_
  · rintro e w2 ⟨u, rfl, ho, hl⟩
    exact ⟨_, rfl, hl, by simp only [if_true]; exact ⟨u, _, rfl, ho.rd (fun _ hj => hj.2)⟩⟩
  rintro v ⟨_, _, _, hv⟩
  simp only [if_true] at hv
  obtain ⟨u0, Bu0, rfl, _⟩ := hv
  simp only [Act.put, List.setIfInBounds_toArray, List.set_cons_succ, List.set_cons_zero]
  refine wpFreeD_callB rfl rfl Tryd.func15 (by kernel_rfl) (by kernel_rfl) (args := #[.agg usB0.toArray, .agg u0.toArray]) (by simp [Act.eval]) (fun v w1 w2 hw hv => by simp only [show ¬ (15 = 13) by decide, if_false] at hv ⊢; exact hv) (fun w1 hw1 hbe => ?_) ?_
  · have hk := (hbe ⟨2, Ground.data⟩ (by simp) (by kernel_rfl)).2 rfl
    simp only [if_true] at hk
    obtain ⟨u', B', he, hr⟩ := hk
    obtain rfl : u0 = u' := by simpa using he
    refine (eqU_Jet _ _ (cs0.map CD.cp) _ _ _ (((F.drewN 1).le hw1).layR (by first | exact m0 | exact m1 | exact m2 | exact m3 | exact m4 | exact m5 | exact m6 | exact m7 | exact m8)) hr K0.out.cp (by rw [szL_cp]; exact hz0)).mono ?_
    rintro e w2 ⟨rfl, hl⟩
    exact ⟨_, rfl, hl, by simp only [show ¬ (15 = 13) by decide, if_false]⟩
  rintro v ⟨_, _, _, hv⟩
  simp only [show ¬ (15 = 13) by decide, if_false] at hv
  subst hv
  simp only [Act.put, List.setIfInBounds_toArray, List.set_cons_succ, List.set_cons_zero]
  refine wpFreeD_one rfl (.bool false) (fun w1 _ => by kernel_rfl) ?_
  simp only [Act.put, List.setIfInBounds_toArray, List.set_cons_succ, List.set_cons_zero]
  refine wpFreeD_nil (fun wR hwR _ => ?_)
  replace F := (F.drewN 1).le hwR
  clear hwR
  go_wp2_with (first | (((with_reducible refine listN F ?_); clear F; intro wN F)) | ((with_reducible refine at_loadU rfl rfl ?_); first | (with_reducible refine wpList_loadG F rfl rfl rfl (by first | exact m0 | exact m1 | exact m2 | exact m3 | exact m4 | exact m5 | exact m6 | exact m7 | exact m8) Tryd.underlying46 rfl uinfoJetI (by simp only [List.size_toArray]; first | exact hl0.out | exact hl1.out | exact hu0.out | exact hu1.out) ?_) | (with_reducible refine wpList_loadG F rfl rfl rfl (by first | exact m0 | exact m1 | exact m2 | exact m3 | exact m4 | exact m5 | exact m6 | exact m7 | exact m8) Tryd.underlying42 rfl uinfoJetL (by simp only [List.size_toArray]; first | exact hl0.out | exact hl1.out | exact hu0.out | exact hu1.out) ?_)))
  go_ret
  first | exact ⟨rfl, F.below⟩ | exact ⟨rfl, below_drewN F.below _⟩
set_option maxRecDepth 100000 in
set_option maxHeartbeats 4000000 in
theorem large0 (cs0 : List CD) (vs0 : List Value) (w : World) (z0 : RdL w w.heap.size cs0 vs0) (k0 : ShOkL shJet cs0)  (hg : ¬ szL cs0 ≤ 1048576) :
    Calls Tryd.prog 4 #[.agg vs0.toArray] w fun e w' => e = .returned (.bool true) ∧ Below w.heap.size w w' := by
  have Z0 := hid z0; have K0 := hid k0; have hl0 : Hid (vs0.length = 18) := z0.1.trans k0.1; clear z0 k0
  have hn0 : (1048576 : Int) - (szL cs0 : Nat) < 0 := by omega
  have F := Frg.nil w
  replace F := F.box 42 vs0.toArray
  go_enter Tryd.func4, Tryd.ntmps4
  go_wp2_with (first | (((with_reducible refine listN F ?_); clear F; intro wN F)) | ((with_reducible refine at_loadU rfl rfl ?_); first | (with_reducible refine wpList_loadG F rfl rfl rfl (by first | exact m0 | exact m1 | exact m2 | exact m3 | exact m4 | exact m5 | exact m6 | exact m7 | exact m8) Tryd.underlying46 rfl uinfoJetI (by simp only [List.size_toArray]; first | exact hl0.out | exact hl1.out | exact hu0.out | exact hu1.out) ?_) | (with_reducible refine wpList_loadG F rfl rfl rfl (by first | exact m0 | exact m1 | exact m2 | exact m3 | exact m4 | exact m5 | exact m6 | exact m7 | exact m8) Tryd.underlying42 rfl uinfoJetL (by simp only [List.size_toArray]; first | exact hl0.out | exact hl1.out | exact hu0.out | exact hu1.out) ?_)) | (go_at_call 11; ((with_reducible refine (szU_Jet _ cs0 vs0 (1048576 : Int) (-1 : Int) _ (Z0.out.le F.below) K0.out (by omega) (by omega) (lessBy_neg hn0)).mono ?_); rintro e w1 ⟨rfl, hb1⟩; replace F := F.le hb1)))
  go_ret
  first | exact ⟨rfl, F.below⟩ | exact ⟨rfl, below_drewN F.below _⟩
theorem walk (cs0 : List CD) (vs0 : List Value) (w : World) (k0 : HasShL shJet cs0) (z0 : RdL w w.heap.size cs0 vs0) (hT : Tab10 w) :
    Calls Tryd.prog 4 #[.agg vs0.toArray] w fun e w' => e = .returned (.bool true) ∧ Below w.heap.size w w' := by
  by_cases g0 : szL cs0 ≤ 1048576
  · skip
    obtain ⟨ar0, hS, hI⟩ := both_JetText cs0 k0
    exact core cs0 vs0 ar0 w z0 k0.ok hT g0 hS hI
  · exact large0 cs0 vs0 w z0 k0.ok  g0
end Go.Proofs.YtjihkfemejhllaaDoor.fnExactJetText
