/- Texts of the walk, laid in one file. -/
import Derived.Test.YthjdklolbkhbfaaRows
import Derived.Laws.BitsAllLaws
import Derived.Handy
import Derived.Test.YthjdklolbkhbfaaMe
set_option linter.unusedVariables false
set_option linter.unusedSimpArgs false
/- 'ValidBow' of both. -/
namespace Go.Fk
open Go Go.RowKit
def okBow (x y : Nat → Nat) (nx ny : Nat) (j k : Int) (fk : Int) (a b c p q : Nat) (m o : Nat) : Bool := (fk == 1) && okF fk a b c p q && rngB x nx j && rngB y ny k && fin m && fin o
end Go.Fk
namespace Go.Proofs.Ythjdklolbkhbfaa
open Go.RowKit Go.Fk
set_option maxRecDepth 100000 in
set_option maxHeartbeats 4000000 in
@[go_sem] theorem taBow (v : Value) (w : World) : (Instr.typeAssert (.iface 38 v) 116 38 true).run Try.prog w = .ok (.tuple #[v, .bool true]) w := by rfl
set_option maxRecDepth 100000 in
set_option maxHeartbeats 4000000 in
theorem i_filtersBow (s t : Value) (j k fk : Int) (a b c p q m o : Nat) (w : World)  : Calls Try.prog 108 #[.agg #[s, .int .i64 j, t, .int .i64 k, .int .i64 fk, .float .f32 a, .float .f32 b, .float .f32 c, .float .f32 p, .float .f32 q, .float .f32 m, .float .f32 o]] w (OutSl 36 1 #[.int .i64 fk, .float .f32 a, .float .f32 b, .float .f32 c, .float .f32 p, .float .f32 q] w) := by
  have F := (Frg.nil w).box 38 #[s, .int .i64 j, t, .int .i64 k, .int .i64 fk, .float .f32 a, .float .f32 b, .float .f32 c, .float .f32 p, .float .f32 q, .float .f32 m, .float .f32 o]
  go_enter Try.func108, Try.ntmps108
  go_wp2_with (first | ((with_reducible refine at_load rfl ?_); first | (with_reducible refine wpList_loadGP F rfl rfl rfl (by first | exact m0 | exact m1 | exact m2) Try.underlying35 rfl [s, .int .i64 j] (partBow_Neck (s) (.int .i64 j) (t) (.int .i64 k) (.int .i64 fk) (.float .f32 a) (.float .f32 b) (.float .f32 c) (.float .f32 p) (.float .f32 q) (.float .f32 m) (.float .f32 o)) uinfoRingI rfl ?_) | (with_reducible refine wpList_loadGP F rfl rfl rfl (by first | exact m0 | exact m1 | exact m2) Try.underlying35 rfl [t, .int .i64 k] (partBow_Bridge (s) (.int .i64 j) (t) (.int .i64 k) (.int .i64 fk) (.float .f32 a) (.float .f32 b) (.float .f32 c) (.float .f32 p) (.float .f32 q) (.float .f32 m) (.float .f32 o)) uinfoRingI rfl ?_) | (with_reducible refine wpList_loadGP F rfl rfl rfl (by first | exact m0 | exact m1 | exact m2) Try.underlying36 rfl [.int .i64 fk, .float .f32 a, .float .f32 b, .float .f32 c, .float .f32 p, .float .f32 q] (partBow_Damp (s) (.int .i64 j) (t) (.int .i64 k) (.int .i64 fk) (.float .f32 a) (.float .f32 b) (.float .f32 c) (.float .f32 p) (.float .f32 q) (.float .f32 m) (.float .f32 o)) uinfoFilterI rfl ?_) | (with_reducible refine wpList_load1 F rfl rfl rfl (by first | exact m0 | exact m1 | exact m2) (f := 10) (v := .float .f32 m) rfl ukindFloat32 ?_) | (with_reducible refine wpList_load1 F rfl rfl rfl (by first | exact m0 | exact m1 | exact m2) (f := 11) (v := .float .f32 o) rfl ukindFloat32 ?_)))
  go_ret
  exact ⟨w.heap.size + 1, rfl, by omega, Row.new' _ _ _ (by simp), le_trans (le_alloc _ _) (le_alloc _ _)⟩
set_option maxRecDepth 100000 in
set_option maxHeartbeats 4000000 in
theorem i_ringsBow (s t : Value) (j k fk : Int) (a b c p q m o : Nat) (w : World)  : Calls Try.prog 110 #[.agg #[s, .int .i64 j, t, .int .i64 k, .int .i64 fk, .float .f32 a, .float .f32 b, .float .f32 c, .float .f32 p, .float .f32 q, .float .f32 m, .float .f32 o]] w (OutSl 35 2 #[s, .int .i64 j, t, .int .i64 k] w) := by
  have F := (Frg.nil w).box 38 #[s, .int .i64 j, t, .int .i64 k, .int .i64 fk, .float .f32 a, .float .f32 b, .float .f32 c, .float .f32 p, .float .f32 q, .float .f32 m, .float .f32 o]
  go_enter Try.func110, Try.ntmps110
  go_wp2_with (first | ((with_reducible refine at_load rfl ?_); first | (with_reducible refine wpList_loadGP F rfl rfl rfl (by first | exact m0 | exact m1 | exact m2) Try.underlying35 rfl [s, .int .i64 j] (partBow_Neck (s) (.int .i64 j) (t) (.int .i64 k) (.int .i64 fk) (.float .f32 a) (.float .f32 b) (.float .f32 c) (.float .f32 p) (.float .f32 q) (.float .f32 m) (.float .f32 o)) uinfoRingI rfl ?_) | (with_reducible refine wpList_loadGP F rfl rfl rfl (by first | exact m0 | exact m1 | exact m2) Try.underlying35 rfl [t, .int .i64 k] (partBow_Bridge (s) (.int .i64 j) (t) (.int .i64 k) (.int .i64 fk) (.float .f32 a) (.float .f32 b) (.float .f32 c) (.float .f32 p) (.float .f32 q) (.float .f32 m) (.float .f32 o)) uinfoRingI rfl ?_) | (with_reducible refine wpList_loadGP F rfl rfl rfl (by first | exact m0 | exact m1 | exact m2) Try.underlying36 rfl [.int .i64 fk, .float .f32 a, .float .f32 b, .float .f32 c, .float .f32 p, .float .f32 q] (partBow_Damp (s) (.int .i64 j) (t) (.int .i64 k) (.int .i64 fk) (.float .f32 a) (.float .f32 b) (.float .f32 c) (.float .f32 p) (.float .f32 q) (.float .f32 m) (.float .f32 o)) uinfoFilterI rfl ?_) | (with_reducible refine wpList_load1 F rfl rfl rfl (by first | exact m0 | exact m1 | exact m2) (f := 10) (v := .float .f32 m) rfl ukindFloat32 ?_) | (with_reducible refine wpList_load1 F rfl rfl rfl (by first | exact m0 | exact m1 | exact m2) (f := 11) (v := .float .f32 o) rfl ukindFloat32 ?_)))
  go_ret
  exact ⟨w.heap.size + 1, rfl, by omega, Row.new' _ _ _ (by simp), le_trans (le_alloc _ _) (le_alloc _ _)⟩
set_option maxRecDepth 100000 in
set_option maxHeartbeats 4000000 in
theorem i_numbersBow (s t : Value) (j k fk : Int) (a b c p q m o : Nat) (w : World)  : Calls Try.prog 109 #[.agg #[s, .int .i64 j, t, .int .i64 k, .int .i64 fk, .float .f32 a, .float .f32 b, .float .f32 c, .float .f32 p, .float .f32 q, .float .f32 m, .float .f32 o]] w (OutSl 25 2 #[.float .f32 m, .float .f32 o] w) := by
  have F := (Frg.nil w).box 38 #[s, .int .i64 j, t, .int .i64 k, .int .i64 fk, .float .f32 a, .float .f32 b, .float .f32 c, .float .f32 p, .float .f32 q, .float .f32 m, .float .f32 o]
  go_enter Try.func109, Try.ntmps109
  go_wp2_with (first | ((with_reducible refine at_load rfl ?_); first | (with_reducible refine wpList_loadGP F rfl rfl rfl (by first | exact m0 | exact m1 | exact m2) Try.underlying35 rfl [s, .int .i64 j] (partBow_Neck (s) (.int .i64 j) (t) (.int .i64 k) (.int .i64 fk) (.float .f32 a) (.float .f32 b) (.float .f32 c) (.float .f32 p) (.float .f32 q) (.float .f32 m) (.float .f32 o)) uinfoRingI rfl ?_) | (with_reducible refine wpList_loadGP F rfl rfl rfl (by first | exact m0 | exact m1 | exact m2) Try.underlying35 rfl [t, .int .i64 k] (partBow_Bridge (s) (.int .i64 j) (t) (.int .i64 k) (.int .i64 fk) (.float .f32 a) (.float .f32 b) (.float .f32 c) (.float .f32 p) (.float .f32 q) (.float .f32 m) (.float .f32 o)) uinfoRingI rfl ?_) | (with_reducible refine wpList_loadGP F rfl rfl rfl (by first | exact m0 | exact m1 | exact m2) Try.underlying36 rfl [.int .i64 fk, .float .f32 a, .float .f32 b, .float .f32 c, .float .f32 p, .float .f32 q] (partBow_Damp (s) (.int .i64 j) (t) (.int .i64 k) (.int .i64 fk) (.float .f32 a) (.float .f32 b) (.float .f32 c) (.float .f32 p) (.float .f32 q) (.float .f32 m) (.float .f32 o)) uinfoFilterI rfl ?_) | (with_reducible refine wpList_load1 F rfl rfl rfl (by first | exact m0 | exact m1 | exact m2) (f := 10) (v := .float .f32 m) rfl ukindFloat32 ?_) | (with_reducible refine wpList_load1 F rfl rfl rfl (by first | exact m0 | exact m1 | exact m2) (f := 11) (v := .float .f32 o) rfl ukindFloat32 ?_)))
  go_ret
  exact ⟨w.heap.size + 1, rfl, by omega, Row.new' _ _ _ (by simp), le_trans (le_alloc _ _) (le_alloc _ _)⟩
def wordVBow : ByteArray := ⟨#[98, 111, 119]⟩
set_option maxRecDepth 100000 in
set_option maxHeartbeats 4000000 in
theorem i_wordBow (v : Value) (w : World) : Calls Try.prog 70 #[.iface 38 v] w fun e w' => ∃ g, e = .returned (.tuple #[.string wordVBow, .slice (some ⟨g, 0, none⟩) 1 1]) ∧ w.heap.size ≤ g ∧ Row w' g 2 #[.int .i64 1] ∧ le w w' := by
  go_enter Try.func70, Try.ntmps70
  go_wp2
  go_ret2
  exact ⟨w.heap.size, rfl, Nat.le_refl _, Row.new _ _ _, le_alloc _ _⟩
theorem rngAt0 (s t : Value) (j k : Int) : ∀ q, q < [s, .int .i64 j].length → (#[s, .int .i64 j, t, .int .i64 k] : Array Value)[0 + q]? = [s, .int .i64 j][q]? := fun q hq => by match q, hq with | 0, _ => rfl | 1, _ => rfl
theorem rngAt1 (s t : Value) (j k : Int) : ∀ q, q < [t, .int .i64 k].length → (#[s, .int .i64 j, t, .int .i64 k] : Array Value)[2 + q]? = [t, .int .i64 k][q]? := fun q hq => by match q, hq with | 0, _ => rfl | 1, _ => rfl
theorem filAtBow0 (fk : Int) (a b c p q : Nat) : ∀ j, j < ([.int .i64 fk, .float .f32 a, .float .f32 b, .float .f32 c, .float .f32 p, .float .f32 q] : List Value).length → (#[.int .i64 fk, .float .f32 a, .float .f32 b, .float .f32 c, .float .f32 p, .float .f32 q] : Array Value)[0 + j]? = ([.int .i64 fk, .float .f32 a, .float .f32 b, .float .f32 c, .float .f32 p, .float .f32 q] : List Value)[j]? := fun j hj => by match j, hj with | 0, _ => rfl | 1, _ => rfl | 2, _ => rfl | 3, _ => rfl | 4, _ => rfl | 5, _ => rfl
set_option maxRecDepth 100000 in
set_option maxHeartbeats 4000000 in
theorem i_validPartsBow (x y : Nat → Nat) (nx ny : Nat) (j k : Int) (fk : Int) (a b c p q : Nat) (m o : Nat) (B : Nat) (s t : Value) (w : World) (hs : (slT x nx).RdN w B s) (ht : (slT y ny).RdN w B t) (wf : (Lit.int .i64 j).wf = true ∧ (Lit.int .i64 k).wf = true) (hf : (fits .f32 a ∧ fits .f32 b ∧ fits .f32 c ∧ fits .f32 p ∧ fits .f32 q ∧ fits .f32 m ∧ fits .f32 o)) :
    Calls Try.prog 50 #[.iface 38 (.agg #[s, .int .i64 j, t, .int .i64 k, .int .i64 fk, .float .f32 a, .float .f32 b, .float .f32 c, .float .f32 p, .float .f32 q, .float .f32 m, .float .f32 o])] w (Out_b (okBow x y nx ny j k fk a b c p q m o) w) := by
  obtain ⟨fa, fb, fc, fp, fq, fm, fo⟩ := hf
  obtain ⟨wj, wk⟩ := wf
  have HV0 := hid (fun w' => i_ValidFilter fk a b c p q w' ⟨fa, fb, fc, fp, fq⟩)
  have HX := hid (fun (w' : World) (hl : le w w') => i_isFiniteRing B s x nx j w' ((slT_rds hs).le hl))
  have HY := hid (fun (w' : World) (hl : le w w') => i_isFiniteRing B t y ny k w' ((slT_rds ht).le hl))
  have HN := hid (fun (b : Nat) (w' : World) (R : Row w' b 25 #[.float .f32 m, .float .f32 o]) => i_areFiniteQ (b + 1) (.slice (some ⟨b, 0, none⟩) 2 2) (two m o) 2 w' (two_rd fm fo R))
  have HW := hid (fun (w' : World) => i_wordBow (.agg #[s, .int .i64 j, t, .int .i64 k, .int .i64 fk, .float .f32 a, .float .f32 b, .float .f32 c, .float .f32 p, .float .f32 q, .float .f32 m, .float .f32 o]) w')
  have HF := hid (fun (w' : World) => i_filtersBow s t j k fk a b c p q m o w')
  have HR := hid (fun (w' : World) => i_ringsBow s t j k fk a b c p q m o w')
  have HM := hid (fun (w' : World) => i_numbersBow s t j k fk a b c p q m o w')
  have SO0 := hid (slT_rds hs).one; have SO1 := hid (slT_rds ht).one
  clear hs ht wj wk fa fb fc fp fq fm fo
  change Calls _ _ _ _ (Out_b ((fk == 1) && okF fk a b c p q && rngB x nx j && rngB y ny k && fin m && fin o) w)
  rw [show ((fk == 1) && okF fk a b c p q && rngB x nx j && rngB y ny k && fin m && fin o) = ((fk == 1) && okF fk a b c p q && rngB x nx j && rngB y ny k && finB (two m o) 2) by rw [fin_two, ← Bool.and_assoc]]
  go_enter Try.func50, Try.ntmps50
  have F := Frg.nil w
  go_wp2_with (first | (go_at_call 70; ((with_reducible refine (HW.out _).mono ?_); rintro e w1 ⟨gK, rfl, hgK, hrK, hlK⟩; replace F := F.rowS hlK hgK hrK; clear hgK hrK hlK)) | (go_at_call 108; ((with_reducible refine (HF.out _).mono ?_); rintro e w2 ⟨gF, rfl, hgF, hrF, hlF⟩; replace F := F.rowS hlF hgF hrF; clear hgF hrF hlF)))
  go_loopw [17] (fun i wr => ∃ n : Nat, n ≤ 1 ∧ i = .int .i64 n ∧ Hid ((0 < n → (fk == 1) = true ∧ okF fk a b c p q = true)) ∧ Hid (Frg w wr [rowF gF 36 #[.int .i64 fk, .float .f32 a, .float .f32 b, .float .f32 c, .float .f32 p, .float .f32 q], rowF gK 2 #[.int .i64 1]])) (fun i _ => 1 - (intOf i).toNat)
  case atStart => exact ⟨0, by omega, rfl, fun h => absurd h (by omega), F⟩
  case round =>
    clear F
    obtain ⟨n, hn, rfl, HP, HF0⟩ := hrel
    rename_i wr _
    match n, hn with
    | 0, _ =>
      have F := HF0.out
      go_wp2_with (first | ((with_reducible refine listN F ?_); clear F; intro wN F) | (with_reducible refine wpList_indexW0 (i := 0) rfl rfl rfl rfl Try.underlying120 uinfoFilterI (by decide) ?_) | ((with_reducible refine at_load rfl ?_); (with_reducible refine wpList_loadGP F rfl rfl rfl (by first | exact m0 | exact m1 | exact m2 | exact m3 | exact m4 | exact m5 | exact m6 | exact m7) Try.underlying36 rfl [.int .i64 fk, .float .f32 a, .float .f32 b, .float .f32 c, .float .f32 p, .float .f32 q] (filAtBow0 fk a b c p q) uinfoFilterI rfl ?_)))
      replace F := F.box 36 #[.int .i64 fk, .float .f32 a, .float .f32 b, .float .f32 c, .float .f32 p, .float .f32 q]
      cases hc : (fk == 1)
      · have hne := hid (show (fk != 1) = true by rw [bne, hc]; rfl)
        have hp0 := HP.out
        have E := hid (show ((fk == 1) && okF fk a b c p q && rngB x nx j && rngB y ny k && finB (two m o) 2) = false by simp [hc])
        clear hc hp0
        refine region_freeD (E := leX) (fun _ _ _ v => v = .bool false) (by kernel_rfl) (by kernel_rfl) ?_
        refine wpFreeD_one rfl (.pointer (some ⟨wr.heap.size, 0, none⟩)) (fun w1 _ => by kernel_rfl) ?_
        simp only [Act.put, List.setIfInBounds_toArray, List.set_cons_succ, List.set_cons_zero]
        refine wpFreeD_load1 rfl rfl rfl (p := ⟨wr.heap.size, 0, none⟩) (fun w1 h1 => (((F.drewN 1).le h1).row m0).cell? 0) ukindInt64 ?_
        simp only [Act.put, List.setIfInBounds_toArray, List.set_cons_succ, List.set_cons_zero]
        refine wpFreeD_one rfl (.slice (some ⟨gK, 0, none⟩) 1 1) (fun w1 _ => by kernel_rfl) ?_
        simp only [Act.put, List.setIfInBounds_toArray, List.set_cons_succ, List.set_cons_zero]
        refine wpFreeD_one rfl (.int .i64 0) (fun w1 _ => by kernel_rfl) ?_
        simp only [Act.put, List.setIfInBounds_toArray, List.set_cons_succ, List.set_cons_zero]
        refine wpFreeD_indexW0 rfl rfl (i := 0) rfl rfl Try.underlying117 uinfo1Int64 (by decide) ?_
        simp only [Act.put, List.setIfInBounds_toArray, List.set_cons_succ, List.set_cons_zero]
        refine wpFreeD_load1 rfl rfl rfl (p := ⟨gK, 0 + 0 * 1, none⟩) (fun w1 h1 => (((F.drewN 1).le h1).row m2).cell? 0) ukindInt64 ?_
        simp only [Act.put, List.setIfInBounds_toArray, List.set_cons_succ, List.set_cons_zero]
        refine wpFreeD_one rfl (.bool (fk != 1)) (fun w1 _ => by kernel_rfl) ?_
        simp only [Act.put, List.setIfInBounds_toArray, List.set_cons_succ, List.set_cons_zero]
        rw [hne.out]
        refine wpFreeD_one rfl (.bool true) (fun w1 _ => by kernel_rfl) ?_
        simp only [Act.put, List.setIfInBounds_toArray, List.set_cons_succ, List.set_cons_zero]
        refine wpFreeD_skip (by kernel_rfl) ?_
        simp only [Act.put, List.setIfInBounds_toArray, List.set_cons_succ, List.set_cons_zero]
        refine wpFreeD_skip (by kernel_rfl) ?_
        simp only [Act.put, List.setIfInBounds_toArray, List.set_cons_succ, List.set_cons_zero]
        refine wpFreeD_skip (by kernel_rfl) ?_
        simp only [Act.put, List.setIfInBounds_toArray, List.set_cons_succ, List.set_cons_zero]
        refine wpFreeD_one rfl (.bool true) (fun w1 _ => by kernel_rfl) ?_
        simp only [Act.put, List.setIfInBounds_toArray, List.set_cons_succ, List.set_cons_zero]
        refine wpFreeD_nil (fun wR hwR _ => ?_)
        replace F := (F.drewN 1).le hwR
        clear hwR
        go_wp2
        go_ret
        exact ⟨ret_b E.out.symm, F.below⟩
      have hne := hid (show (fk != 1) = false by rw [bne, hc]; rfl)
      cases hk : okF fk a b c p q
      · rw [hk] at HV0
        have hp0 := HP.out
        have E := hid (show ((fk == 1) && okF fk a b c p q && rngB x nx j && rngB y ny k && finB (two m o) 2) = false by simp [hk])
        clear hc hk hp0
        refine region_freeD (E := leX) (fun _ _ _ v => v = .bool false) (by kernel_rfl) (by kernel_rfl) ?_
        refine wpFreeD_one rfl (.pointer (some ⟨wr.heap.size, 0, none⟩)) (fun w1 _ => by kernel_rfl) ?_
        simp only [Act.put, List.setIfInBounds_toArray, List.set_cons_succ, List.set_cons_zero]
        refine wpFreeD_load1 rfl rfl rfl (p := ⟨wr.heap.size, 0, none⟩) (fun w1 h1 => (((F.drewN 1).le h1).row m0).cell? 0) ukindInt64 ?_
        simp only [Act.put, List.setIfInBounds_toArray, List.set_cons_succ, List.set_cons_zero]
        refine wpFreeD_one rfl (.slice (some ⟨gK, 0, none⟩) 1 1) (fun w1 _ => by kernel_rfl) ?_
        simp only [Act.put, List.setIfInBounds_toArray, List.set_cons_succ, List.set_cons_zero]
        refine wpFreeD_one rfl (.int .i64 0) (fun w1 _ => by kernel_rfl) ?_
        simp only [Act.put, List.setIfInBounds_toArray, List.set_cons_succ, List.set_cons_zero]
        refine wpFreeD_indexW0 rfl rfl (i := 0) rfl rfl Try.underlying117 uinfo1Int64 (by decide) ?_
        simp only [Act.put, List.setIfInBounds_toArray, List.set_cons_succ, List.set_cons_zero]
        refine wpFreeD_load1 rfl rfl rfl (p := ⟨gK, 0 + 0 * 1, none⟩) (fun w1 h1 => (((F.drewN 1).le h1).row m2).cell? 0) ukindInt64 ?_
        simp only [Act.put, List.setIfInBounds_toArray, List.set_cons_succ, List.set_cons_zero]
        refine wpFreeD_one rfl (.bool (fk != 1)) (fun w1 _ => by kernel_rfl) ?_
        simp only [Act.put, List.setIfInBounds_toArray, List.set_cons_succ, List.set_cons_zero]
        rw [hne.out]
        refine wpFreeD_one rfl (.bool false) (fun w1 _ => by kernel_rfl) ?_
        simp only [Act.put, List.setIfInBounds_toArray, List.set_cons_succ, List.set_cons_zero]
        refine wpFreeD_loadGW F rfl (by kernel_rfl) rfl rfl m0 Try.underlying36 rfl uinfoFilterI rfl ?_
        simp only [Act.put, List.setIfInBounds_toArray, List.set_cons_succ, List.set_cons_zero]
        refine wpFreeD_callW (by kernel_rfl) rfl Try.func71 (by kernel_rfl) (by kernel_rfl) (args := #[.agg #[.int .i64 fk, .float .f32 a, .float .f32 b, .float .f32 c, .float .f32 p, .float .f32 q]]) (by simp [Act.eval]) (fun v w1 w2 hw hv => hv) (fun w1 hw1 _ => (HV0.out w1).mono ?_) ?_
        · rintro e w2 ⟨rfl, hl⟩
          exact ⟨_, rfl, hl, rfl⟩
        rintro v ⟨_, _, _, rfl⟩
        simp only [Act.put, List.setIfInBounds_toArray, List.set_cons_succ, List.set_cons_zero]
        refine wpFreeD_oneW (by kernel_rfl) (.bool true) (fun w1 _ => by kernel_rfl) ?_
        simp only [Act.put, List.setIfInBounds_toArray, List.set_cons_succ, List.set_cons_zero]
        refine wpFreeD_one rfl (.bool true) (fun w1 _ => by kernel_rfl) ?_
        simp only [Act.put, List.setIfInBounds_toArray, List.set_cons_succ, List.set_cons_zero]
        refine wpFreeD_nil (fun wR hwR _ => ?_)
        replace F := (F.drewN 1).le hwR
        clear hwR
        go_wp2
        go_ret
        exact ⟨ret_b E.out.symm, F.below⟩
      · rw [hk] at HV0
        have hkk := hid hk; have hcc := hid hc
        clear hc hk
        refine region_freeD (E := leX) (fun _ _ _ v => v = .bool true) (by kernel_rfl) (by kernel_rfl) ?_
        refine wpFreeD_one rfl (.pointer (some ⟨wr.heap.size, 0, none⟩)) (fun w1 _ => by kernel_rfl) ?_
        simp only [Act.put, List.setIfInBounds_toArray, List.set_cons_succ, List.set_cons_zero]
        refine wpFreeD_load1 rfl rfl rfl (p := ⟨wr.heap.size, 0, none⟩) (fun w1 h1 => (((F.drewN 1).le h1).row m0).cell? 0) ukindInt64 ?_
        simp only [Act.put, List.setIfInBounds_toArray, List.set_cons_succ, List.set_cons_zero]
        refine wpFreeD_one rfl (.slice (some ⟨gK, 0, none⟩) 1 1) (fun w1 _ => by kernel_rfl) ?_
        simp only [Act.put, List.setIfInBounds_toArray, List.set_cons_succ, List.set_cons_zero]
        refine wpFreeD_one rfl (.int .i64 0) (fun w1 _ => by kernel_rfl) ?_
        simp only [Act.put, List.setIfInBounds_toArray, List.set_cons_succ, List.set_cons_zero]
        refine wpFreeD_indexW0 rfl rfl (i := 0) rfl rfl Try.underlying117 uinfo1Int64 (by decide) ?_
        simp only [Act.put, List.setIfInBounds_toArray, List.set_cons_succ, List.set_cons_zero]
        refine wpFreeD_load1 rfl rfl rfl (p := ⟨gK, 0 + 0 * 1, none⟩) (fun w1 h1 => (((F.drewN 1).le h1).row m2).cell? 0) ukindInt64 ?_
        simp only [Act.put, List.setIfInBounds_toArray, List.set_cons_succ, List.set_cons_zero]
        refine wpFreeD_one rfl (.bool (fk != 1)) (fun w1 _ => by kernel_rfl) ?_
        simp only [Act.put, List.setIfInBounds_toArray, List.set_cons_succ, List.set_cons_zero]
        rw [hne.out]
        refine wpFreeD_one rfl (.bool false) (fun w1 _ => by kernel_rfl) ?_
        simp only [Act.put, List.setIfInBounds_toArray, List.set_cons_succ, List.set_cons_zero]
        refine wpFreeD_loadGW F rfl (by kernel_rfl) rfl rfl m0 Try.underlying36 rfl uinfoFilterI rfl ?_
        simp only [Act.put, List.setIfInBounds_toArray, List.set_cons_succ, List.set_cons_zero]
        refine wpFreeD_callW (by kernel_rfl) rfl Try.func71 (by kernel_rfl) (by kernel_rfl) (args := #[.agg #[.int .i64 fk, .float .f32 a, .float .f32 b, .float .f32 c, .float .f32 p, .float .f32 q]]) (by simp [Act.eval]) (fun v w1 w2 hw hv => hv) (fun w1 hw1 _ => (HV0.out w1).mono ?_) ?_
        · rintro e w2 ⟨rfl, hl⟩
          exact ⟨_, rfl, hl, rfl⟩
        rintro v ⟨_, _, _, rfl⟩
        simp only [Act.put, List.setIfInBounds_toArray, List.set_cons_succ, List.set_cons_zero]
        refine wpFreeD_oneW (by kernel_rfl) (.bool false) (fun w1 _ => by kernel_rfl) ?_
        simp only [Act.put, List.setIfInBounds_toArray, List.set_cons_succ, List.set_cons_zero]
        refine wpFreeD_one rfl (.bool false) (fun w1 _ => by kernel_rfl) ?_
        simp only [Act.put, List.setIfInBounds_toArray, List.set_cons_succ, List.set_cons_zero]
        refine wpFreeD_nil (fun wR hwR _ => ?_)
        replace F := (F.drewN 1).le hwR
        clear hwR
        go_wp2
        go_roundw
        case rel => exact ⟨1, by omega, by go_num, fun _ => ⟨hcc.out, hkk.out⟩, F.tl⟩
        case measure => simp [intOf]
    | 1, _ =>
      have F := HF0.out
      clear HF0
      go_wp2_with (first | (go_at_call 110; ((with_reducible refine (HR.out _).mono ?_); rintro e w3 ⟨gR, rfl, hgR, hrR, hlR⟩; replace F := F.rowS hlR hgR hrR; clear hgR hrR hlR)))
      go_loopw [38] (fun i wr => ∃ n : Nat, n ≤ 2 ∧ i = .int .i64 n ∧ Hid ((0 < n → rngB x nx j = true) ∧ (1 < n → rngB y ny k = true)) ∧ Hid (Frg w wr [rowF gR 35 #[s, .int .i64 j, t, .int .i64 k]])) (fun i _ => 2 - (intOf i).toNat)
      case atStart => exact ⟨0, by omega, rfl, ⟨fun h => absurd h (by omega), fun h => absurd h (by omega)⟩, F.sub (by simp)⟩
      case round =>
        clear F
        obtain ⟨n, hn, rfl, HQ, HF1⟩ := hrel
        match n, hn with
        | 0, _ =>
          have F := HF1.out
          cases hk : rngB x nx j
          · have hk2 : rngB x nx j = false := hk
            unfold rngB at hk
            rw [hk] at HX
            obtain ⟨hq0, hq1⟩ := HQ.out
            have hp0 := HP.out
            clear hk hk2 hq0 hq1 hp0
            go_wp2_with (first | ((with_reducible refine listN F ?_); clear F; intro wN F) | (with_reducible refine wpList_indexW0 (i := 0) rfl rfl rfl rfl Try.underlying74 uinfoRingI (by decide) ?_) | ((with_reducible refine at_load rfl ?_); first | (with_reducible refine wpList_loadGP F rfl rfl rfl m0 Try.underlying35 rfl [s, .int .i64 j] (rngAt0 _ _ _ _) uinfoRingI rfl ?_) | (with_reducible refine wpList_loadG F rfl rfl rfl m0 Try.underlying35 rfl uinfoRingI rfl ?_)) | ((with_reducible refine at_store rfl ?_); (refine wpList_storeG F rfl rfl rfl rfl rfl uinfoRingI rfl (by (simp only [List.all_toArray', List.all_cons, List.all_nil, Bool.and_true, Bool.true_and, SO0.out]) <;> rfl) ?_; clear F; intro W F zW; clear zW)) | (go_at_call 72; ((with_reducible refine (HX.out _ F.below).mono ?_); rintro e w1 ⟨rfl, hl⟩; replace F := F.le hl; clear hl)))
            go_ret
            exact ⟨ret_b (by simp), F.below⟩
          · have hk2 := hid hk
            unfold rngB at hk
            rw [hk] at HX
            clear hk
            go_wp2_with (first | ((with_reducible refine listN F ?_); clear F; intro wN F) | (with_reducible refine wpList_indexW0 (i := 0) rfl rfl rfl rfl Try.underlying74 uinfoRingI (by decide) ?_) | ((with_reducible refine at_load rfl ?_); first | (with_reducible refine wpList_loadGP F rfl rfl rfl m0 Try.underlying35 rfl [s, .int .i64 j] (rngAt0 _ _ _ _) uinfoRingI rfl ?_) | (with_reducible refine wpList_loadG F rfl rfl rfl m0 Try.underlying35 rfl uinfoRingI rfl ?_)) | ((with_reducible refine at_store rfl ?_); (refine wpList_storeG F rfl rfl rfl rfl rfl uinfoRingI rfl (by (simp only [List.all_toArray', List.all_cons, List.all_nil, Bool.and_true, Bool.true_and, SO0.out]) <;> rfl) ?_; clear F; intro W F zW; clear zW)) | (go_at_call 72; ((with_reducible refine (HX.out _ F.below).mono ?_); rintro e w1 ⟨rfl, hl⟩; replace F := F.le hl; clear hl)))
            go_roundw
            case rel => exact ⟨1, by omega, by go_num, ⟨fun _ => trivial, fun h => absurd h (by omega)⟩, F.sub (by simp)⟩
            case measure => simp [intOf]
        | 1, _ =>
          have F := HF1.out
          cases hk : rngB y ny k
          · have hk2 : rngB y ny k = false := hk
            unfold rngB at hk
            rw [hk] at HY
            obtain ⟨hq0, hq1⟩ := HQ.out
            have hp0 := HP.out
            clear hk hk2 hq0 hq1 hp0
            go_wp2_with (first | ((with_reducible refine listN F ?_); clear F; intro wN F) | (with_reducible refine wpList_indexW0 (i := 1) rfl rfl rfl rfl Try.underlying74 uinfoRingI (by decide) ?_) | ((with_reducible refine at_load rfl ?_); first | (with_reducible refine wpList_loadGP F rfl rfl rfl m0 Try.underlying35 rfl [t, .int .i64 k] (rngAt1 _ _ _ _) uinfoRingI rfl ?_) | (with_reducible refine wpList_loadG F rfl rfl rfl m0 Try.underlying35 rfl uinfoRingI rfl ?_)) | ((with_reducible refine at_store rfl ?_); (refine wpList_storeG F rfl rfl rfl rfl rfl uinfoRingI rfl (by (simp only [List.all_toArray', List.all_cons, List.all_nil, Bool.and_true, Bool.true_and, SO1.out]) <;> rfl) ?_; clear F; intro W F zW; clear zW)) | (go_at_call 72; ((with_reducible refine (HY.out _ F.below).mono ?_); rintro e w1 ⟨rfl, hl⟩; replace F := F.le hl; clear hl)))
            go_ret
            exact ⟨ret_b (by simp), F.below⟩
          · have hk2 := hid hk
            unfold rngB at hk
            rw [hk] at HY
            clear hk
            go_wp2_with (first | ((with_reducible refine listN F ?_); clear F; intro wN F) | (with_reducible refine wpList_indexW0 (i := 1) rfl rfl rfl rfl Try.underlying74 uinfoRingI (by decide) ?_) | ((with_reducible refine at_load rfl ?_); first | (with_reducible refine wpList_loadGP F rfl rfl rfl m0 Try.underlying35 rfl [t, .int .i64 k] (rngAt1 _ _ _ _) uinfoRingI rfl ?_) | (with_reducible refine wpList_loadG F rfl rfl rfl m0 Try.underlying35 rfl uinfoRingI rfl ?_)) | ((with_reducible refine at_store rfl ?_); (refine wpList_storeG F rfl rfl rfl rfl rfl uinfoRingI rfl (by (simp only [List.all_toArray', List.all_cons, List.all_nil, Bool.and_true, Bool.true_and, SO1.out]) <;> rfl) ?_; clear F; intro W F zW; clear zW)) | (go_at_call 72; ((with_reducible refine (HY.out _ F.below).mono ?_); rintro e w1 ⟨rfl, hl⟩; replace F := F.le hl; clear hl)))
            go_roundw
            case rel => exact ⟨2, by omega, by go_num, ⟨fun _ => HQ.out.1 (by omega), fun _ => trivial⟩, F.sub (by simp)⟩
            case measure => simp [intOf]
        | 2, _ =>
          have F := HF1.out
          obtain ⟨hq0, hq1⟩ := HQ.out
          have hp0 := HP.out
          have E := hid (show ((fk == 1) && okF fk a b c p q && rngB x nx j && rngB y ny k && finB (two m o) 2) = finB (two m o) 2 by simp [(hp0 (by omega)).1, (hp0 (by omega)).2, hq0 (by omega), hq1 (by omega)])
          clear hq0 hq1 hp0
          go_wp2_with (first | (go_at_call 109; ((with_reducible refine (HM.out _).mono ?_); rintro e w3 ⟨gM, rfl, hgM, hrM, hlM⟩; replace F := F.rowS hlM hgM hrM; clear hgM hrM hlM)) | (go_at_call 73; ((with_reducible refine (HN.out _ _ (F.row m0)).mono ?_); rintro e w1 ⟨rfl, rfl⟩)))
          go_ret
          exact ⟨ret_b E.out.symm, F.below⟩
set_option maxRecDepth 100000 in
set_option maxHeartbeats 4000000 in
theorem i_ValidBow (x y : Nat → Nat) (nx ny : Nat) (j k : Int) (fk : Int) (a b c p q : Nat) (m o : Nat) (B : Nat) (s t : Value) (w : World) (hs : (slT x nx).RdN w B s) (ht : (slT y ny).RdN w B t) (wf : (Lit.int .i64 j).wf = true ∧ (Lit.int .i64 k).wf = true) (hf : (fits .f32 a ∧ fits .f32 b ∧ fits .f32 c ∧ fits .f32 p ∧ fits .f32 q ∧ fits .f32 m ∧ fits .f32 o)) :
    Calls Try.prog 29 #[.agg #[s, .int .i64 j, t, .int .i64 k, .int .i64 fk, .float .f32 a, .float .f32 b, .float .f32 c, .float .f32 p, .float .f32 q, .float .f32 m, .float .f32 o]] w (Out_b (okBow x y nx ny j k fk a b c p q m o) w) := by
  have HV := hid (fun (w' : World) (hl : le w w') => i_validPartsBow x y nx ny j k fk a b c p q m o B s t w' (hs.le hl) (ht.le hl) wf hf)
  have F := (Frg.nil w).box 38 #[s, .int .i64 j, t, .int .i64 k, .int .i64 fk, .float .f32 a, .float .f32 b, .float .f32 c, .float .f32 p, .float .f32 q, .float .f32 m, .float .f32 o]
  clear hs ht wf hf
  go_enter Try.func29, Try.ntmps29
  go_wp2_with (first | ((with_reducible refine at_loadU rfl rfl ?_); (with_reducible refine wpList_loadG F rfl rfl rfl m0 Try.underlying38 rfl uinfoBowI rfl ?_)) | (go_at_call 50; ((with_reducible refine (HV.out _ F.below).mono ?_); rintro e w1 ⟨rfl, hl⟩; replace F := F.le hl; clear hl)))
  go_ret
  exact ⟨rfl, F.below⟩
set_option maxRecDepth 100000 in
set_option maxHeartbeats 4000000 in
theorem s_l05Bow (x y : Nat → Nat) (nx ny : Nat) (j k : Int) (fk : Int) (a b c p q : Nat) (m o : Nat) (B : Nat) (s t : Value) (w : World) (g0 : Nat) (RR : Row w g0 38 #[s, .int .i64 j, t, .int .i64 k, .int .i64 fk, .float .f32 a, .float .f32 b, .float .f32 c, .float .f32 p, .float .f32 q, .float .f32 m, .float .f32 o]) (hs : (slT x nx).RdN w B s) (ht : (slT y ny).RdN w B t) (wf : (Lit.int .i64 j).wf = true ∧ (Lit.int .i64 k).wf = true) (hf : (fits .f32 a ∧ fits .f32 b ∧ fits .f32 c ∧ fits .f32 p ∧ fits .f32 q ∧ fits .f32 m ∧ fits .f32 o)) :
    Calls Try.prog 23 #[.pointer (some ⟨g0, 0, none⟩)] w (Out_b (okBow x y nx ny j k fk a b c p q m o) w) := by
  obtain ⟨fa, fb, fc, fp, fq, fm, fo⟩ := hf
  obtain ⟨wj, wk⟩ := wf
  have hRw := hid (fun (w1 : World) (h1 : le w w1) => RR.le h1)
  have HRD := hid (fun (b : Nat) (w1 : World) (h1 : le w w1) (R : Row w1 b 35 #[s, .int .i64 j, t, .int .i64 k]) => rg2_rd (hs.le h1) (ht.le h1) wj wk R)
  have HN := hid (fun (b : Nat) (w' : World) (R : Row w' b 25 #[.float .f32 m, .float .f32 o]) => s_l04All (b + 1) (.slice (some ⟨b, 0, none⟩) 2 2) (two m o) 2 w' (two_rd fm fo R))
  have HO0 := hid (fun (w' : World) (hl : le w w') => s_OkAt fk a b c p q g0 4 w' ⟨(hRw.out w' hl).cell? 4, fun i hi => by match i, hi with | 0, _ => exact (hRw.out w' hl).cell? 5 | 1, _ => exact (hRw.out w' hl).cell? 6 | 2, _ => exact (hRw.out w' hl).cell? 7, fun i hi => by match i, hi with | 0, _ => exact (hRw.out w' hl).cell? 8 | 1, _ => exact (hRw.out w' hl).cell? 9⟩)
  clear hs ht wj wk RR fa fb fc fp fq fm fo
  change Calls _ _ _ _ (Out_b ((fk == 1) && okF fk a b c p q && rngB x nx j && rngB y ny k && fin m && fin o) w)
  rw [show ((fk == 1) && okF fk a b c p q && rngB x nx j && rngB y ny k && fin m && fin o) = ((fk == 1) && okF fk a b c p q && rngB x nx j && rngB y ny k && finB (two m o) 2) by rw [fin_two, ← Bool.and_assoc]]
  rcases bool_ft ((rngB x nx j && rngB y ny k)) with h0 | h0
  · have hc0 := hid h0
    have E := hid (show ((fk == 1) && okF fk a b c p q && rngB x nx j && rngB y ny k && finB (two m o) 2) = false by have h0' := h0; simp only [Bool.and_eq_false_iff] at h0'; rcases h0' with h | h <;> simp [h])
    clear h0
    go_enter Try.func23, Try.ntmps23
    go_wp2_with fail
    refine region_freeD (E := leX) (fun f args _ v => if f = 42 then v = .bool false else if f = 43 then (args = #[.pointer (some ⟨g0, 4, none⟩)] → v = .bool false) else v = .bool (finB (two m o) 2)) (by kernel_rfl) (by kernel_rfl) ?_
    refine wpFreeD_one rfl (.pointer (some ⟨g0, 0, none⟩)) (fun w1 _ => by kernel_rfl) ?_
    simp only [Act.put, List.setIfInBounds_toArray, List.set_cons_succ, List.set_cons_zero]
    refine wpFreeD_one rfl (.pointer (some ⟨g0, 0, none⟩)) (fun w1 _ => by kernel_rfl) ?_
    simp only [Act.put, List.setIfInBounds_toArray, List.set_cons_succ, List.set_cons_zero]
    refine wpFreeD_one rfl (.pointer (some ⟨g0, 0, none⟩)) (fun w1 _ => by kernel_rfl) ?_
    simp only [Act.put, List.setIfInBounds_toArray, List.set_cons_succ, List.set_cons_zero]
    refine wpFreeD_loadW rfl rfl rfl [s, .int .i64 j] (fun w1 h1 => Row.at_part (hRw.out w1 (le_trans (le_drewN _ _) h1)) (partBow_Neck (s) (.int .i64 j) (t) (.int .i64 k) (.int .i64 fk) (.float .f32 a) (.float .f32 b) (.float .f32 c) (.float .f32 p) (.float .f32 q) (.float .f32 m) (.float .f32 o))) Try.underlying35 rfl uinfoRingI rfl ?_
    simp only [Act.put, List.setIfInBounds_toArray, List.set_cons_succ, List.set_cons_zero]
    refine wpFreeD_one rfl (.pointer (some ⟨g0, 0, none⟩)) (fun w1 _ => by kernel_rfl) ?_
    simp only [Act.put, List.setIfInBounds_toArray, List.set_cons_succ, List.set_cons_zero]
    refine wpFreeD_one rfl (.pointer (some ⟨g0, 0, none⟩)) (fun w1 _ => by kernel_rfl) ?_
    simp only [Act.put, List.setIfInBounds_toArray, List.set_cons_succ, List.set_cons_zero]
    refine wpFreeD_one rfl (.pointer (some ⟨g0, 2, none⟩)) (fun w1 _ => by kernel_rfl) ?_
    simp only [Act.put, List.setIfInBounds_toArray, List.set_cons_succ, List.set_cons_zero]
    refine wpFreeD_loadW rfl rfl rfl [t, .int .i64 k] (fun w1 h1 => Row.at_part (hRw.out w1 (le_trans (le_drewN _ _) h1)) (partBow_Bridge (s) (.int .i64 j) (t) (.int .i64 k) (.int .i64 fk) (.float .f32 a) (.float .f32 b) (.float .f32 c) (.float .f32 p) (.float .f32 q) (.float .f32 m) (.float .f32 o))) Try.underlying35 rfl uinfoRingI rfl ?_
    simp only [Act.put, List.setIfInBounds_toArray, List.set_cons_succ, List.set_cons_zero]
    refine wpFreeD_madeW (by kernel_rfl) (fun b => .slice (some ⟨b, 0, none⟩) 2 2) 35 #[s, .int .i64 j, t, .int .i64 k] (fun w1 => by kernel_rfl) (fun bR => ?_)
    simp only [Act.put, List.setIfInBounds_toArray, List.set_cons_succ, List.set_cons_zero]
    refine wpFreeD_callW (by kernel_rfl) rfl Try.func42 (by kernel_rfl) (by kernel_rfl) (args := #[.slice (some ⟨bR, 0, none⟩) 2 2]) (by simp [Act.eval]) (fun v w1 w2 hw hv => hv) (fun w1 hw1 hbe => ?_) ?_
    · obtain ⟨b', e1, hrow⟩ := (hbe ⟨8, Ground.data⟩ (by simp) (by kernel_rfl)).2 rfl
      obtain rfl : bR = b' := by simpa using e1
      refine (s_l04Rings _ _ _ _ w1 (HRD.out bR w1 (le_trans (le_drewN _ _) hw1) hrow) (rg2_ok _ _ _ _ _ _)).mono ?_
      rintro e w2 ⟨rfl, q, rfl⟩
      exact ⟨_, rfl, le_drewN _ _, by simp only [if_true]; rw [rg2_all, hc0.out]⟩
    rintro v ⟨_, _, _, hv⟩
    simp only [if_true] at hv
    subst hv
    simp only [Act.put, List.setIfInBounds_toArray, List.set_cons_succ, List.set_cons_zero]
    refine wpFreeD_one rfl (.bool false) (fun w1 _ => by kernel_rfl) ?_
    simp only [Act.put, List.setIfInBounds_toArray, List.set_cons_succ, List.set_cons_zero]
    refine wpFreeD_skip (by kernel_rfl) ?_
    simp only [Act.put, List.setIfInBounds_toArray, List.set_cons_succ, List.set_cons_zero]
    refine wpFreeD_skip (by kernel_rfl) ?_
    simp only [Act.put, List.setIfInBounds_toArray, List.set_cons_succ, List.set_cons_zero]
    refine wpFreeD_skip (by kernel_rfl) ?_
    simp only [Act.put, List.setIfInBounds_toArray, List.set_cons_succ, List.set_cons_zero]
    refine wpFreeD_skip (by kernel_rfl) ?_
    simp only [Act.put, List.setIfInBounds_toArray, List.set_cons_succ, List.set_cons_zero]
    refine wpFreeD_one rfl (.bool false) (fun w1 _ => by kernel_rfl) ?_
    simp only [Act.put, List.setIfInBounds_toArray, List.set_cons_succ, List.set_cons_zero]
    refine wpFreeD_one rfl (.bool false) (fun w1 _ => by kernel_rfl) ?_
    simp only [Act.put, List.setIfInBounds_toArray, List.set_cons_succ, List.set_cons_zero]
    refine wpFreeD_skip (by kernel_rfl) ?_
    simp only [Act.put, List.setIfInBounds_toArray, List.set_cons_succ, List.set_cons_zero]
    refine wpFreeD_skip (by kernel_rfl) ?_
    simp only [Act.put, List.setIfInBounds_toArray, List.set_cons_succ, List.set_cons_zero]
    refine wpFreeD_skip (by kernel_rfl) ?_
    simp only [Act.put, List.setIfInBounds_toArray, List.set_cons_succ, List.set_cons_zero]
    refine wpFreeD_skip (by kernel_rfl) ?_
    simp only [Act.put, List.setIfInBounds_toArray, List.set_cons_succ, List.set_cons_zero]
    refine wpFreeD_skip (by kernel_rfl) ?_
    simp only [Act.put, List.setIfInBounds_toArray, List.set_cons_succ, List.set_cons_zero]
    refine wpFreeD_skip (by kernel_rfl) ?_
    simp only [Act.put, List.setIfInBounds_toArray, List.set_cons_succ, List.set_cons_zero]
    refine wpFreeD_one rfl (.bool false) (fun w1 _ => by kernel_rfl) ?_
    simp only [Act.put, List.setIfInBounds_toArray, List.set_cons_succ, List.set_cons_zero]
    refine wpFreeD_one rfl (.bool false) (fun w1 _ => by kernel_rfl) ?_
    simp only [Act.put, List.setIfInBounds_toArray, List.set_cons_succ, List.set_cons_zero]
    refine wpFreeD_skip (by kernel_rfl) ?_
    simp only [Act.put, List.setIfInBounds_toArray, List.set_cons_succ, List.set_cons_zero]
    refine wpFreeD_skip (by kernel_rfl) ?_
    simp only [Act.put, List.setIfInBounds_toArray, List.set_cons_succ, List.set_cons_zero]
    refine wpFreeD_skip (by kernel_rfl) ?_
    simp only [Act.put, List.setIfInBounds_toArray, List.set_cons_succ, List.set_cons_zero]
    refine wpFreeD_skip (by kernel_rfl) ?_
    simp only [Act.put, List.setIfInBounds_toArray, List.set_cons_succ, List.set_cons_zero]
    refine wpFreeD_skip (by kernel_rfl) ?_
    simp only [Act.put, List.setIfInBounds_toArray, List.set_cons_succ, List.set_cons_zero]
    refine wpFreeD_skip (by kernel_rfl) ?_
    simp only [Act.put, List.setIfInBounds_toArray, List.set_cons_succ, List.set_cons_zero]
    refine wpFreeD_skip (by kernel_rfl) ?_
    simp only [Act.put, List.setIfInBounds_toArray, List.set_cons_succ, List.set_cons_zero]
    refine wpFreeD_skip (by kernel_rfl) ?_
    simp only [Act.put, List.setIfInBounds_toArray, List.set_cons_succ, List.set_cons_zero]
    refine wpFreeD_skip (by kernel_rfl) ?_
    simp only [Act.put, List.setIfInBounds_toArray, List.set_cons_succ, List.set_cons_zero]
    refine wpFreeD_skip (by kernel_rfl) ?_
    simp only [Act.put, List.setIfInBounds_toArray, List.set_cons_succ, List.set_cons_zero]
    refine wpFreeD_one rfl (.bool false) (fun w1 _ => by kernel_rfl) ?_
    simp only [Act.put, List.setIfInBounds_toArray, List.set_cons_succ, List.set_cons_zero]
    refine wpFreeD_one rfl (.bool false) (fun w1 _ => by kernel_rfl) ?_
    simp only [Act.put, List.setIfInBounds_toArray, List.set_cons_succ, List.set_cons_zero]
    refine wpFreeD_nil (fun wR hwR _ => ?_)
    have HL := hid (le_trans (le_drewN _ _) hwR)
    clear hwR
    go_wp2
    go_ret
    exact ⟨ret_b E.out.symm, HL.out⟩
  · have hc0 := hid h0; clear h0
    rcases bool_ft (okF fk a b c p q) with h1 | h1
    · have hc1 := hid h1
      have E := hid (show ((fk == 1) && okF fk a b c p q && rngB x nx j && rngB y ny k && finB (two m o) 2) = false by simp [h1])
      clear h1
      go_enter Try.func23, Try.ntmps23
      go_wp2_with fail
      refine region_freeD (E := leX) (fun f args _ v => if f = 42 then v = .bool true else if f = 43 then (args = #[.pointer (some ⟨g0, 4, none⟩)] → v = .bool false) else v = .bool (finB (two m o) 2)) (by kernel_rfl) (by kernel_rfl) ?_
      refine wpFreeD_one rfl (.pointer (some ⟨g0, 0, none⟩)) (fun w1 _ => by kernel_rfl) ?_
      simp only [Act.put, List.setIfInBounds_toArray, List.set_cons_succ, List.set_cons_zero]
      refine wpFreeD_one rfl (.pointer (some ⟨g0, 0, none⟩)) (fun w1 _ => by kernel_rfl) ?_
      simp only [Act.put, List.setIfInBounds_toArray, List.set_cons_succ, List.set_cons_zero]
      refine wpFreeD_one rfl (.pointer (some ⟨g0, 0, none⟩)) (fun w1 _ => by kernel_rfl) ?_
      simp only [Act.put, List.setIfInBounds_toArray, List.set_cons_succ, List.set_cons_zero]
      refine wpFreeD_loadW rfl rfl rfl [s, .int .i64 j] (fun w1 h1 => Row.at_part (hRw.out w1 (le_trans (le_drewN _ _) h1)) (partBow_Neck (s) (.int .i64 j) (t) (.int .i64 k) (.int .i64 fk) (.float .f32 a) (.float .f32 b) (.float .f32 c) (.float .f32 p) (.float .f32 q) (.float .f32 m) (.float .f32 o))) Try.underlying35 rfl uinfoRingI rfl ?_
      simp only [Act.put, List.setIfInBounds_toArray, List.set_cons_succ, List.set_cons_zero]
      refine wpFreeD_one rfl (.pointer (some ⟨g0, 0, none⟩)) (fun w1 _ => by kernel_rfl) ?_
      simp only [Act.put, List.setIfInBounds_toArray, List.set_cons_succ, List.set_cons_zero]
      refine wpFreeD_one rfl (.pointer (some ⟨g0, 0, none⟩)) (fun w1 _ => by kernel_rfl) ?_
      simp only [Act.put, List.setIfInBounds_toArray, List.set_cons_succ, List.set_cons_zero]
      refine wpFreeD_one rfl (.pointer (some ⟨g0, 2, none⟩)) (fun w1 _ => by kernel_rfl) ?_
      simp only [Act.put, List.setIfInBounds_toArray, List.set_cons_succ, List.set_cons_zero]
      refine wpFreeD_loadW rfl rfl rfl [t, .int .i64 k] (fun w1 h1 => Row.at_part (hRw.out w1 (le_trans (le_drewN _ _) h1)) (partBow_Bridge (s) (.int .i64 j) (t) (.int .i64 k) (.int .i64 fk) (.float .f32 a) (.float .f32 b) (.float .f32 c) (.float .f32 p) (.float .f32 q) (.float .f32 m) (.float .f32 o))) Try.underlying35 rfl uinfoRingI rfl ?_
      simp only [Act.put, List.setIfInBounds_toArray, List.set_cons_succ, List.set_cons_zero]
      refine wpFreeD_madeW (by kernel_rfl) (fun b => .slice (some ⟨b, 0, none⟩) 2 2) 35 #[s, .int .i64 j, t, .int .i64 k] (fun w1 => by kernel_rfl) (fun bR => ?_)
      simp only [Act.put, List.setIfInBounds_toArray, List.set_cons_succ, List.set_cons_zero]
      refine wpFreeD_callW (by kernel_rfl) rfl Try.func42 (by kernel_rfl) (by kernel_rfl) (args := #[.slice (some ⟨bR, 0, none⟩) 2 2]) (by simp [Act.eval]) (fun v w1 w2 hw hv => hv) (fun w1 hw1 hbe => ?_) ?_
      · obtain ⟨b', e1, hrow⟩ := (hbe ⟨8, Ground.data⟩ (by simp) (by kernel_rfl)).2 rfl
        obtain rfl : bR = b' := by simpa using e1
        refine (s_l04Rings _ _ _ _ w1 (HRD.out bR w1 (le_trans (le_drewN _ _) hw1) hrow) (rg2_ok _ _ _ _ _ _)).mono ?_
        rintro e w2 ⟨rfl, q, rfl⟩
        exact ⟨_, rfl, le_drewN _ _, by simp only [if_true]; rw [rg2_all, hc0.out]⟩
      rintro v ⟨_, _, _, hv⟩
      simp only [if_true] at hv
      subst hv
      simp only [Act.put, List.setIfInBounds_toArray, List.set_cons_succ, List.set_cons_zero]
      refine wpFreeD_one rfl (.bool true) (fun w1 _ => by kernel_rfl) ?_
      simp only [Act.put, List.setIfInBounds_toArray, List.set_cons_succ, List.set_cons_zero]
      refine wpFreeD_oneW (by kernel_rfl) (.pointer (some ⟨g0, 0, none⟩)) (fun w1 _ => by kernel_rfl) ?_
      simp only [Act.put, List.setIfInBounds_toArray, List.set_cons_succ, List.set_cons_zero]
      refine wpFreeD_oneW (by kernel_rfl) (.pointer (some ⟨g0, 0, none⟩)) (fun w1 _ => by kernel_rfl) ?_
      simp only [Act.put, List.setIfInBounds_toArray, List.set_cons_succ, List.set_cons_zero]
      refine wpFreeD_oneW (by kernel_rfl) (.pointer (some ⟨g0, 4, none⟩)) (fun w1 _ => by kernel_rfl) ?_
      simp only [Act.put, List.setIfInBounds_toArray, List.set_cons_succ, List.set_cons_zero]
      refine wpFreeD_callW (by kernel_rfl) rfl Try.func43 (by kernel_rfl) (by kernel_rfl) (args := #[.pointer (some ⟨g0, 4, none⟩)]) (by simp [Act.eval]) (fun v w1 w2 hw hv => hv) (fun w1 hw1 _ => (HO0.out w1 (le_trans (le_drewN _ _) hw1)).mono ?_) ?_
      · rintro e w2 ⟨rfl, q, rfl⟩
        exact ⟨_, rfl, le_drewN _ _, by simp only [show ¬ (43 = 42) by decide, if_false, if_true]; simp [hc1.out]⟩
      rintro v ⟨_, _, _, hv⟩
      simp only [show ¬ (43 = 42) by decide, if_false, if_true] at hv
      obtain rfl := hv (by first | rfl | trivial)
      simp only [Act.put, List.setIfInBounds_toArray, List.set_cons_succ, List.set_cons_zero]
      refine wpFreeD_one rfl (.bool false) (fun w1 _ => by kernel_rfl) ?_
      simp only [Act.put, List.setIfInBounds_toArray, List.set_cons_succ, List.set_cons_zero]
      refine wpFreeD_one rfl (.bool false) (fun w1 _ => by kernel_rfl) ?_
      simp only [Act.put, List.setIfInBounds_toArray, List.set_cons_succ, List.set_cons_zero]
      refine wpFreeD_skip (by kernel_rfl) ?_
      simp only [Act.put, List.setIfInBounds_toArray, List.set_cons_succ, List.set_cons_zero]
      refine wpFreeD_skip (by kernel_rfl) ?_
      simp only [Act.put, List.setIfInBounds_toArray, List.set_cons_succ, List.set_cons_zero]
      refine wpFreeD_skip (by kernel_rfl) ?_
      simp only [Act.put, List.setIfInBounds_toArray, List.set_cons_succ, List.set_cons_zero]
      refine wpFreeD_skip (by kernel_rfl) ?_
      simp only [Act.put, List.setIfInBounds_toArray, List.set_cons_succ, List.set_cons_zero]
      refine wpFreeD_skip (by kernel_rfl) ?_
      simp only [Act.put, List.setIfInBounds_toArray, List.set_cons_succ, List.set_cons_zero]
      refine wpFreeD_skip (by kernel_rfl) ?_
      simp only [Act.put, List.setIfInBounds_toArray, List.set_cons_succ, List.set_cons_zero]
      refine wpFreeD_one rfl (.bool false) (fun w1 _ => by kernel_rfl) ?_
      simp only [Act.put, List.setIfInBounds_toArray, List.set_cons_succ, List.set_cons_zero]
      refine wpFreeD_one rfl (.bool false) (fun w1 _ => by kernel_rfl) ?_
      simp only [Act.put, List.setIfInBounds_toArray, List.set_cons_succ, List.set_cons_zero]
      refine wpFreeD_skip (by kernel_rfl) ?_
      simp only [Act.put, List.setIfInBounds_toArray, List.set_cons_succ, List.set_cons_zero]
      refine wpFreeD_skip (by kernel_rfl) ?_
      simp only [Act.put, List.setIfInBounds_toArray, List.set_cons_succ, List.set_cons_zero]
      refine wpFreeD_skip (by kernel_rfl) ?_
      simp only [Act.put, List.setIfInBounds_toArray, List.set_cons_succ, List.set_cons_zero]
      refine wpFreeD_skip (by kernel_rfl) ?_
      simp only [Act.put, List.setIfInBounds_toArray, List.set_cons_succ, List.set_cons_zero]
      refine wpFreeD_skip (by kernel_rfl) ?_
      simp only [Act.put, List.setIfInBounds_toArray, List.set_cons_succ, List.set_cons_zero]
      refine wpFreeD_skip (by kernel_rfl) ?_
      simp only [Act.put, List.setIfInBounds_toArray, List.set_cons_succ, List.set_cons_zero]
      refine wpFreeD_skip (by kernel_rfl) ?_
      simp only [Act.put, List.setIfInBounds_toArray, List.set_cons_succ, List.set_cons_zero]
      refine wpFreeD_skip (by kernel_rfl) ?_
      simp only [Act.put, List.setIfInBounds_toArray, List.set_cons_succ, List.set_cons_zero]
      refine wpFreeD_skip (by kernel_rfl) ?_
      simp only [Act.put, List.setIfInBounds_toArray, List.set_cons_succ, List.set_cons_zero]
      refine wpFreeD_skip (by kernel_rfl) ?_
      simp only [Act.put, List.setIfInBounds_toArray, List.set_cons_succ, List.set_cons_zero]
      refine wpFreeD_one rfl (.bool false) (fun w1 _ => by kernel_rfl) ?_
      simp only [Act.put, List.setIfInBounds_toArray, List.set_cons_succ, List.set_cons_zero]
      refine wpFreeD_one rfl (.bool false) (fun w1 _ => by kernel_rfl) ?_
      simp only [Act.put, List.setIfInBounds_toArray, List.set_cons_succ, List.set_cons_zero]
      refine wpFreeD_nil (fun wR hwR _ => ?_)
      have HL := hid (le_trans (le_drewN _ _) hwR)
      clear hwR
      go_wp2
      go_ret
      exact ⟨ret_b E.out.symm, HL.out⟩
    · have hc1 := hid h1; clear h1
      rcases bool_ft ((fk == 1)) with h2 | h2
      · have hc2 := hid h2
        have E := hid (show ((fk == 1) && okF fk a b c p q && rngB x nx j && rngB y ny k && finB (two m o) 2) = false by simp [h2])
        clear h2
        go_enter Try.func23, Try.ntmps23
        go_wp2_with fail
        refine region_freeD (E := leX) (fun f args _ v => if f = 42 then v = .bool true else if f = 43 then (args = #[.pointer (some ⟨g0, 4, none⟩)] → v = .bool true) else v = .bool (finB (two m o) 2)) (by kernel_rfl) (by kernel_rfl) ?_
        refine wpFreeD_one rfl (.pointer (some ⟨g0, 0, none⟩)) (fun w1 _ => by kernel_rfl) ?_
        simp only [Act.put, List.setIfInBounds_toArray, List.set_cons_succ, List.set_cons_zero]
        refine wpFreeD_one rfl (.pointer (some ⟨g0, 0, none⟩)) (fun w1 _ => by kernel_rfl) ?_
        simp only [Act.put, List.setIfInBounds_toArray, List.set_cons_succ, List.set_cons_zero]
        refine wpFreeD_one rfl (.pointer (some ⟨g0, 0, none⟩)) (fun w1 _ => by kernel_rfl) ?_
        simp only [Act.put, List.setIfInBounds_toArray, List.set_cons_succ, List.set_cons_zero]
        refine wpFreeD_loadW rfl rfl rfl [s, .int .i64 j] (fun w1 h1 => Row.at_part (hRw.out w1 (le_trans (le_drewN _ _) h1)) (partBow_Neck (s) (.int .i64 j) (t) (.int .i64 k) (.int .i64 fk) (.float .f32 a) (.float .f32 b) (.float .f32 c) (.float .f32 p) (.float .f32 q) (.float .f32 m) (.float .f32 o))) Try.underlying35 rfl uinfoRingI rfl ?_
        simp only [Act.put, List.setIfInBounds_toArray, List.set_cons_succ, List.set_cons_zero]
        refine wpFreeD_one rfl (.pointer (some ⟨g0, 0, none⟩)) (fun w1 _ => by kernel_rfl) ?_
        simp only [Act.put, List.setIfInBounds_toArray, List.set_cons_succ, List.set_cons_zero]
        refine wpFreeD_one rfl (.pointer (some ⟨g0, 0, none⟩)) (fun w1 _ => by kernel_rfl) ?_
        simp only [Act.put, List.setIfInBounds_toArray, List.set_cons_succ, List.set_cons_zero]
        refine wpFreeD_one rfl (.pointer (some ⟨g0, 2, none⟩)) (fun w1 _ => by kernel_rfl) ?_
        simp only [Act.put, List.setIfInBounds_toArray, List.set_cons_succ, List.set_cons_zero]
        refine wpFreeD_loadW rfl rfl rfl [t, .int .i64 k] (fun w1 h1 => Row.at_part (hRw.out w1 (le_trans (le_drewN _ _) h1)) (partBow_Bridge (s) (.int .i64 j) (t) (.int .i64 k) (.int .i64 fk) (.float .f32 a) (.float .f32 b) (.float .f32 c) (.float .f32 p) (.float .f32 q) (.float .f32 m) (.float .f32 o))) Try.underlying35 rfl uinfoRingI rfl ?_
        simp only [Act.put, List.setIfInBounds_toArray, List.set_cons_succ, List.set_cons_zero]
        refine wpFreeD_madeW (by kernel_rfl) (fun b => .slice (some ⟨b, 0, none⟩) 2 2) 35 #[s, .int .i64 j, t, .int .i64 k] (fun w1 => by kernel_rfl) (fun bR => ?_)
        simp only [Act.put, List.setIfInBounds_toArray, List.set_cons_succ, List.set_cons_zero]
        refine wpFreeD_callW (by kernel_rfl) rfl Try.func42 (by kernel_rfl) (by kernel_rfl) (args := #[.slice (some ⟨bR, 0, none⟩) 2 2]) (by simp [Act.eval]) (fun v w1 w2 hw hv => hv) (fun w1 hw1 hbe => ?_) ?_
        · obtain ⟨b', e1, hrow⟩ := (hbe ⟨8, Ground.data⟩ (by simp) (by kernel_rfl)).2 rfl
          obtain rfl : bR = b' := by simpa using e1
          refine (s_l04Rings _ _ _ _ w1 (HRD.out bR w1 (le_trans (le_drewN _ _) hw1) hrow) (rg2_ok _ _ _ _ _ _)).mono ?_
          rintro e w2 ⟨rfl, q, rfl⟩
          exact ⟨_, rfl, le_drewN _ _, by simp only [if_true]; rw [rg2_all, hc0.out]⟩
        rintro v ⟨_, _, _, hv⟩
        simp only [if_true] at hv
        subst hv
        simp only [Act.put, List.setIfInBounds_toArray, List.set_cons_succ, List.set_cons_zero]
        refine wpFreeD_one rfl (.bool true) (fun w1 _ => by kernel_rfl) ?_
        simp only [Act.put, List.setIfInBounds_toArray, List.set_cons_succ, List.set_cons_zero]
        refine wpFreeD_oneW (by kernel_rfl) (.pointer (some ⟨g0, 0, none⟩)) (fun w1 _ => by kernel_rfl) ?_
        simp only [Act.put, List.setIfInBounds_toArray, List.set_cons_succ, List.set_cons_zero]
        refine wpFreeD_oneW (by kernel_rfl) (.pointer (some ⟨g0, 0, none⟩)) (fun w1 _ => by kernel_rfl) ?_
        simp only [Act.put, List.setIfInBounds_toArray, List.set_cons_succ, List.set_cons_zero]
        refine wpFreeD_oneW (by kernel_rfl) (.pointer (some ⟨g0, 4, none⟩)) (fun w1 _ => by kernel_rfl) ?_
        simp only [Act.put, List.setIfInBounds_toArray, List.set_cons_succ, List.set_cons_zero]
        refine wpFreeD_callW (by kernel_rfl) rfl Try.func43 (by kernel_rfl) (by kernel_rfl) (args := #[.pointer (some ⟨g0, 4, none⟩)]) (by simp [Act.eval]) (fun v w1 w2 hw hv => hv) (fun w1 hw1 _ => (HO0.out w1 (le_trans (le_drewN _ _) hw1)).mono ?_) ?_
        · rintro e w2 ⟨rfl, q, rfl⟩
          exact ⟨_, rfl, le_drewN _ _, by simp only [show ¬ (43 = 42) by decide, if_false, if_true]; simp [hc1.out]⟩
        rintro v ⟨_, _, _, hv⟩
        simp only [show ¬ (43 = 42) by decide, if_false, if_true] at hv
        obtain rfl := hv (by first | rfl | trivial)
        simp only [Act.put, List.setIfInBounds_toArray, List.set_cons_succ, List.set_cons_zero]
        refine wpFreeD_one rfl (.bool true) (fun w1 _ => by kernel_rfl) ?_
        simp only [Act.put, List.setIfInBounds_toArray, List.set_cons_succ, List.set_cons_zero]
        refine wpFreeD_one rfl (.bool true) (fun w1 _ => by kernel_rfl) ?_
        simp only [Act.put, List.setIfInBounds_toArray, List.set_cons_succ, List.set_cons_zero]
        refine wpFreeD_oneW (by kernel_rfl) (.pointer (some ⟨g0, 0, none⟩)) (fun w1 _ => by kernel_rfl) ?_
        simp only [Act.put, List.setIfInBounds_toArray, List.set_cons_succ, List.set_cons_zero]
        refine wpFreeD_oneW (by kernel_rfl) (.pointer (some ⟨g0, 0, none⟩)) (fun w1 _ => by kernel_rfl) ?_
        simp only [Act.put, List.setIfInBounds_toArray, List.set_cons_succ, List.set_cons_zero]
        refine wpFreeD_oneW (by kernel_rfl) (.pointer (some ⟨g0, 4, none⟩)) (fun w1 _ => by kernel_rfl) ?_
        simp only [Act.put, List.setIfInBounds_toArray, List.set_cons_succ, List.set_cons_zero]
        refine wpFreeD_oneW (by kernel_rfl) (.pointer (some ⟨g0, 4, none⟩)) (fun w1 _ => by kernel_rfl) ?_
        simp only [Act.put, List.setIfInBounds_toArray, List.set_cons_succ, List.set_cons_zero]
        refine wpFreeD_load1W (by kernel_rfl) rfl rfl (p := ⟨g0, 4, none⟩) (fun w1 h1 => (hRw.out w1 (le_trans (le_drewN _ _) h1)).cell? 4) ukindInt64 ?_
        simp only [Act.put, List.setIfInBounds_toArray, List.set_cons_succ, List.set_cons_zero]
        refine wpFreeD_oneW (by kernel_rfl) (.bool (fk == 1)) (fun w1 _ => by kernel_rfl) ?_
        simp only [Act.put, List.setIfInBounds_toArray, List.set_cons_succ, List.set_cons_zero]
        rw [hc2.out]
        refine wpFreeD_one rfl (.bool false) (fun w1 _ => by kernel_rfl) ?_
        simp only [Act.put, List.setIfInBounds_toArray, List.set_cons_succ, List.set_cons_zero]
        refine wpFreeD_one rfl (.bool false) (fun w1 _ => by kernel_rfl) ?_
        simp only [Act.put, List.setIfInBounds_toArray, List.set_cons_succ, List.set_cons_zero]
        refine wpFreeD_skip (by kernel_rfl) ?_
        simp only [Act.put, List.setIfInBounds_toArray, List.set_cons_succ, List.set_cons_zero]
        refine wpFreeD_skip (by kernel_rfl) ?_
        simp only [Act.put, List.setIfInBounds_toArray, List.set_cons_succ, List.set_cons_zero]
        refine wpFreeD_skip (by kernel_rfl) ?_
        simp only [Act.put, List.setIfInBounds_toArray, List.set_cons_succ, List.set_cons_zero]
        refine wpFreeD_skip (by kernel_rfl) ?_
        simp only [Act.put, List.setIfInBounds_toArray, List.set_cons_succ, List.set_cons_zero]
        refine wpFreeD_skip (by kernel_rfl) ?_
        simp only [Act.put, List.setIfInBounds_toArray, List.set_cons_succ, List.set_cons_zero]
        refine wpFreeD_skip (by kernel_rfl) ?_
        simp only [Act.put, List.setIfInBounds_toArray, List.set_cons_succ, List.set_cons_zero]
        refine wpFreeD_skip (by kernel_rfl) ?_
        simp only [Act.put, List.setIfInBounds_toArray, List.set_cons_succ, List.set_cons_zero]
        refine wpFreeD_skip (by kernel_rfl) ?_
        simp only [Act.put, List.setIfInBounds_toArray, List.set_cons_succ, List.set_cons_zero]
        refine wpFreeD_skip (by kernel_rfl) ?_
        simp only [Act.put, List.setIfInBounds_toArray, List.set_cons_succ, List.set_cons_zero]
        refine wpFreeD_skip (by kernel_rfl) ?_
        simp only [Act.put, List.setIfInBounds_toArray, List.set_cons_succ, List.set_cons_zero]
        refine wpFreeD_one rfl (.bool false) (fun w1 _ => by kernel_rfl) ?_
        simp only [Act.put, List.setIfInBounds_toArray, List.set_cons_succ, List.set_cons_zero]
        refine wpFreeD_one rfl (.bool false) (fun w1 _ => by kernel_rfl) ?_
        simp only [Act.put, List.setIfInBounds_toArray, List.set_cons_succ, List.set_cons_zero]
        refine wpFreeD_nil (fun wR hwR _ => ?_)
        have HL := hid (le_trans (le_drewN _ _) hwR)
        clear hwR
        go_wp2
        go_ret
        exact ⟨ret_b E.out.symm, HL.out⟩
      · have hc2 := hid h2; clear h2
        have E := hid (show ((fk == 1) && okF fk a b c p q && rngB x nx j && rngB y ny k && finB (two m o) 2) = finB (two m o) 2 by have h0' := hc0.out; simp only [Bool.and_eq_true] at h0'; simp [h0'.1, h0'.2, hc1.out, hc2.out])
        go_enter Try.func23, Try.ntmps23
        go_wp2_with fail
        refine region_freeD (E := leX) (fun f args _ v => if f = 42 then v = .bool true else if f = 43 then (args = #[.pointer (some ⟨g0, 4, none⟩)] → v = .bool true) else v = .bool (finB (two m o) 2)) (by kernel_rfl) (by kernel_rfl) ?_
        refine wpFreeD_one rfl (.pointer (some ⟨g0, 0, none⟩)) (fun w1 _ => by kernel_rfl) ?_
        simp only [Act.put, List.setIfInBounds_toArray, List.set_cons_succ, List.set_cons_zero]
        refine wpFreeD_one rfl (.pointer (some ⟨g0, 0, none⟩)) (fun w1 _ => by kernel_rfl) ?_
        simp only [Act.put, List.setIfInBounds_toArray, List.set_cons_succ, List.set_cons_zero]
        refine wpFreeD_one rfl (.pointer (some ⟨g0, 0, none⟩)) (fun w1 _ => by kernel_rfl) ?_
        simp only [Act.put, List.setIfInBounds_toArray, List.set_cons_succ, List.set_cons_zero]
        refine wpFreeD_loadW rfl rfl rfl [s, .int .i64 j] (fun w1 h1 => Row.at_part (hRw.out w1 (le_trans (le_drewN _ _) h1)) (partBow_Neck (s) (.int .i64 j) (t) (.int .i64 k) (.int .i64 fk) (.float .f32 a) (.float .f32 b) (.float .f32 c) (.float .f32 p) (.float .f32 q) (.float .f32 m) (.float .f32 o))) Try.underlying35 rfl uinfoRingI rfl ?_
        simp only [Act.put, List.setIfInBounds_toArray, List.set_cons_succ, List.set_cons_zero]
        refine wpFreeD_one rfl (.pointer (some ⟨g0, 0, none⟩)) (fun w1 _ => by kernel_rfl) ?_
        simp only [Act.put, List.setIfInBounds_toArray, List.set_cons_succ, List.set_cons_zero]
        refine wpFreeD_one rfl (.pointer (some ⟨g0, 0, none⟩)) (fun w1 _ => by kernel_rfl) ?_
        simp only [Act.put, List.setIfInBounds_toArray, List.set_cons_succ, List.set_cons_zero]
        refine wpFreeD_one rfl (.pointer (some ⟨g0, 2, none⟩)) (fun w1 _ => by kernel_rfl) ?_
        simp only [Act.put, List.setIfInBounds_toArray, List.set_cons_succ, List.set_cons_zero]
        refine wpFreeD_loadW rfl rfl rfl [t, .int .i64 k] (fun w1 h1 => Row.at_part (hRw.out w1 (le_trans (le_drewN _ _) h1)) (partBow_Bridge (s) (.int .i64 j) (t) (.int .i64 k) (.int .i64 fk) (.float .f32 a) (.float .f32 b) (.float .f32 c) (.float .f32 p) (.float .f32 q) (.float .f32 m) (.float .f32 o))) Try.underlying35 rfl uinfoRingI rfl ?_
        simp only [Act.put, List.setIfInBounds_toArray, List.set_cons_succ, List.set_cons_zero]
        refine wpFreeD_madeW (by kernel_rfl) (fun b => .slice (some ⟨b, 0, none⟩) 2 2) 35 #[s, .int .i64 j, t, .int .i64 k] (fun w1 => by kernel_rfl) (fun bR => ?_)
        simp only [Act.put, List.setIfInBounds_toArray, List.set_cons_succ, List.set_cons_zero]
        refine wpFreeD_callW (by kernel_rfl) rfl Try.func42 (by kernel_rfl) (by kernel_rfl) (args := #[.slice (some ⟨bR, 0, none⟩) 2 2]) (by simp [Act.eval]) (fun v w1 w2 hw hv => hv) (fun w1 hw1 hbe => ?_) ?_
        · obtain ⟨b', e1, hrow⟩ := (hbe ⟨8, Ground.data⟩ (by simp) (by kernel_rfl)).2 rfl
          obtain rfl : bR = b' := by simpa using e1
          refine (s_l04Rings _ _ _ _ w1 (HRD.out bR w1 (le_trans (le_drewN _ _) hw1) hrow) (rg2_ok _ _ _ _ _ _)).mono ?_
          rintro e w2 ⟨rfl, q, rfl⟩
          exact ⟨_, rfl, le_drewN _ _, by simp only [if_true]; rw [rg2_all, hc0.out]⟩
        rintro v ⟨_, _, _, hv⟩
        simp only [if_true] at hv
        subst hv
        simp only [Act.put, List.setIfInBounds_toArray, List.set_cons_succ, List.set_cons_zero]
        refine wpFreeD_one rfl (.bool true) (fun w1 _ => by kernel_rfl) ?_
        simp only [Act.put, List.setIfInBounds_toArray, List.set_cons_succ, List.set_cons_zero]
        refine wpFreeD_oneW (by kernel_rfl) (.pointer (some ⟨g0, 0, none⟩)) (fun w1 _ => by kernel_rfl) ?_
        simp only [Act.put, List.setIfInBounds_toArray, List.set_cons_succ, List.set_cons_zero]
        refine wpFreeD_oneW (by kernel_rfl) (.pointer (some ⟨g0, 0, none⟩)) (fun w1 _ => by kernel_rfl) ?_
        simp only [Act.put, List.setIfInBounds_toArray, List.set_cons_succ, List.set_cons_zero]
        refine wpFreeD_oneW (by kernel_rfl) (.pointer (some ⟨g0, 4, none⟩)) (fun w1 _ => by kernel_rfl) ?_
        simp only [Act.put, List.setIfInBounds_toArray, List.set_cons_succ, List.set_cons_zero]
        refine wpFreeD_callW (by kernel_rfl) rfl Try.func43 (by kernel_rfl) (by kernel_rfl) (args := #[.pointer (some ⟨g0, 4, none⟩)]) (by simp [Act.eval]) (fun v w1 w2 hw hv => hv) (fun w1 hw1 _ => (HO0.out w1 (le_trans (le_drewN _ _) hw1)).mono ?_) ?_
        · rintro e w2 ⟨rfl, q, rfl⟩
          exact ⟨_, rfl, le_drewN _ _, by simp only [show ¬ (43 = 42) by decide, if_false, if_true]; simp [hc1.out]⟩
        rintro v ⟨_, _, _, hv⟩
        simp only [show ¬ (43 = 42) by decide, if_false, if_true] at hv
        obtain rfl := hv (by first | rfl | trivial)
        simp only [Act.put, List.setIfInBounds_toArray, List.set_cons_succ, List.set_cons_zero]
        refine wpFreeD_one rfl (.bool true) (fun w1 _ => by kernel_rfl) ?_
        simp only [Act.put, List.setIfInBounds_toArray, List.set_cons_succ, List.set_cons_zero]
        refine wpFreeD_one rfl (.bool true) (fun w1 _ => by kernel_rfl) ?_
        simp only [Act.put, List.setIfInBounds_toArray, List.set_cons_succ, List.set_cons_zero]
        refine wpFreeD_oneW (by kernel_rfl) (.pointer (some ⟨g0, 0, none⟩)) (fun w1 _ => by kernel_rfl) ?_
        simp only [Act.put, List.setIfInBounds_toArray, List.set_cons_succ, List.set_cons_zero]
        refine wpFreeD_oneW (by kernel_rfl) (.pointer (some ⟨g0, 0, none⟩)) (fun w1 _ => by kernel_rfl) ?_
        simp only [Act.put, List.setIfInBounds_toArray, List.set_cons_succ, List.set_cons_zero]
        refine wpFreeD_oneW (by kernel_rfl) (.pointer (some ⟨g0, 4, none⟩)) (fun w1 _ => by kernel_rfl) ?_
        simp only [Act.put, List.setIfInBounds_toArray, List.set_cons_succ, List.set_cons_zero]
        refine wpFreeD_oneW (by kernel_rfl) (.pointer (some ⟨g0, 4, none⟩)) (fun w1 _ => by kernel_rfl) ?_
        simp only [Act.put, List.setIfInBounds_toArray, List.set_cons_succ, List.set_cons_zero]
        refine wpFreeD_load1W (by kernel_rfl) rfl rfl (p := ⟨g0, 4, none⟩) (fun w1 h1 => (hRw.out w1 (le_trans (le_drewN _ _) h1)).cell? 4) ukindInt64 ?_
        simp only [Act.put, List.setIfInBounds_toArray, List.set_cons_succ, List.set_cons_zero]
        refine wpFreeD_oneW (by kernel_rfl) (.bool (fk == 1)) (fun w1 _ => by kernel_rfl) ?_
        simp only [Act.put, List.setIfInBounds_toArray, List.set_cons_succ, List.set_cons_zero]
        rw [hc2.out]
        refine wpFreeD_one rfl (.bool true) (fun w1 _ => by kernel_rfl) ?_
        simp only [Act.put, List.setIfInBounds_toArray, List.set_cons_succ, List.set_cons_zero]
        refine wpFreeD_one rfl (.bool true) (fun w1 _ => by kernel_rfl) ?_
        simp only [Act.put, List.setIfInBounds_toArray, List.set_cons_succ, List.set_cons_zero]
        refine wpFreeD_oneW (by kernel_rfl) (.pointer (some ⟨g0, 0, none⟩)) (fun w1 _ => by kernel_rfl) ?_
        simp only [Act.put, List.setIfInBounds_toArray, List.set_cons_succ, List.set_cons_zero]
        refine wpFreeD_oneW (by kernel_rfl) (.pointer (some ⟨g0, 0, none⟩)) (fun w1 _ => by kernel_rfl) ?_
        simp only [Act.put, List.setIfInBounds_toArray, List.set_cons_succ, List.set_cons_zero]
        refine wpFreeD_oneW (by kernel_rfl) (.pointer (some ⟨g0, 10, none⟩)) (fun w1 _ => by kernel_rfl) ?_
        simp only [Act.put, List.setIfInBounds_toArray, List.set_cons_succ, List.set_cons_zero]
        refine wpFreeD_load1W (by kernel_rfl) rfl rfl (p := ⟨g0, 10, none⟩) (fun w1 h1 => (hRw.out w1 (le_trans (le_drewN _ _) h1)).cell? 10) ukindFloat32 ?_
        simp only [Act.put, List.setIfInBounds_toArray, List.set_cons_succ, List.set_cons_zero]
        refine wpFreeD_oneW (by kernel_rfl) (.pointer (some ⟨g0, 0, none⟩)) (fun w1 _ => by kernel_rfl) ?_
        simp only [Act.put, List.setIfInBounds_toArray, List.set_cons_succ, List.set_cons_zero]
        refine wpFreeD_oneW (by kernel_rfl) (.pointer (some ⟨g0, 0, none⟩)) (fun w1 _ => by kernel_rfl) ?_
        simp only [Act.put, List.setIfInBounds_toArray, List.set_cons_succ, List.set_cons_zero]
        refine wpFreeD_oneW (by kernel_rfl) (.pointer (some ⟨g0, 11, none⟩)) (fun w1 _ => by kernel_rfl) ?_
        simp only [Act.put, List.setIfInBounds_toArray, List.set_cons_succ, List.set_cons_zero]
        refine wpFreeD_load1W (by kernel_rfl) rfl rfl (p := ⟨g0, 11, none⟩) (fun w1 h1 => (hRw.out w1 (le_trans (le_drewN _ _) h1)).cell? 11) ukindFloat32 ?_
        simp only [Act.put, List.setIfInBounds_toArray, List.set_cons_succ, List.set_cons_zero]
        refine wpFreeD_madeW (by kernel_rfl) (fun b => .slice (some ⟨b, 0, none⟩) 2 2) 25 #[.float .f32 m, .float .f32 o] (fun w1 => by kernel_rfl) (fun bN => ?_)
        simp only [Act.put, List.setIfInBounds_toArray, List.set_cons_succ, List.set_cons_zero]
        refine wpFreeD_callW (by kernel_rfl) rfl Try.func44 (by kernel_rfl) (by kernel_rfl) (args := #[.slice (some ⟨bN, 0, none⟩) 2 2]) (by simp [Act.eval]) (fun v w1 w2 hw hv => hv) (fun w1 hw1 hbe => ?_) ?_
        · obtain ⟨b', e1, hrow⟩ := (hbe ⟨33, Ground.data⟩ (by simp) (by kernel_rfl)).2 rfl
          obtain rfl : bN = b' := by simpa using e1
          refine (HN.out bN w1 hrow).mono ?_
          rintro e w2 ⟨rfl, q, rfl⟩
          exact ⟨_, rfl, le_drewN _ _, by simp only [show ¬ (44 = 42) by decide, show ¬ (44 = 43) by decide, if_false]⟩
        rintro v ⟨_, _, _, hv⟩
        simp only [show ¬ (44 = 42) by decide, show ¬ (44 = 43) by decide, if_false] at hv
        subst hv
        simp only [Act.put, List.setIfInBounds_toArray, List.set_cons_succ, List.set_cons_zero]
        refine wpFreeD_one rfl (.bool (finB (two m o) 2)) (fun w1 _ => by kernel_rfl) ?_
        simp only [Act.put, List.setIfInBounds_toArray, List.set_cons_succ, List.set_cons_zero]
        refine wpFreeD_one rfl (.bool (finB (two m o) 2)) (fun w1 _ => by kernel_rfl) ?_
        simp only [Act.put, List.setIfInBounds_toArray, List.set_cons_succ, List.set_cons_zero]
        refine wpFreeD_nil (fun wR hwR _ => ?_)
        have HL := hid (le_trans (le_drewN _ _) hwR)
        clear hwR
        go_wp2
        go_ret
        exact ⟨ret_b E.out.symm, HL.out⟩
theorem bow_data {cs : List CD} (h : HasShL shBow cs) : ∃ (xs ys : Nat → CD) (nx ny : Nat) (j k : Int) (fk : Int) (a b c p q : Nat) (m o : Nat), cs = [.sl 1 nx xs, .int .i64 j, .sl 1 ny ys, .int .i64 k, .int .i64 fk, .flt .f32 a, .flt .f32 b, .flt .f32 c, .flt .f32 p, .flt .f32 q, .flt .f32 m, .flt .f32 o] ∧ (∀ i, i < nx → (xs i).flk = some .f32) ∧ (∀ i, i < ny → (ys i).flk = some .f32) := by
  obtain ⟨c0, cs, rfl, q0, h⟩ := h.inv
  obtain ⟨c1, cs, rfl, q1, h⟩ := h.inv
  obtain ⟨c2, cs, rfl, q2, h⟩ := h.inv
  obtain ⟨c3, cs, rfl, q3, h⟩ := h.inv
  obtain ⟨c4, cs, rfl, q4, h⟩ := h.inv
  obtain ⟨c5, cs, rfl, q5, h⟩ := h.inv
  obtain ⟨c6, cs, rfl, q6, h⟩ := h.inv
  obtain ⟨c7, cs, rfl, q7, h⟩ := h.inv
  obtain ⟨c8, cs, rfl, q8, h⟩ := h.inv
  obtain ⟨c9, cs, rfl, q9, h⟩ := h.inv
  obtain ⟨c10, cs, rfl, q10, h⟩ := h.inv
  obtain ⟨c11, cs, rfl, q11, h⟩ := h.inv
  obtain rfl := h.inv0
  obtain ⟨nx, xs, rfl, r0⟩ := q0
  obtain ⟨ny, ys, rfl, r2⟩ := q2
  obtain ⟨j, rfl⟩ := q1
  obtain ⟨k, rfl⟩ := q3
  obtain ⟨fk, rfl⟩ := q4
  obtain ⟨a, rfl⟩ := q5
  obtain ⟨b, rfl⟩ := q6
  obtain ⟨c, rfl⟩ := q7
  obtain ⟨p, rfl⟩ := q8
  obtain ⟨q, rfl⟩ := q9
  obtain ⟨m, rfl⟩ := q10
  obtain ⟨o, rfl⟩ := q11
  exact ⟨xs, ys, nx, ny, j, k, fk, a, b, c, p, q, m, o, rfl, fun i hi => ShOk.flts (fun i hi j hj => (r0 i hi j hj).ok) rfl i hi, fun i hi => ShOk.flts (fun i hi j hj => (r2 i hi j hj).ok) rfl i hi⟩
theorem bow_open {xs ys : Nat → CD} {nx ny : Nat} {j k : Int} {fk : Int} {a b c p q : Nat} {m o : Nat} {w : World} {B : Nat} {u : List Value} (h : RdLN w B (([.sl 1 nx xs, .int .i64 j, .sl 1 ny ys, .int .i64 k, .int .i64 fk, .flt .f32 a, .flt .f32 b, .flt .f32 c, .flt .f32 p, .flt .f32 q, .flt .f32 m, .flt .f32 o] : List CD).map CD.cp) u) (hx : ∀ i, i < nx → (xs i).flk = some .f32) (hy : ∀ i, i < ny → (ys i).flk = some .f32) : ∃ s t : Value, u = [s, .int .i64 j, t, .int .i64 k, .int .i64 fk, .float .f32 a, .float .f32 b, .float .f32 c, .float .f32 p, .float .f32 q, .float .f32 m, .float .f32 o] ∧ (slT (fun i => (xs i).fx) nx).RdN w B s ∧ (slT (fun i => (ys i).fx) ny).RdN w B t ∧ ((Lit.int .i64 j).wf = true ∧ (Lit.int .i64 k).wf = true) ∧ (fits .f32 a ∧ fits .f32 b ∧ fits .f32 c ∧ fits .f32 p ∧ fits .f32 q ∧ fits .f32 m ∧ fits .f32 o) := by
  simp only [List.map_cons, List.map_nil] at h
  obtain ⟨v0, u0, rfl, q0, hh0⟩ := h.inv
  obtain ⟨v1, u1, rfl, q1, hh1⟩ := hh0.inv
  obtain ⟨v2, u2, rfl, q2, hh2⟩ := hh1.inv
  obtain ⟨v3, u3, rfl, q3, hh3⟩ := hh2.inv
  obtain ⟨v4, u4, rfl, q4, hh4⟩ := hh3.inv
  obtain ⟨v5, u5, rfl, q5, hh5⟩ := hh4.inv
  obtain ⟨v6, u6, rfl, q6, hh6⟩ := hh5.inv
  obtain ⟨v7, u7, rfl, q7, hh7⟩ := hh6.inv
  obtain ⟨v8, u8, rfl, q8, hh8⟩ := hh7.inv
  obtain ⟨v9, u9, rfl, q9, hh9⟩ := hh8.inv
  obtain ⟨v10, u10, rfl, q10, hh10⟩ := hh9.inv
  obtain ⟨v11, u11, rfl, q11, hh11⟩ := hh10.inv
  obtain rfl := hh11.inv0
  obtain ⟨rfl, f1⟩ := q1
  obtain ⟨rfl, f3⟩ := q3
  obtain ⟨rfl, f4⟩ := q4
  obtain ⟨rfl, f5⟩ := q5
  obtain ⟨rfl, f6⟩ := q6
  obtain ⟨rfl, f7⟩ := q7
  obtain ⟨rfl, f8⟩ := q8
  obtain ⟨rfl, f9⟩ := q9
  obtain ⟨rfl, f10⟩ := q10
  obtain ⟨rfl, f11⟩ := q11
  exact ⟨v0, v2, rfl, q0.congr (slT_cp hx), q2.congr (slT_cp hy), ⟨f1, f3⟩, f5, f6, f7, f8, f9, f10, f11⟩
end Go.Proofs.Ythjdklolbkhbfaa

/- Marks: what the laws write into memory that one owns, by trees of data. Nothing here names a program. -/
namespace Go.Fk
open Go Go.RowKit
/-- How many marks an element takes. -/
def CD.mkE : CD → Nat
  | .sl wd n x => sumTo (fun i => (x i).mkE) (n * wd)
  | _ => 1
/-- What an element is behind them. -/
def CD.mk : CD → Int → CD
  | .int k _, z => .int k z
  | .flt k _, z => .fcn k (floatOfInt k z)
  | .fcn k _, z => .fcn k (floatOfInt k z)
  | .sl wd n x, z => .sl wd n (fun i => (x i).mk (z + (sumTo (fun j => (x j).mkE) i : Nat)))
  | c, _ => c
/-- The same for a cell that comes as a value: only what it leads to is marked. -/
def CD.mt : CD → Nat
  | .sl wd n x => (CD.sl wd n x).mkE
  | _ => 0
def CD.mkT : CD → Int → CD
  | .sl wd n x, z => (CD.sl wd n x).mk z
  | c, _ => c
def mtL : List CD → Nat
  | [] => 0
  | c :: cs => c.mt + mtL cs
def mkL : List CD → Int → List CD
  | [], _ => []
  | c :: cs, z => c.mkT z :: mkL cs (z + (c.mt : Nat))
theorem mtL_append (a b : List CD) : mtL (a ++ b) = mtL a + mtL b := by
  induction a with
  | nil => simp [mtL]
  | cons c a ih => simp only [List.cons_append, mtL, ih]; omega
theorem mkL_append (a b : List CD) : ∀ z : Int, mkL (a ++ b) z = mkL a z ++ mkL b (z + (mtL a : Nat)) := by
  induction a with
  | nil => intro z; simp [mkL, mtL]
  | cons c a ih => intro z; simp only [List.cons_append, mkL, ih, mtL]; congr 3; push_cast; omega
theorem mkL_length (a : List CD) : ∀ z : Int, (mkL a z).length = a.length := by
  induction a with
  | nil => intro z; rfl
  | cons c a ih => intro z; simp [mkL, ih]
theorem CD.mt_fl {c : CD} {k : FloatKind} (h : c.flk = some k) : c.mt = 0 := by
  cases c <;> simp [CD.flk] at h <;> rfl
theorem CD.mkT_fl {c : CD} {k : FloatKind} (h : c.flk = some k) (z : Int) : c.mkT z = c := by
  cases c <;> simp [CD.flk] at h <;> rfl
theorem mkE_flts {n : Nat} {x : Nat → CD} (h : ∀ i, i < n → (x i).flk = some .f32) {m : Nat} (hm : m ≤ n) : sumTo (fun i => (x i).mkE) m = m := by
  induction m with
  | zero => rfl
  | succ m ih =>
    simp only [sumTo]
    rw [ih (by omega)]
    have := h m (by omega)
    cases hx : x m <;> rw [hx] at this <;> simp [CD.flk] at this <;> rfl
theorem CD.mt_flts {n : Nat} {x : Nat → CD} (h : ∀ i, i < n → (x i).flk = some .f32) : (CD.sl 1 n x).mt = n := by
  simp only [CD.mt, CD.mkE, Nat.mul_one]
  exact mkE_flts h (Nat.le_refl _)
/-- A slice of floats, marked. -/
theorem CD.mk_flts {n : Nat} {x : Nat → CD} (h : ∀ i, i < n → (x i).flk = some .f32) (z : Int) : (CD.sl 1 n (fun i => .fcn .f32 (markW z i))).Eqv ((CD.sl 1 n x).mkT z) := by
  refine ⟨_, rfl, fun i hi => ?_⟩
  have hi' : i < n := by simpa using hi
  have hf := h i hi'
  rw [mkE_flts h (by omega)]
  cases hx : x i <;> rw [hx] at hf <;> simp [CD.flk] at hf <;> subst hf <;> exact CD.Eqv.refl _
theorem CD.Eqv.symm : ∀ {c d : CD}, c.Eqv d → d.Eqv c := by
  intro c
  induction c with
  | sl wd n x ih => intro d h; obtain ⟨y, rfl, hy⟩ := h; exact ⟨x, rfl, fun i hi => ih i (hy i hi)⟩
  | _ => intro d h; cases h; rfl
/-- A cell that does not lead to memory. -/
def CD.noS (c : CD) : Prop := ∀ wd n x, c ≠ .sl wd n x
theorem CD.noS.mt {c : CD} (h : c.noS) : c.mt = 0 := by
  cases c with
  | sl wd n x => exact absurd rfl (h wd n x)
  | _ => rfl
theorem CD.noS.mkT {c : CD} (h : c.noS) (z : Int) : c.mkT z = c := by
  cases c with
  | sl wd n x => exact absurd rfl (h wd n x)
  | _ => rfl
theorem noS_fl {c : CD} {k : FloatKind} (h : c.flk = some k) : c.noS := flk_ne h
theorem noS_int {k : IntKind} {z : Int} : (CD.int k z).noS := by intro a b c e; cases e
theorem noS_bool {b : Bool} : (CD.bool b).noS := by intro a b c e; cases e
theorem noS_str {b : ByteArray} : (CD.str b).noS := by intro a b c e; cases e
theorem noL_nil : ∀ c ∈ ([] : List CD), c.noS := fun c h => by cases h
theorem noL_cons {c : CD} {cs : List CD} (h : c.noS) (hs : ∀ d ∈ cs, d.noS) : ∀ d ∈ c :: cs, d.noS := fun d hd => by
  rcases List.mem_cons.1 hd with rfl | hd
  · exact h
  · exact hs d hd
theorem mkL_leaf {cs : List CD} (h : ∀ c ∈ cs, c.noS) : mtL cs = 0 ∧ ∀ z, mkL cs z = cs := by
  induction cs with
  | nil => exact ⟨rfl, fun _ => rfl⟩
  | cons c cs ih =>
    obtain ⟨h1, h2⟩ := ih (fun d hd => h d (List.mem_cons_of_mem _ hd))
    have h0 := h c List.mem_cons_self
    exact ⟨by simp [mtL, h0.mt, h1], fun z => by simp [mkL, h0.mkT, h2]⟩
theorem mkL_leaf_end {a cs : List CD} (h : ∀ c ∈ cs, c.noS) (z : Int) : mkL (a ++ cs) z = mkL a z ++ cs := by
  rw [mkL_append, (mkL_leaf h).2]
theorem LayL.atz {w : World} {S : Nat → Prop} {cs : List CD} {vs : List Value} {z z' : Int} (h : LayL w S (mkL cs z) vs) (e : z = z') : LayL w S (mkL cs z') vs := e ▸ h
theorem RdL.atz {w : World} {B : Nat} {cs : List CD} {vs : List Value} {z z' : Int} (h : RdL w B (mkL cs z) vs) (e : z = z') : RdL w B (mkL cs z') vs := e ▸ h
/-- What does not lead to memory stands anywhere. -/
theorem LayL.leafs {w w' : World} {S S' : Nat → Prop} {cs : List CD} {vs : List Value} (hc : ∀ c ∈ cs, c.noS) (h : LayL w S cs vs) (z : Int) : LayL w' S' (mkL cs z) vs := by
  rw [(mkL_leaf hc).2]
  obtain ⟨h0, T, t1, t2, t3⟩ := h
  refine ⟨h0, fun _ _ => False, fun _ _ h => h.elim, fun _ _ _ h => h.elim, fun i v c hv hc' => ?_⟩
  have h1 := t3 i v c hv hc'
  have h2 := hc c (List.mem_of_getElem? hc')
  cases c with
  | sl wd n x => exact absurd rfl (h2 wd n x)
  | _ => exact h1
theorem RdL.leafs {w : World} {B : Nat} {cs : List CD} {vs : List Value} {z : Int} (hc : ∀ c ∈ cs, c.noS) (h : RdL w B (mkL cs z) vs) : RdL w B cs vs := by
  rwa [(mkL_leaf hc).2] at h
theorem LayL.lt {w : World} {S : Nat → Prop} {cs : List CD} {vs : List Value} (h : LayL w S cs vs) : LayL w (fun j => S j ∧ j < w.heap.size) cs vs := by
  obtain ⟨h0, T, t1, t2, t3⟩ := h
  exact ⟨h0, fun i j => T i j ∧ j < w.heap.size, fun i j h => ⟨t1 i j h.1, h.2⟩, fun i i' j a b => t2 i i' j a.1 b.1, fun i v c hv hc => (t3 i v c hv hc).lt⟩
theorem LayL.split {w : World} {S : Nat → Prop} {a b : List CD} {vs : List Value} (h : LayL w S (a ++ b) vs) : ∃ va vb S1 S2, vs = va ++ vb ∧ LayL w S1 a va ∧ LayL w S2 b vb ∧ (∀ j, S1 j → S j) ∧ (∀ j, S2 j → S j) ∧ (∀ j, S1 j → S2 j → False) := by
  obtain ⟨h0, T, t1, t2, t3⟩ := h
  have hl : vs.length = a.length + b.length := by simpa using h0
  refine ⟨vs.take a.length, vs.drop a.length, fun j => ∃ i, i < a.length ∧ T i j, fun j => ∃ i, T (a.length + i) j, (List.take_append_drop _ _).symm, ⟨by simp; omega, fun i j => i < a.length ∧ T i j, fun i j h => ⟨i, h⟩, fun i i' j x y => t2 i i' j x.2 y.2, fun i v c hv hc => ?_⟩, ⟨by simp; omega, fun i j => T (a.length + i) j, fun i j h => ⟨i, h⟩, fun i i' j x y => by have := t2 _ _ j x y; omega, fun i v c hv hc => ?_⟩, fun j ⟨i, h⟩ => t1 i j h.2, fun j ⟨i, h⟩ => t1 _ j h, fun j ⟨i, h⟩ ⟨i', h'⟩ => by have := t2 _ _ j h.2 h'; omega⟩
  · have hi : i < a.length := (List.getElem?_eq_some_iff.1 hc).1
    refine (t3 i v c (by rw [List.getElem?_take] at hv; simpa [hi] using hv) (by rw [List.getElem?_append_left hi]; exact hc)).mono (fun j hj => ⟨hi, hj⟩)
  · exact t3 (a.length + i) v c (by rw [List.getElem?_drop] at hv; exact hv) (by rw [List.getElem?_append_right (by omega)]; simpa using hc)
theorem RdL.split {w : World} {B : Nat} {a b : List CD} {vs : List Value} (h : RdL w B (a ++ b) vs) : ∃ va vb, vs = va ++ vb ∧ RdL w B a va ∧ RdL w B b vb := by
  obtain ⟨h0, h1⟩ := h
  have hl : vs.length = a.length + b.length := by simpa using h0
  refine ⟨vs.take a.length, vs.drop a.length, (List.take_append_drop _ _).symm, ⟨by simp; omega, fun i v c hv hc => ?_⟩, ⟨by simp; omega, fun i v c hv hc => ?_⟩⟩
  · have hi : i < a.length := (List.getElem?_eq_some_iff.1 hc).1
    exact h1 i v c (by rw [List.getElem?_take] at hv; simpa [hi] using hv) (by rw [List.getElem?_append_left hi]; exact hc)
  · exact h1 (a.length + i) v c (by rw [List.getElem?_drop] at hv; exact hv) (by rw [List.getElem?_append_right (by omega)]; simpa using hc)
/-- What lies apart from what has turned, stands. -/
theorem LayL.apart {w w' : World} {S T : Nat → Prop} {cs : List CD} {vs : List Value} (h : LayL w S cs vs) (k : Chg T w w') (hd : ∀ j, S j → T j → False) : LayL w' S cs vs :=
  (h.lt.ok (fun j hj => k.block j hj.2 (fun hT => hd j hj.1 hT))).mono (fun _ hj => hj.1)
/-- The frame over a base in which older blocks have turned as well. -/
theorem Frg.rebase {w0 w w' : World} {L : List Fact} (h : Frg w0 w L) {S : Nat → Prop} (k : Chg S w w') (hS : ∀ j, S j → j < w0.heap.size) : ∃ wb, Frg wb w' L ∧ Chg S w0 wb ∧ wb.heap.size = w0.heap.size ∧ ∀ j, j < w0.heap.size → wb.heap[j]? = w'.heap[j]? := by
  have hz : w0.heap.size ≤ w'.heap.size := Nat.le_trans h.below.size k.size
  have hh : ∀ j, j < w0.heap.size → (w'.heap.extract 0 w0.heap.size)[j]? = w'.heap[j]? := fun j hj => by
    rw [Array.getElem?_extract]; simp; intro hq; omega
  have hs : (w'.heap.extract 0 w0.heap.size).size = w0.heap.size := by simp; omega
  refine ⟨{ w' with heap := w'.heap.extract 0 w0.heap.size }, ⟨⟨rfl, rfl, rfl, by show _ ≤ _; rw [hs]; exact hz, fun j hj => ?_⟩, fun e he => ?_, h.apart⟩, ⟨k.os.trans h.below.os, k.tape.trans h.below.tape, k.output.trans h.below.output, by show _ ≤ _; rw [hs]; exact Nat.le_refl _, fun j hj hn => ?_⟩, hs, hh⟩
  · have hj' : j < w0.heap.size := by have : j < (w'.heap.extract 0 w0.heap.size).size := hj; omega
    exact (hh j hj').symm
  · obtain ⟨h1, h2, h3⟩ := h.facts e he
    refine ⟨by show _ ≤ _; rw [hs]; exact h1, Nat.le_trans h2 k.size, e.ok w w' h3 (fun i hi1 hi2 => k.block i (by omega) (fun hq => by have := hS i hq; omega))⟩
  · show (w'.heap.extract 0 w0.heap.size)[j]? = w0.heap[j]?
    rw [hh j hj, k.block j (Nat.lt_of_lt_of_le hj h.below.size) hn, h.below.block j hj]
/-- A fact, by its place in the list, is turned. -/
theorem Frg.markAt {w0 w w' : World} {L : List Fact} (i : Nat) {lo hi : Nat} {cs cs' : List CD} {us : List Value} (h : Frg w0 w L) (hp : LayL w' (rng lo hi) cs' us) (k : Chg (rng lo hi) w w') (hi' : L[i]? = some (layF lo hi cs us)) : Frg w0 w' (L.set i (layF lo hi cs' us)) := by
  obtain ⟨hlt, he⟩ := List.getElem?_eq_some_iff.1 hi'
  have e1 : L = L.take i ++ layF lo hi cs us :: L.drop (i + 1) := by
    rw [← he, List.getElem_cons_drop, List.take_append_drop]
  have e2 : L.set i (layF lo hi cs' us) = L.take i ++ layF lo hi cs' us :: L.drop (i + 1) := List.set_eq_take_append_cons_drop.trans (if_pos hlt)
  rw [e2]
  rw [e1] at h
  exact Frg.chg _ (e' := layF lo hi cs' us) h k hp rfl rfl
theorem mkE_cn : ∀ c : CD, c.cn.mkE = c.mkE := by
  intro c
  induction c with
  | sl wd n x ih => simp only [CD.cn, CD.mkE]; congr 1; funext i; exact ih i
  | _ => rfl
theorem mt_cp (c : CD) : c.cp.mt = c.mt := by
  cases c with
  | sl wd n x => exact mkE_cn (.sl wd n x)
  | _ => rfl
theorem mtL_cp (cs : List CD) : mtL (cs.map CD.cp) = mtL cs := by
  induction cs with
  | nil => rfl
  | cons c cs ih => simp only [List.map_cons, mtL, mt_cp, ih]
end Go.Fk
namespace Go.Proofs.Ythjdklolbkhbfaa
open Go.RowKit Go.Fk
set_option maxHeartbeats 1000000 in
theorem markU_Float32S (S : Nat → Prop) (n : Nat) (x : Nat → CD) (s : Value) (z : Int) (w : World) (hn : mtL [CD.sl 1 n x] ≤ 1048576) (hz : 0 ≤ z) (hz2 : z ≤ 1073741824) (hx : ∀ i, i < n → ∀ j, j < 1 → ShOk ([Sh.flt .f32].getD j .bool) (x (i * 1 + j))) (hs : LayL w S [.sl 1 n x] [s]) :
    Calls Try.prog 20 #[s, .int .i64 z] w fun e w' => e = .returned (.int .i64 (z + (mtL [CD.sl 1 n x] : Nat))) ∧ LayL w' S (mkL [.sl 1 n x] z) [s] ∧ Chg S w w' := by
  have hx' := ShOk.flts hx rfl
  have em : mtL [CD.sl 1 n x] = n := by simp only [mtL, CD.mt_flts hx']; omega
  rw [em] at hn ⊢
  obtain ⟨v, vs, S1, S2, e0, hl, _, hS, _, _⟩ := hs.inv
  obtain ⟨rfl, rfl⟩ : s = v ∧ [] = vs := by simpa using e0
  have key : ∀ w', (CD.sl 1 n (fun i => .fcn .f32 (markW z i))).Lay w' S1 s → LayL w' S (mkL [.sl 1 n x] z) [s] := fun w' h => LayL.cons (h.congr (CD.mk_flts hx' z)) (LayL.nil _ (fun _ => False)) hS (fun _ h => h.elim) (fun _ _ h => h)
  have KEY := hid key; clear key e0 hs em
  rcases hl with ⟨rfl, rfl⟩ | ⟨b, o, cap, t, cs, rfl, hc, hg, hb, hr, T, t1, t2, t3⟩
  · go_enter Try.func20, Try.ntmps20
    go_wp2
    go_loop [1, 5] (fun m i => m = .int .i64 z ∧ i = .int .i64 0) (fun _ _ => 0)
    case atStart => exact ⟨rfl, rfl⟩
    case round =>
      obtain ⟨rfl, rfl⟩ := hrel
      go_wp2
      go_ret
      exact ⟨ret_i (by simp), KEY.out _ (.inl ⟨rfl, rfl⟩), Chg.refl _ _⟩
  · have hxx : ∀ j, j < n → ∃ y, cs[o + j]? = some (.float .f32 y) ∧ fits .f32 y := fun j hj => by
      obtain ⟨u, hu, hl⟩ := t3 j (by simpa using hj)
      have hl' : (x j).Rd w (w.heap.size) u := hl.lt.rd (fun j hj => hj.2)
      obtain ⟨y, rfl, e2, e3⟩ := hl'.fl (hx' j hj)
      exact ⟨y, hu, e2⟩
    have HR := hid hr; have HX := hid hxx; have HB := hid (hS b hb); have HS := hid hb; clear hr hx hxx t1 t2 t3 T hb hx'
    go_enter Try.func20, Try.ntmps20
    go_wp2
    go_loopw [1, 5] (fun m i wr => ∃ k : Nat, k ≤ n ∧ i = .int .i64 k ∧ m = .int .i64 (z + k) ∧ Hid (∃ ds, Row wr b t ds ∧ ∀ j, j < n → ∃ y, ds[o + j]? = some (.float .f32 y) ∧ fits .f32 y ∧ (j < k → can .f32 y = markW z j)) ∧ Hid (Chg S w wr)) (fun _ i _ => n - (intOf i).toNat)
    case atStart => exact ⟨0, by omega, rfl, by simp, ⟨cs, HR.out, fun j hj => by obtain ⟨y, e1, e2⟩ := HX.out j hj; exact ⟨y, e1, e2, fun h => absurd h (by omega)⟩⟩, Chg.refl _ _⟩
    case round =>
      obtain ⟨k, hk, rfl, rfl, HO, HU⟩ := hrel
      by_cases hlt : k < n
      · rename_i wr _
        obtain ⟨ds, hd, hy⟩ := HO.out
        obtain ⟨y0, c0, _⟩ := hy k hlt
        have c2 : wr.cell? ⟨b, o + k, none⟩ = some (.float .f32 y0) := (hd.cell? (o + k)).trans c0
        have f2 := hd.frozen (o + k)
        have HD := hid hd; have HY := hid hy; have HC := hid c0
        clear hd hy c0 HO
        go_wp2
        go_roundw
        case rel =>
          refine ⟨k + 1, by omega, by go_num, by go_num, ⟨_, HD.out.set (o + k) (.float .f32 (markW z k)), fun j hj => ?_⟩, Chg.setCell HU.out HB.out _⟩
          by_cases e : j = k
          · subst e
            refine ⟨markW z j, ?_, ?_, fun _ => ?_⟩
            · rw [Array.getElem?_setIfInBounds_self_of_lt (Array.getElem?_eq_some_iff.1 HC.out).1]
            · exact floatOfInt_wf .f32 _
            · exact can_int _
          · obtain ⟨y, e1, e2, e3⟩ := HY.out j hj
            exact ⟨y, by rw [Array.getElem?_setIfInBounds_ne (by omega)]; exact e1, e2, fun h => e3 (by omega)⟩
        case measure => simp [intOf]; omega
      · obtain rfl : k = n := by omega
        go_wp2
        go_ret
        obtain ⟨ds, hd, hy⟩ := HO.out
        exact ⟨rfl, KEY.out _ (.inr ⟨b, o, cap, t, ds, rfl, hc, hg, HS.out, hd, fun _ _ => False, fun _ _ h => h.elim, fun _ _ _ h => h.elim, fun j hj => by obtain ⟨y, e1, e2, e3⟩ := hy j (by simpa using hj); exact ⟨_, e1, y, rfl, e2, e3 (by simpa using hj)⟩⟩), HU.out⟩
theorem heldU_Float32S (B n : Nat) (x : Nat → CD) (s : Value) (z : Int) (w : World) (hn : mtL [CD.sl 1 n x] ≤ 1048576) (hz : 0 ≤ z) (hz2 : z ≤ 1073741824) (hx : ∀ i, i < n → ∀ j, j < 1 → ShOk ([Sh.flt .f32].getD j .bool) (x (i * 1 + j))) (hs : RdL w B (mkL [.sl 1 n x] z) [s]) :
    Calls Try.prog 21 #[s, .int .i64 z] w fun e w' => e = .returned (.int .i64 (z + (mtL [CD.sl 1 n x] : Nat))) ∧ le w w' := by
  have hx' := ShOk.flts hx rfl
  have em : mtL [CD.sl 1 n x] = n := by simp only [mtL, CD.mt_flts hx']; omega
  rw [em] at hn ⊢
  have h0 := hs.2 0 s _ rfl rfl
  exact (heldR B s n z w hn hz hz2 (h0.congr (CD.mk_flts hx' z).symm).rds).mono (fun e w' ⟨h1, h2⟩ => ⟨h1, h2 ▸ le_refl _⟩)
end Go.Proofs.Ythjdklolbkhbfaa

/- What functions give that make a struct with memory of its own. Nothing here names a program. -/
namespace Go.Fk
open Go Go.RowKit
def OutV_Ti (ar0 : List CD) (ar1 : Int) (w : World) (e : Ending) (w' : World) : Prop := ∃ (us : List Value), e = .returned (.tuple #[.agg us.toArray, .int .i64 ar1]) ∧ LayL w' (rng w.heap.size w'.heap.size) ar0 us ∧ le w w'
def OutV_Tfi (ar0 : List CD) (ar1 : Nat) (ar2 : Int) (w : World) (e : Ending) (w' : World) : Prop := ∃ (us : List Value) (v1 : Nat), e = .returned (.tuple #[.agg us.toArray, .float .f32 v1, .int .i64 ar2]) ∧ LayL w' (rng w.heap.size w'.heap.size) ar0 us ∧ le w w' ∧ can .f32 v1 = ar1
def OutV_Tli (ar0 : List CD) (xr1 : Nat → Nat) (nr1 : Nat) (ar2 : Int) (w : World) (e : Ending) (w' : World) : Prop := ∃ (us : List Value) (v1 : Value) (q : Nat), e = .returned (.tuple #[.agg us.toArray, v1, .int .i64 ar2]) ∧ LayL w' (rng w.heap.size q) ar0 us ∧ le w w' ∧ OwnS w' q w'.heap.size v1 xr1 nr1 ∧ w.heap.size ≤ q ∧ q ≤ w'.heap.size
def OutV_T (ar0 : List CD) (w : World) (e : Ending) (w' : World) : Prop := ∃ (us : List Value), e = .returned (.agg us.toArray) ∧ LayL w' (rng w.heap.size w'.heap.size) ar0 us ∧ le w w'
/-- Two results with memory: a struct, and a slice of floats behind it. -/
theorem Frg.lay2 {w0 w w' : World} {L : List Fact} (h : Frg w0 w L) (k : Below w.heap.size w w') {q : Nat} {cs : List CD} {us : List Value} {s : Value} {x : Nat → Nat} {n : Nat} (he : LayL w' (rng w.heap.size q) cs us) (ho : OwnS w' q w'.heap.size s x n) (h1 : w.heap.size ≤ q) (h2 : q ≤ w'.heap.size) : Frg w0 w' (ownF q w'.heap.size s x n :: layF w.heap.size q cs us :: L) := by
  have F1 := h.le k
  refine ⟨F1.below, fun e he' => ?_, .cons (fun x hx => ?_) (.cons (fun x hx => Nat.le_trans (h.facts x hx).2.1 (Nat.le_refl _)) F1.apart)⟩
  · rcases List.mem_cons.1 he' with rfl | he'
    · exact ⟨Nat.le_trans h.below.size h1, Nat.le_refl _, ho⟩
    · rcases List.mem_cons.1 he' with rfl | he'
      · exact ⟨h.below.size, h2, he⟩
      · exact F1.facts e he'
  · rcases List.mem_cons.1 hx with rfl | hx
    · exact Nat.le_refl _
    · exact Nat.le_trans (h.facts x hx).2.1 h1
end Go.Fk

/- Results of a Bow, as trees. -/
namespace Go.Fk
open Go Go.RowKit
def cdBow (x y : Nat → Nat) (nx ny : Nat) (j k : Int) (fk : Int) (a b c p q : Nat) (m o : Nat) : List CD := [.sl 1 nx (fun i => .fcn .f32 (x i)), .int .i64 j, .sl 1 ny (fun i => .fcn .f32 (y i)), .int .i64 k, .int .i64 fk, .flt .f32 a, .flt .f32 b, .flt .f32 c, .flt .f32 p, .flt .f32 q, .flt .f32 m, .flt .f32 o]
end Go.Fk
namespace Go.Proofs.Ythjdklolbkhbfaa
open Go.RowKit Go.Fk
theorem cdBow_sh (x y : Nat → Nat) (nx ny : Nat) (j k : Int) (fk : Int) (a b c p q : Nat) (m o : Nat) : ShOkL shBow (cdBow x y nx ny j k fk a b c p q m o) :=
  (ShOkL.cons ⟨_, _, rfl, fun i hi j hj => by obtain rfl : j = 0 := (by omega); rfl⟩ (ShOkL.cons ⟨_, rfl⟩ (ShOkL.cons ⟨_, _, rfl, fun i hi j hj => by obtain rfl : j = 0 := (by omega); rfl⟩ (ShOkL.cons ⟨_, rfl⟩ (ShOkL.cons ⟨_, rfl⟩ (ShOkL.cons rfl (ShOkL.cons rfl (ShOkL.cons rfl (ShOkL.cons rfl (ShOkL.cons rfl (ShOkL.cons rfl (ShOkL.cons rfl ShOkL.nil))))))))))))
theorem cdBow_sz (x y : Nat → Nat) (nx ny : Nat) (j k : Int) (fk : Int) (a b c p q : Nat) (m o : Nat) : szL (cdBow x y nx ny j k fk a b c p q m o) = nx + ny := by
  have e1 := CD.sz_flts (n := nx) (x := fun i => CD.fcn .f32 (x i)) (fun i _ => rfl)
  have e2 := CD.sz_flts (n := ny) (x := fun i => CD.fcn .f32 (y i)) (fun i _ => rfl)
  simp only [cdBow, szL, List.map_cons, List.map_nil, List.sum_cons, List.sum_nil, e1, e2]
  simp [CD.sz]
theorem layBow (x y : Nat → Nat) (nx ny : Nat) (j k : Int) (fk : Int) (a b c p q : Nat) (m o : Nat) {lo : Nat} {s t : Value} {w : World} (h : Two lo x nx y ny s t w) (wi : (Lit.int .i64 j).wf = true ∧ (Lit.int .i64 k).wf = true ∧ (Lit.int .i64 fk).wf = true) (hf : fits .f32 a ∧ fits .f32 b ∧ fits .f32 c ∧ fits .f32 p ∧ fits .f32 q ∧ fits .f32 m ∧ fits .f32 o) : LayL w (rng lo w.heap.size) (cdBow x y nx ny j k fk a b c p q m o) [s, .int .i64 j, t, .int .i64 k, .int .i64 fk, .float .f32 a, .float .f32 b, .float .f32 c, .float .f32 p, .float .f32 q, .float .f32 m, .float .f32 o] := by
  obtain ⟨wj, wk, wfk⟩ := wi
  obtain ⟨fa, fb, fc, fp, fq, fm, fo⟩ := hf
  obtain ⟨bq, dq, h1, h2, h3, h4, h5, h6, h7⟩ := h
  have e1 : LayL w (rng dq (dq + 1)) ([.sl 1 ny (fun i => .fcn .f32 (y i)), .int .i64 k, .int .i64 fk, .flt .f32 a, .flt .f32 b, .flt .f32 c, .flt .f32 p, .flt .f32 q, .flt .f32 m, .flt .f32 o] : List CD) [t, .int .i64 k, .int .i64 fk, .float .f32 a, .float .f32 b, .float .f32 c, .float .f32 p, .float .f32 q, .float .f32 m, .float .f32 o] := LayL.cons h2.lay (LayL.leaf ⟨rfl, wk⟩ (LayL.leaf ⟨rfl, wfk⟩ (LayL.leaf ⟨rfl, fa⟩ (LayL.leaf ⟨rfl, fb⟩ (LayL.leaf ⟨rfl, fc⟩ (LayL.leaf ⟨rfl, fp⟩ (LayL.leaf ⟨rfl, fq⟩ (LayL.leaf ⟨rfl, fm⟩ (LayL.leaf ⟨rfl, fo⟩ (LayL.nil _ (fun _ => False))))))))))) (fun _ h => h) (fun _ h => h.elim) (fun _ _ h => h)
  exact LayL.cons (S1 := rng bq (bq + 1)) (S2 := rng dq (dq + 1)) h1.lay (LayL.leaf ⟨rfl, wj⟩ e1) (fun j h => ⟨Nat.le_trans h4 h.1, by have := h.2; omega⟩) (fun j h => ⟨Nat.le_trans h6 h.1, by have := h.2; omega⟩) (fun j h h2 => by have a1 := h.1; have a2 := h.2; have b1 := h2.1; have b2 := h2.2; omega)
theorem layBow0 (w : World) (S : Nat → Prop) : LayL w S (cdBow (fun _ => 0) (fun _ => 0) 0 0 0 0 0 0 0 0 0 0 0 0) [.slice none 0 0, .int .i64 0, .slice none 0 0, .int .i64 0, .int .i64 0, .float .f32 0, .float .f32 0, .float .f32 0, .float .f32 0, .float .f32 0, .float .f32 0, .float .f32 0] :=
  (LayL.leaf (.inl ⟨rfl, rfl⟩) (LayL.leaf ⟨rfl, by decide⟩ (LayL.leaf (.inl ⟨rfl, rfl⟩) (LayL.leaf ⟨rfl, by decide⟩ (LayL.leaf ⟨rfl, by decide⟩ (LayL.leaf ⟨rfl, by simp [fits, Lit.wf]⟩ (LayL.leaf ⟨rfl, by simp [fits, Lit.wf]⟩ (LayL.leaf ⟨rfl, by simp [fits, Lit.wf]⟩ (LayL.leaf ⟨rfl, by simp [fits, Lit.wf]⟩ (LayL.leaf ⟨rfl, by simp [fits, Lit.wf]⟩ (LayL.leaf ⟨rfl, by simp [fits, Lit.wf]⟩ (LayL.leaf ⟨rfl, by simp [fits, Lit.wf]⟩ (LayL.nil _ _)))))))))))))
theorem okBow_j {x y : Nat → Nat} {nx ny : Nat} {j k : Int} {fk : Int} {a b c p q : Nat} {m o : Nat} (h : okBow x y nx ny j k fk a b c p q m o = true) : 1 ≤ nx ∧ nx ≤ 1024 ∧ 1 ≤ ny ∧ ny ≤ 1024 ∧ (∃ i : Nat, j = i ∧ i < nx) ∧ (∃ i : Nat, k = i ∧ i < ny) ∧ fk = 1 ∧ okF 1 a b c p q = true := by
  unfold okBow at h
  simp only [Bool.and_eq_true, beq_iff_eq] at h
  obtain ⟨⟨⟨⟨⟨q0, q1⟩, q2⟩, q3⟩, q4⟩, q5⟩ := h
  obtain ⟨a1, a2, i, rfl, a3⟩ := rngB_j q2
  obtain ⟨b1, b2, i2, rfl, b3⟩ := rngB_j q3
  subst q0
  exact ⟨a1, a2, b1, b2, ⟨i, rfl, a3⟩, ⟨i2, rfl, b3⟩, rfl, q1⟩
end Go.Proofs.Ythjdklolbkhbfaa

/- The smaller of two floats, up to the bits of NaN. Nothing here names a program. -/
namespace Go.Fk
open Go Go.RowKit
/-- The smaller one. -/
def fmin (k : FloatKind) (x y : Nat) : Nat := match k.format.order x y with
  | none => qnan k
  | some .lt => x
  | some .gt => y
  | some .eq => if (k.decode x).neg then x else y
theorem nan_minmax (k : FloatKind) (b : Bool) (x y t : Nat) : isNan k (Question.cut (.nanMinMax k b x y) t) = true ∧ fits k (Question.cut (.nanMinMax k b x y) t) := by
  have := nan_bits k x y t
  cases k <;> exact this
section
variable {P : Program}
theorem run_min2 (k : FloatKind) (x y : Nat) (hx : fits k x) (hy : fits k y) (w : World) : ∃ r n, (Builtin.min2 (.float k x) (.float k y)).run P w = .ok (.float k r) (w.drewN n) ∧ Hid (can k r = can k (fmin k x y)) ∧ Hid (fits k r) := by
  cases h : k.format.order x y with
  | none =>
    refine ⟨(Question.nanMinMax k false x y).cut (w.tape w.drawn (.nanMinMax k false x y)), 1, ?_, ?_, (nan_minmax k false x y _).2⟩
    · simp [Builtin.min2, h, Question.forced]; rfl
    · show can k _ = can k _
      rw [can_of_nan (nan_minmax k false x y _).1]; simp only [fmin, h]; exact (can_qnan k).symm
  | some o =>
    cases o with
    | lt => exact ⟨x, 0, by simp [Builtin.min2, h]; rfl, by show can k _ = can k _; simp only [fmin, h], hx⟩
    | gt => exact ⟨y, 0, by simp [Builtin.min2, h]; rfl, by show can k _ = can k _; simp only [fmin, h], hy⟩
    | eq =>
      refine ⟨if (k.decode x).neg then x else y, 0, by simp [Builtin.min2, h]; rfl, by show can k _ = can k _; simp only [fmin, h], ?_⟩
      show fits k _
      split
      · exact hx
      · exact hy
theorem wpList_min {w : World} {ops : Array Oper} {rest : List Oper} {o : Oper} {a : Act} {Q : Exit → Act → World → Prop}
    (hg : o.guard = none) {x y : Operand} {ts : Array TypeId} (hop : o.op = Op.call { callee := Callee.builtin Builtin.min, args := #[x, y], argTypes := ts })
    {k : FloatKind} {p q : Nat} (hx : a.eval x = .float k p) (hy : a.eval y = .float k q) (fp : fits k p) (fq : fits k q)
    (hK : ∀ r n, Hid (can k r = can k (fmin k p q)) → Hid (fits k r) → wpList P ops Q rest (a.put o.dst (.float k r)) (w.drewN n)) : wpList P ops Q (o :: rest) a w := by
  refine wpList_plain hg fun K hK' => ?_
  obtain ⟨r, n, hrun, hr, hf⟩ := run_min2 (P := P) k p q fp fq w
  unfold Oper.wp
  simp [execOp, hop, hx, hy, Result.andThen, resolve, invoke, builtin, Builtin.min_, hrun]
  exact hK' _ _ (hK r n hr hf)
/-- An element of an array value. -/
theorem run_index_arrG (w : World) {t e : TypeId} {n k : Nat} {cs : Array Value} {v : Value} (h : P.underlying t = some (.array n e)) (ha : ∀ w, (isAgg e).run P w = .ok false w) (hs : (P.info? e).map (·.size) = some 1)
    (hk : k < n) (hc : cs[k]? = some v) (kk : IntKind) : (Instr.index t (.agg cs) (.int kk (k : Int))).run P w = .ok v w := by
  cases hq : P.info? e with
  | none => simp [hq] at hs
  | some i =>
    have hsz : i.size = 1 := by simpa [hq] using hs
    have h2 : (k : Int) < n := by omega
    simp [Instr.index, asIntOf, run_underlying h, sizeOf, typeInfo, hq, hsz, part, ha, h2, hc]
    exact fun h => by omega
theorem wpList_indexArr {w : World} {ops : Array Oper} {rest : List Oper} {o : Oper} {a : Act} {Q : Exit → Act → World → Prop}
    (hg : o.guard = none) {t : TypeId} {x y : Operand} (hop : o.op = .index t x y) {cs : Array Value} {kk : IntKind} {k : Nat} (hx : a.eval x = .agg cs) (hy : a.eval y = .int kk (k : Int)) {n : Nat} {e : TypeId} (hu : P.underlying t = some (.array n e)) (hs : (P.info? e).map (·.size) = some 1) (ha : ∀ w, (isAgg e).run P w = .ok false w) (hk : k < n) {v : Value} (hc : cs[k]? = some v)
    (h : wpList P ops Q rest (a.put o.dst v) w) : wpList P ops Q (o :: rest) a w := by
  refine wpList_plain hg fun K hK' => ?_
  unfold Oper.wp
  have := run_index_arrG (P := P) w hu ha hs hk hc kk
  simp [execOp, hop, hx, hy, this, Result.andThen]
  exact hK' _ _ h
end
end Go.Fk

/- Exactness: what a format has is written as it stands. Nothing here names a program. -/
namespace Go.Fk
open Go Go.RowKit

theorem cut_zero (s : Bool) (n : Nat) : Ieee.Toward.even.cut s n 0 = n := by
  simp [Ieee.Toward.cut, Nat.mod_one]

/-- What is cut off leaves nothing behind: the quotient. -/
theorem cut_exact (s : Bool) (n d : Nat) : Ieee.Toward.even.cut s (n * 2 ^ d) d = n := by
  by_cases hn : n = 0
  · subst hn
    have hp := Nat.two_pow_pos (min d (Nat.log2 0 + 2))
    simp only [Ieee.Toward.cut, Nat.zero_mul, Nat.one_shiftLeft, Nat.zero_div, Nat.zero_mod]
    simp
  · have h0 : n * 2 ^ d ≠ 0 := Nat.mul_ne_zero hn (Nat.ne_of_gt (Nat.two_pow_pos d))
    have hd : d ≤ (n * 2 ^ d).log2 := by
      refine (Nat.le_log2 h0).2 ?_
      exact Nat.le_mul_of_pos_left _ (by omega)
    have hp := Nat.two_pow_pos d
    simp only [Ieee.Toward.cut, Nat.one_shiftLeft]
    rw [Nat.min_eq_left (by omega), Nat.mul_div_cancel _ hp, Nat.mul_mod_left]
    simp

theorem cut_scale (s : Bool) (n d j : Nat) (hn : n ≠ 0) : Ieee.Toward.even.cut s (n * 2 ^ j) (d + j) = Ieee.Toward.even.cut s n d := by
  have hl : (n * 2 ^ j).log2 = n.log2 + j := by
    have h0 : n * 2 ^ j ≠ 0 := Nat.mul_ne_zero hn (Nat.ne_of_gt (Nat.two_pow_pos j))
    refine (Nat.log2_eq_iff h0).2 ⟨?_, ?_⟩
    · rw [Nat.pow_add]; exact Nat.mul_le_mul_right _ (Nat.log2_self_le hn)
    · rw [show n.log2 + j + 1 = (n.log2 + 1) + j by omega, Nat.pow_add]
      exact Nat.mul_lt_mul_of_pos_right Nat.lt_log2_self (Nat.two_pow_pos j)
  have hp := Nat.two_pow_pos j
  simp only [Ieee.Toward.cut, Nat.one_shiftLeft, hl]
  rw [show min (d + j) (n.log2 + j + 2) = min d (n.log2 + 2) + j by omega, Nat.pow_add, Nat.mul_div_mul_right _ _ hp, Nat.mul_mod_mul_right]
  generalize 2 ^ min d (n.log2 + 2) = g
  have e1 : decide (g * 2 ^ j < 2 * (n % g * 2 ^ j)) = decide (g < 2 * (n % g)) := by
    rw [← Nat.mul_assoc]
    exact decide_eq_decide.2 (Nat.mul_lt_mul_right hp)
  have e2 : (g * 2 ^ j == 2 * (n % g * 2 ^ j)) = (g == 2 * (n % g)) := by
    rw [← Nat.mul_assoc, Bool.eq_iff_iff, beq_iff_eq, beq_iff_eq]
    exact Nat.mul_left_inj (by omega)
  rw [e1, e2]

theorem log2_scale {n : Nat} (hn : n ≠ 0) (j : Nat) : (n * 2 ^ j).log2 = n.log2 + j := by
  have h0 : n * 2 ^ j ≠ 0 := Nat.mul_ne_zero hn (Nat.ne_of_gt (Nat.two_pow_pos j))
  refine (Nat.log2_eq_iff h0).2 ⟨?_, ?_⟩
  · rw [Nat.pow_add]; exact Nat.mul_le_mul_right _ (Nat.log2_self_le hn)
  · rw [show n.log2 + j + 1 = (n.log2 + 1) + j by omega, Nat.pow_add]
    exact Nat.mul_lt_mul_of_pos_right Nat.lt_log2_self (Nat.two_pow_pos j)

/-- What is written speaks of the number alone, not of how it is split. -/
theorem nearest_scale (f : Ieee.Format) (s : Bool) (m j : Nat) (e : Int) : f.nearest s (m * 2 ^ j) (e - j) = f.nearest s m e := by
  by_cases hm : m = 0
  · subst hm; simp [Ieee.Format.nearest]
  have h0 : m * 2 ^ j ≠ 0 := Nat.mul_ne_zero hm (Nat.ne_of_gt (Nat.two_pow_pos j))
  unfold Ieee.Format.nearest
  rw [if_neg hm, if_neg h0, log2_scale hm]
  rw [show e - (j : Int) + ((m.log2 + j : Nat) : Int) - f.fractionBits = e + m.log2 - f.fractionBits by omega]
  generalize max (e + (m.log2 : Int) - f.fractionBits) f.leastPlace = last
  dsimp only
  congr 3
  simp only [Nat.shiftLeft_eq]
  by_cases h1 : e ≤ last
  · rw [show (e - (j : Int) - last).toNat = 0 by omega, show (e - last).toNat = 0 by omega, show (last - (e - (j : Int))).toNat = (last - e).toNat + j by omega]
    simpa using cut_scale s m _ j hm
  · by_cases h2 : last ≤ e - j
    · rw [show (last - (e - (j : Int))).toNat = 0 by omega, show (last - e).toNat = 0 by omega, cut_zero, cut_zero, Nat.mul_assoc, ← Nat.pow_add,
        show j + (e - (j : Int) - last).toNat = (e - last).toNat by omega]
    · rw [show (e - (j : Int) - last).toNat = 0 by omega, show (last - e).toNat = 0 by omega, cut_zero, Nat.pow_zero, Nat.mul_one,
        show j = (e - last).toNat + (last - (e - (j : Int))).toNat by omega, Nat.pow_add, ← Nat.mul_assoc]
      rw [show (last - (e - (((e - last).toNat + (last - (e - (j : Int))).toNat : Nat) : Int))).toNat = (last - (e - (j : Int))).toNat by omega]
      exact cut_exact s _ _

/-- The place of the last digit that is kept. -/
def lastOf (f : Ieee.Format) (m : Nat) (e : Int) : Int := max (e + m.log2 - f.fractionBits) f.leastPlace

/-- A number that the format has is read as it was written, shifted to the format's own place. -/
theorem read_nearest (f : Ieee.Format) (s : Bool) (m : Nat) (e : Int) (hm : m ≠ 0) (hp : m.log2 ≤ f.fractionBits) (he : f.leastPlace ≤ e)
    (ho : e + m.log2 - f.fractionBits ≤ f.leastPlace + 2 ^ f.exponentBits - 3) (hx : 2 ≤ f.exponentBits) :
    f.read (f.nearest s m e) = .number s (m * 2 ^ (e - lastOf f m e).toNat) (lastOf f m e) ∧ f.nearest s m e % f.signWeight < f.infRung := by
  have hx4 : (4 : Int) ≤ 2 ^ f.exponentBits := by
    have h : 2 ^ 2 ≤ 2 ^ f.exponentBits := Nat.pow_le_pow_right (by omega) hx
    exact_mod_cast h
  have hb : f.binade = 2 ^ f.fractionBits := rfl
  have hbp : 0 < f.binade := by rw [hb]; exact Nat.two_pow_pos _
  have hl1 : lastOf f m e ≤ e := by unfold lastOf; omega
  have hl2 : f.leastPlace ≤ lastOf f m e := by unfold lastOf; omega
  have hl3 : lastOf f m e ≤ f.leastPlace + 2 ^ f.exponentBits - 3 := by unfold lastOf; omega
  have hlog : (m * 2 ^ (e - lastOf f m e).toNat).log2 = m.log2 + (e - lastOf f m e).toNat := log2_scale hm _
  have hM0 : m * 2 ^ (e - lastOf f m e).toNat ≠ 0 := Nat.mul_ne_zero hm (Nat.ne_of_gt (Nat.two_pow_pos _))
  have hM : m * 2 ^ (e - lastOf f m e).toNat < 2 * f.binade := by
    have h1 : m.log2 + (e - lastOf f m e).toNat ≤ f.fractionBits := by unfold lastOf; omega
    have := @Nat.lt_log2_self (m * 2 ^ (e - lastOf f m e).toNat)
    rw [hlog] at this
    calc _ < _ := this
      _ ≤ 2 ^ (f.fractionBits + 1) := Nat.pow_le_pow_right (by omega) (by omega)
      _ = 2 * f.binade := by rw [Nat.pow_succ, ← hb]; omega
  have hfull : f.leastPlace < lastOf f m e → f.binade ≤ m * 2 ^ (e - lastOf f m e).toNat := by
    intro h
    have h1 : m.log2 + (e - lastOf f m e).toNat = f.fractionBits := by unfold lastOf at h ⊢; omega
    have := Nat.log2_self_le hM0
    rw [hlog, h1, ← hb] at this
    exact this
  have hn : f.nearest s m e = f.word s (min ((lastOf f m e - f.leastPlace).toNat * f.binade + m * 2 ^ (e - lastOf f m e).toNat) f.infRung) := by
    unfold Ieee.Format.nearest
    rw [if_neg hm]
    show f.word s (min ((lastOf f m e - f.leastPlace).toNat * f.binade + Ieee.Toward.even.cut s (m <<< (e - lastOf f m e).toNat) (lastOf f m e - e).toNat) f.infRung) = _
    rw [show (lastOf f m e - e).toNat = 0 by omega, cut_zero, Nat.shiftLeft_eq]
  generalize hM' : m * 2 ^ (e - lastOf f m e).toNat = M at *
  generalize hq : (lastOf f m e - f.leastPlace).toNat = q at *
  have hq2 : q + 3 ≤ 2 ^ f.exponentBits := by
    have : (q : Int) + 3 ≤ ((2 ^ f.exponentBits : Nat) : Int) := by push_cast; omega
    exact_mod_cast this
  have hr : q * f.binade + M < f.infRung := by
    unfold Ieee.Format.infRung
    have h1 : (q + 2) * f.binade ≤ (2 ^ f.exponentBits - 1) * f.binade := Nat.mul_le_mul_right _ (by omega)
    rw [Nat.add_mul] at h1
    omega
  have hs : f.infRung < f.signWeight := Ieee.Format.infRung_lt _
  rw [Nat.min_eq_left (Nat.le_of_lt hr)] at hn
  rw [hn]
  have hmod := word_mod f s (r := q * f.binade + M) (by omega)
  refine ⟨?_, by rw [hmod]; exact hr⟩
  have hsg : (f.word s (q * f.binade + M) / f.signWeight % 2 == 1) = s := by
    unfold Ieee.Format.word
    cases s
    · simp [Nat.div_eq_of_lt (show q * f.binade + M < f.signWeight by omega)]
    · simp [Nat.add_div_left _ (show 0 < f.signWeight by omega), Nat.div_eq_of_lt (show q * f.binade + M < f.signWeight by omega)]
  unfold Ieee.Format.read
  simp only [hmod, hsg]
  by_cases hsub : q * f.binade + M < f.binade
  · rw [if_pos hsub]
    have hq0 : q = 0 := by
      apply Nat.eq_zero_of_not_pos
      intro h
      have : 1 * f.binade ≤ q * f.binade := Nat.mul_le_mul_right _ h
      omega
    rw [hq0]
    congr 1
    · simp
    · omega
  · rw [if_neg hsub, if_pos hr]
    have hMb : f.binade ≤ M := by
      by_cases h : f.leastPlace < lastOf f m e
      · exact hfull h
      · have : q = 0 := by omega
        rw [this] at hsub; omega
    have e1 : (q * f.binade + M) % f.binade = M - f.binade := by
      rw [Nat.mul_add_mod_self_right, Nat.mod_eq_sub_mod hMb, Nat.mod_eq_of_lt (by omega)]
    have e2 : (q * f.binade + M) / f.binade = q + 1 := by
      rw [Nat.mul_comm, Nat.mul_add_div hbp]
      congr 1
      rw [show M = f.binade + (M - f.binade) by omega, Nat.add_div_left _ hbp, Nat.div_eq_of_lt (by omega)]
    rw [e1, e2]
    congr 1
    · omega
    · omega

/-- What is read is written back. -/
theorem write_read (f : Ieee.Format) (hx : 2 ≤ f.exponentBits) (b : Nat) {s : Bool} {m : Nat} {e : Int} (h : f.read b = .number s m e) : f.nearest s m e = f.word s (b % f.signWeight) := by
  have hb : f.binade = 2 ^ f.fractionBits := rfl
  have hbp : 0 < f.binade := by rw [hb]; exact Nat.two_pow_pos _
  have hx4 : 4 ≤ 2 ^ f.exponentBits := Nat.pow_le_pow_right (n := 2) (by omega) hx
  have hinf : f.binade ≤ f.infRung := by
    unfold Ieee.Format.infRung
    exact Nat.le_mul_of_pos_left _ (by omega)
  unfold Ieee.Format.read at h
  dsimp only at h
  generalize b % f.signWeight = r at *
  split at h
  · rename_i h1
    simp only [Ieee.Datum.number.injEq] at h
    obtain ⟨_, rfl, rfl⟩ := h
    by_cases h0 : r = 0
    · subst h0; simp [Ieee.Format.nearest]
    · unfold Ieee.Format.nearest
      rw [if_neg h0]
      have h2 := h1
      rw [hb] at h2
      have := (Nat.log2_lt h0).2 h2
      rw [show max (f.leastPlace + (r.log2 : Int) - f.fractionBits) f.leastPlace = f.leastPlace by omega]
      simp only [Int.sub_self, Int.toNat_zero, Nat.shiftLeft_zero, cut_zero, Nat.zero_mul, Nat.zero_add]
      rw [Nat.min_eq_left (by omega)]
  · rename_i h1
    split at h
    · rename_i h2
      simp only [Ieee.Datum.number.injEq] at h
      obtain ⟨_, rfl, rfl⟩ := h
      have hlt := Nat.mod_lt r hbp
      have h0 : f.binade + r % f.binade ≠ 0 := by omega
      have e1 : (f.binade + r % f.binade).log2 = f.fractionBits := by
        refine (Nat.log2_eq_iff h0).2 ⟨?_, ?_⟩
        · rw [← hb]; omega
        · rw [Nat.pow_succ, ← hb]; omega
      have h3 : 1 ≤ r / f.binade := (Nat.le_div_iff_mul_le hbp).2 (by omega)
      unfold Ieee.Format.nearest
      rw [if_neg h0, e1]
      rw [show max (f.leastPlace + ((r / f.binade - 1 : Nat) : Int) + (f.fractionBits : Int) - f.fractionBits) f.leastPlace = f.leastPlace + ((r / f.binade - 1 : Nat) : Int) by omega]
      simp only [Int.sub_self, Int.toNat_zero, Nat.shiftLeft_zero, cut_zero]
      rw [show (f.leastPlace + ((r / f.binade - 1 : Nat) : Int) - f.leastPlace).toNat = r / f.binade - 1 by omega]
      have h4 : (r / f.binade - 1) * f.binade + (f.binade + r % f.binade) = r := by
        have h5 := Nat.div_add_mod r f.binade
        have h6 : (r / f.binade - 1) * f.binade + f.binade = r / f.binade * f.binade := by
          rw [← Nat.succ_mul]; congr 1; omega
        rw [Nat.mul_comm] at h5
        omega
      rw [h4, Nat.min_eq_left (by omega)]
    · split at h <;> cases h

theorem bits32 : FloatKind.f32.format.exponentBits = 8 ∧ FloatKind.f32.format.fractionBits = 23 ∧ FloatKind.f32.format.leastPlace = -149 ∧ FloatKind.f32.format.signWeight = 2147483648 ∧ FloatKind.f32.format.infRung = 2139095040 := by decide
theorem bits64 : FloatKind.f64.format.exponentBits = 11 ∧ FloatKind.f64.format.fractionBits = 52 ∧ FloatKind.f64.format.leastPlace = -1074 ∧ FloatKind.f64.format.signWeight = 9223372036854775808 ∧ FloatKind.f64.format.infRung = 9218868437227405312 := by decide

/-- What a narrow number's datum is made of. -/
theorem read32 {b : Nat} {s : Bool} {m : Nat} {e : Int} (h : FloatKind.f32.format.read b = .number s m e) : -149 ≤ e ∧ (m ≠ 0 → m.log2 ≤ 23 ∧ e + m.log2 + 1 ≤ 128) := by
  refine ⟨?_, fun h0 => ⟨?_, lt32 h h0⟩⟩
  all_goals
    have e1 : Ieee.single.signWeight = 2147483648 := by decide
    have e2 : Ieee.single.infRung = 2139095040 := by decide
    have e3 : Ieee.single.binade = 8388608 := by decide
    have e4 : Ieee.single.leastPlace = -149 := by decide
    simp only [FloatKind.format, Ieee.Format.read, e1, e2, e3, e4] at h
    split at h
    · simp only [Ieee.Datum.number.injEq] at h
      obtain ⟨_, rfl, rfl⟩ := h
      first | omega | (have : (b % 2147483648).log2 < 23 := (Nat.log2_lt h0).2 (by omega)
                       omega)
    · split at h
      · simp only [Ieee.Datum.number.injEq] at h
        obtain ⟨_, rfl, rfl⟩ := h
        first | omega | (have : (8388608 + b % 2147483648 % 8388608).log2 < 24 := (Nat.log2_lt h0).2 (by omega)
                         omega)
      · split at h <;> cases h

/-- A narrow number is widened exactly. -/
theorem read_widen {b : Nat} {s : Bool} {m : Nat} {e : Int} (h : FloatKind.f32.format.read b = .number s m e) :
    ∃ j : Nat, ∃ e', FloatKind.f64.format.read (widen b) = .number s (m * 2 ^ j) e' ∧ (m ≠ 0 → e' = e - j) ∧ widen b % 9223372036854775808 < 9218868437227405312 := by
  obtain ⟨b1, b2, b3, b4, b5⟩ := bits64
  obtain ⟨h1, h2⟩ := read32 h
  have hw : widen b = FloatKind.f64.format.nearest s m e := by simp only [widen, h]; rfl
  rw [hw]
  by_cases hm : m = 0
  · subst hm
    refine ⟨0, -1074, ?_, fun h => absurd rfl h, ?_⟩
    · cases s <;> simp [Ieee.Format.nearest, Ieee.Format.word] <;> decide
    · cases s <;> simp [Ieee.Format.nearest, Ieee.Format.word] <;> decide
  · obtain ⟨h3, h4⟩ := h2 hm
    obtain ⟨h5, h6⟩ := read_nearest FloatKind.f64.format s m e hm (by omega) (by omega) (by rw [b1, b2, b3]; omega) (by omega)
    rw [b4, b5] at h6
    refine ⟨_, _, h5, fun _ => ?_, h6⟩
    have : lastOf FloatKind.f64.format m e ≤ e := by unfold lastOf; omega
    omega
end Go.Fk
namespace Go.Fk
open Go Go.RowKit
theorem read_mod {k : FloatKind} {b : Nat} {s : Bool} {m : Nat} {e : Int} (h : k.format.read b = .number s m e) : k.format.read (b % k.format.signWeight) = .number false m e := by
  have hs : 0 < k.format.signWeight := by unfold Ieee.Format.signWeight; exact Nat.two_pow_pos _
  have e1 : (b % k.format.signWeight / k.format.signWeight % 2 == 1) = false := by
    rw [Nat.div_eq_of_lt (Nat.mod_lt _ hs)]; rfl
  unfold Ieee.Format.read at h ⊢
  dsimp only at h ⊢
  rw [e1, Nat.mod_mod]
  generalize b % k.format.signWeight = r at *
  split
  · rename_i h1
    rw [if_pos h1] at h
    simp only [Ieee.Datum.number.injEq] at h ⊢
    exact ⟨trivial, h.2⟩
  · rename_i h1
    rw [if_neg h1] at h
    split
    · rename_i h2
      rw [if_pos h2] at h
      simp only [Ieee.Datum.number.injEq] at h ⊢
      exact ⟨trivial, h.2⟩
    · rename_i h2
      rw [if_neg h2] at h
      split at h <;> cases h

/-- May be narrowed: what the language fixes, whole range. -/
def narrowableX (b : Nat) : Prop := ∀ s m e, FloatKind.f64.format.read b = .number s m e → (FloatKind.f32.decode (FloatKind.f32.encode (.number s m e))).isInfinity = false

/-- The size of a narrow number, by way of the wide ones. -/
theorem narrow_abs {b w : Nat} (hw : can .f64 w = can .f64 (widen b)) : narrowableX (w % 9223372036854775808) ∧ can .f32 (narrow (w % 9223372036854775808)) = can .f32 (b % 2147483648) := by
  obtain ⟨a1, a2, a3, a4, a5⟩ := bits32
  obtain ⟨b1, b2, b3, b4, b5⟩ := bits64
  cases hr : FloatKind.f32.format.read b with
  | nan s t =>
    have hn : isNan .f32 b = true := by simp [isNan, hr, Ieee.Datum.isNaN]
    have hq : widen b = qnan .f64 := by simp only [widen, hr]
    have hwn : isNan .f64 w = true := by rw [isNan_of_can hw, hq]; exact isNan_qnan _
    have hm : isNan .f64 (w % 9223372036854775808) = true := by rw [isNan_f64] at hwn ⊢; rwa [Nat.mod_mod]
    have hm2 : isNan .f32 (b % 2147483648) = true := by rw [isNan_f32] at hn ⊢; rwa [Nat.mod_mod]
    obtain ⟨s', t', hr'⟩ := read_nan hm
    refine ⟨fun s1 m1 e1 h => (by rw [hr'] at h; cases h), ?_⟩
    rw [can_of_nan hm2]
    simp only [narrow, hr', can_qnan]
  | infinity s =>
    have hb : b % 2147483648 = 2139095040 := by
      have e1 : Ieee.single.signWeight = 2147483648 := by decide
      have e2 : Ieee.single.infRung = 2139095040 := by decide
      simp only [FloatKind.format, Ieee.Format.read, e1, e2] at hr
      split at hr
      · cases hr
      · split at hr
        · cases hr
        · split at hr
          · assumption
          · cases hr
    have hq : widen b = FloatKind.f64.encode (.infinity s) := by simp only [widen, hr]
    have hwq : w = FloatKind.f64.encode (.infinity s) := by
      rw [hq] at hw
      exact (eq_of_can hw.symm (by cases s <;> decide)).symm
    rw [hwq, hb]
    have e1 : FloatKind.f64.format.read (FloatKind.f64.encode (.infinity s) % 9223372036854775808) = .infinity false := by cases s <;> decide
    refine ⟨fun s1 m1 e1' h => (by rw [e1] at h; cases h), ?_⟩
    simp only [narrow, e1]
    decide
  | number s m e =>
    obtain ⟨j, e', h1, h2, h3⟩ := read_widen hr
    have hwq : w = widen b := by
      refine (eq_of_can hw.symm ?_).symm
      simp [isNan, h1, Ieee.Datum.isNaN]
    rw [hwq]
    have h4 := read_mod h1
    have h5 := read_mod hr
    rw [b4] at h4
    rw [a4] at h5
    have h6 : FloatKind.f32.format.nearest false (m * 2 ^ j) e' = b % 2147483648 := by
      have h7 := write_read FloatKind.f32.format (by omega) (b % 2147483648) h5
      rw [a4, Nat.mod_mod] at h7
      by_cases hm : m = 0
      · subst hm
        rw [Nat.zero_mul]
        exact (show FloatKind.f32.format.nearest false 0 e' = FloatKind.f32.format.nearest false 0 e by simp [Ieee.Format.nearest]).trans h7
      · rw [h2 hm, nearest_scale, h7]; rfl
    have h8 : FloatKind.f32.encode (.number false (m * 2 ^ j) e') = b % 2147483648 := h6
    refine ⟨fun s1 m1 e1 h => ?_, ?_⟩
    · rw [h4] at h
      cases h
      rw [h8]
      have : FloatKind.f32.decode (b % 2147483648) = .number false m e := h5
      rw [this]; rfl
    · have : narrow (widen b % 9223372036854775808) = FloatKind.f32.encode (.number false (m * 2 ^ j) e') := by simp only [narrow, h4]
      rw [this, h8]

section
variable {P : Program}
theorem run_narrowX (w : World) (src dst : TypeId) (b : Nat) (hs : P.underlying src = some (.float .f64)) (hd : P.underlying dst = some (.float .f32)) (hb : narrowableX b) :
    ∃ r n, (convert src dst (.float .f64 b)).run P w = .ok (.float .f32 r) (w.drewN n) ∧ can .f32 r = can .f32 (narrow b) ∧ fits .f32 r := by
  cases hr : FloatKind.f64.format.read b with
  | nan s t =>
    refine ⟨(Question.nanConv .f32 b).cut (w.tape w.drawn (.nanConv .f32 b)), 1, ?_, ?_, (nan_conv .f32 b _).2⟩
    · simp [convert, run_underlying hs, run_underlying hd, Conv.floatToFloat, FloatKind.decode, hr, Question.forced]; rfl
    · rw [can_of_nan (nan_conv .f32 b _).1]; simp only [narrow, hr, can_qnan]
  | infinity s =>
    refine ⟨FloatKind.f32.encode (.infinity s), 0, ?_, by simp only [narrow, hr], encode_wf _ _⟩
    simp [convert, run_underlying hs, run_underlying hd, Conv.floatToFloat, FloatKind.decode, hr]; rfl
  | number s m e =>
    refine ⟨FloatKind.f32.encode (.number s m e), 0, ?_, by simp only [narrow, hr], encode_wf _ _⟩
    have h := hb s m e hr
    have hr' : FloatKind.f64.decode b = .number s m e := hr
    simp [convert, run_underlying hs, run_underlying hd, Conv.floatToFloat, hr', h]; rfl

variable {w : World} {ops : Array Oper} {rest : List Oper} {o : Oper} {a : Act} {Q : Exit → Act → World → Prop}
theorem wpList_narrowX (hg : o.guard = none) {src dst : TypeId} {x : Operand} (hop : o.op = Op.convert src dst x) {b : Nat} (hx : a.eval x = .float .f64 b)
    (hs : P.underlying src = some (.float .f64)) (hd : P.underlying dst = some (.float .f32)) (hb : narrowableX b)
    (hK : ∀ r n, Hid (can .f32 r = can .f32 (narrow b)) → Hid (fits .f32 r) → wpList P ops Q rest (a.put o.dst (.float .f32 r)) (w.drewN n)) : wpList P ops Q (o :: rest) a w := by
  refine wpList_plain hg fun K hK' => ?_
  obtain ⟨r, n, hrun, hr, hf⟩ := run_narrowX (P := P) w src dst b hs hd hb
  unfold Oper.wp
  simp [execOp, hop, hx, hrun, Result.andThen]
  exact hK' _ _ (hK r n hr hf)
end
end Go.Fk

/- What math.Float64bits, math.Float64frombits and math.Abs give. -/
namespace Go.Fk
open Go Go.RowKit
theorem andNot_sign (x : Nat) (hx : fits .f64 x) : (bits .andNot .u64 (x : Int) 9223372036854775808).toNat = x % 9223372036854775808 := by
  have h : x < 18446744073709551616 := by simp only [fits, Lit.wf, decide_eq_true_eq] at hx; omega
  have h1 := u64_andNot_nat x 9223372036854775808 (by omega) (by omega)
  rw [show ((9223372036854775808 : Nat) : Int) = 9223372036854775808 by rfl] at h1
  rw [h1, Int.toNat_natCast]
  exact Nat.and_two_pow_sub_one_eq_mod x 63
end Go.Fk
namespace Go.Proofs.Ythjdklolbkhbfaa
open Go.RowKit Go.Fk
@[go_sem] theorem run_f64bits (x : Nat) (w : World) : (callFunc 88 #[.float .f64 x]).run Try.prog w = .ok (.value (.int .u64 x)) w := by
  rw [run_callFunc_extern (e := Extern.MathFloatBits.float64bits) Try.func88 (by kernel_rfl) (by kernel_rfl) (by kernel_rfl) (by kernel_rfl)]; rfl
@[go_sem] theorem run_f64from (x : Int) (w : World) : (callFunc 87 #[.int .u64 x]).run Try.prog w = .ok (.value (.float .f64 x.toNat)) w := by
  rw [run_callFunc_extern (e := Extern.MathFloatBits.float64frombits) Try.func87 (by kernel_rfl) (by kernel_rfl) (by kernel_rfl) (by kernel_rfl)]; rfl
theorem abs64 (x : Nat) (w : World) (hx : fits .f64 x) : Calls Try.prog 78 #[.float .f64 x] w fun e w' => e = .returned (.float .f64 (x % 9223372036854775808)) ∧ w = w' := by
  have hn := andNot_sign x hx
  go_enter Try.func78, Try.ntmps78
  go_wp2
  go_ret
  exact ⟨rfl, rfl⟩
end Go.Proofs.Ythjdklolbkhbfaa

/- 'FrictionAt' of both. -/
namespace Go.Fk
open Go Go.RowKit
/-- A difference of speeds on the way to its friction: the parts of it, up to the bits of NaN. -/
def fr1 (p : Nat) : Nat := fop .add .f32 (p % 2147483648) 1061158912
theorem fits_one : fits .f32 1065353216 := by simp [fits, Lit.wf]
def frSq (a : Nat) : Nat := fop .mul .f32 a a
def fr4 (a : Nat) : Nat := can .f32 (fmin .f32 (fop .quo .f32 1065353216 a) 1065353216)
def friV (s d : Nat) : Nat := fr4 (frSq (frSq (fr1 (fop .mul .f32 s d))))
theorem mod_congr {a b : Nat} (h : can .f32 a = can .f32 b) : can .f32 (a % 2147483648) = can .f32 (b % 2147483648) := by
  cases hn : isNan .f32 a
  · rw [eq_of_can h hn]
  · have hm := (isNan_of_can h).symm.trans hn
    have h1 : isNan .f32 (a % 2147483648) = true := by rw [isNan_f32] at hn ⊢; rwa [Nat.mod_mod]
    have h2 : isNan .f32 (b % 2147483648) = true := by rw [isNan_f32] at hm ⊢; rwa [Nat.mod_mod]
    rw [can_of_nan h1, can_of_nan h2]
theorem fr1_congr {a b : Nat} (h : can .f32 a = can .f32 b) : fr1 a = fr1 b := fop_congr (mod_congr h) rfl
theorem frSq_congr {a b : Nat} (h : can .f32 a = can .f32 b) : frSq a = frSq b := fop_congr h h
theorem fmin_congr {a b c : Nat} (h : can .f32 a = can .f32 b) : can .f32 (fmin .f32 a c) = can .f32 (fmin .f32 b c) := by
  cases hn : isNan .f32 a
  · rw [eq_of_can h hn]
  · have hm := (isNan_of_can h).symm.trans hn
    unfold fmin
    rw [order_of_nan_l hn, order_of_nan_l hm]
theorem fr4_congr {a b : Nat} (h : can .f32 a = can .f32 b) : fr4 a = fr4 b := by
  unfold fr4
  have e : fop .quo .f32 1065353216 a = fop .quo .f32 1065353216 b := fop_congr rfl h
  rw [e]
theorem fr_can (op : BinOp) (k : FloatKind) (x y : Nat) : can k (fop op k x y) = fop op k x y := can_fop _ _ _ _
/-- A word that is equal to 1 is 1. -/
theorem one_of_eq {x : Nat} (hf : fits .f32 x) (h : FloatKind.f32.format.order x 1065353216 = some .eq) : x = 1065353216 := by
  have hx : isNan .f32 x = false := by
    cases hn : isNan .f32 x
    · rfl
    · rw [order_of_nan_l hn] at h; cases h
  rw [order_val hx (by decide)] at h
  have hv : val .f32 x = val .f32 1065353216 := Int.compare_eq_eq.1 (by simpa using h)
  have h1 : val .f32 1065353216 = 2 ^ 149 := by decide +kernel
  have hsm := val_small (k := .f32) (b := 1065353216) (s := false) (m := 8388608) (e := -23) (by decide)
  rw [h1] at hv hsm
  have x0 := fits32 hf
  unfold val at hv
  cases hr : FloatKind.f32.format.read x with
  | nan s t => rw [hr] at hv; simp only at hv; exact absurd hv.symm (by decide)
  | infinity s =>
    rw [hr] at hv
    simp only at hv
    have hp : (0 : Int) < 2 ^ 149 := by decide
    generalize (far : Int) = F at *
    generalize (2 : Int) ^ 149 = G at *
    cases s <;> simp at hv <;> omega
  | number s m e =>
    rw [hr] at hv
    simp only at hv
    rw [signed_eq] at hv
    have hp := read_place hr
    have e1 : Ieee.single.signWeight = 2147483648 := by decide
    have e2 : Ieee.single.infRung = 2139095040 := by decide
    have e3 : Ieee.single.binade = 8388608 := by decide
    have e4 : Ieee.single.leastPlace = -149 := by decide
    simp only [FloatKind.format, Ieee.Format.read, e1, e2, e3, e4] at hr
    have hs : s = false ∧ ((m * 2 ^ (e + (unitOf .f32 : Int)).toNat : Nat) : Int) = 2 ^ 149 := by
      cases s
      · refine ⟨rfl, ?_⟩
        push_cast; simpa using hv
      · exfalso
        simp only [if_true] at hv
        have hnn : (0 : Int) ≤ ((m * 2 ^ (e + (unitOf .f32 : Int)).toNat : Nat) : Int) := Int.natCast_nonneg _
        push_cast at hnn
        rw [Int.neg_mul] at hv
        have hp2 : (0 : Int) < 2 ^ 149 := by decide
        omega
    obtain ⟨rfl, hm⟩ := hs
    have hm2 : m * 2 ^ (e + (unitOf .f32 : Int)).toNat = 2 ^ 149 := by exact_mod_cast hm
    clear hv hm h1 hsm hp h hx
    split at hr
    · rename_i h2
      have h2' : x % 2147483648 < 8388608 := by simpa using h2
      simp only [Ieee.Datum.number.injEq] at hr
      obtain ⟨_, rfl, rfl⟩ := hr
      exfalso
      have : x % 2147483648 * 2 ^ ((-149 : Int) + (unitOf .f32 : Int)).toNat = x % 2147483648 := by
        show _ * 2 ^ 0 = _; omega
      rw [this] at hm2
      have : (2 : Nat) ^ 149 > 8388608 := by decide
      omega
    · split at hr
      · simp only [Ieee.Datum.number.injEq] at hr
        obtain ⟨hs, rfl, rfl⟩ := hr
        have hj : ((-149 : Int) + ((x % 2147483648 / 8388608 - 1 : Nat) : Int) + (unitOf .f32 : Int)).toNat = x % 2147483648 / 8388608 - 1 := by
          show ((-149 : Int) + ((x % 2147483648 / 8388608 - 1 : Nat) : Int) + 149).toNat = _; omega
        rw [hj] at hm2
        generalize hJ : x % 2147483648 / 8388608 - 1 = j at hm2
        have hj1 : j = 126 := by
          by_cases a : j ≤ 125
          · exfalso
            have := Nat.pow_le_pow_right (show 0 < 2 by omega) a
            have h5 : (8388608 + x % 2147483648 % 8388608) * 2 ^ j < 16777216 * 2 ^ 125 := by
              calc (8388608 + x % 2147483648 % 8388608) * 2 ^ j ≤ 16777215 * 2 ^ 125 := Nat.mul_le_mul (by omega) this
                _ < 16777216 * 2 ^ 125 := by decide
            rw [hm2] at h5
            exact absurd h5 (by decide)
          · by_cases b : 127 ≤ j
            · exfalso
              have := Nat.pow_le_pow_right (show 0 < 2 by omega) b
              have h5 : 8388608 * 2 ^ 127 ≤ (8388608 + x % 2147483648 % 8388608) * 2 ^ j := Nat.mul_le_mul (by omega) this
              rw [hm2] at h5
              exact absurd h5 (by decide)
            · omega
        subst hj1
        have hmm : 8388608 + x % 2147483648 % 8388608 = 8388608 := Nat.eq_of_mul_eq_mul_right (show 0 < 2 ^ 126 by decide) (hm2.trans (by decide))
        have hs' : x / 2147483648 % 2 = 0 := by
          have : (x / 2147483648 % 2 == 1) = false := hs
          simp at this; omega
        omega
      · split at hr <;> cases hr
/-- What stands behind k of the four steps. -/
def frK (p : Nat) : Nat → Nat
  | 0 => can .f32 p
  | 1 => fr1 p
  | 2 => frSq (fr1 p)
  | 3 => frSq (frSq (fr1 p))
  | _ => fr4 (frSq (frSq (fr1 p)))
end Go.Fk
namespace Go.Proofs.Ythjdklolbkhbfaa
open Go.RowKit Go.Fk
theorem i_raised (p : Nat) (w : World) (hp : fits .f32 p) : Calls Try.prog 55 #[.float .f32 p] w fun e w' => ∃ r, e = .returned (.float .f32 r) ∧ can .f32 r = fr1 p ∧ fits .f32 r ∧ le w w' := by
  go_enter Try.func55, Try.ntmps55
  go_wp2_with (first | (with_reducible refine wpList_farith rfl rfl rfl rfl rfl ?_; intro r1 n1 hr1 hf1) | (with_reducible refine wpList_widen rfl rfl rfl Try.underlying92 Try.underlying45 ?_; intro s1 n1 h1 f1; have hwf := f1.out; have hna := hid (narrow_abs h1.out)) | (go_at_call 78; refine (abs64 _ _ hwf).mono ?_; rintro e w' ⟨rfl, rfl⟩) | (with_reducible refine wpList_narrowX rfl rfl rfl Try.underlying45 Try.underlying92 (by exact hna.out.1) ?_; intro q nq hq hqf))
  go_ret
  refine ⟨_, rfl, ?_, hf1.out, le_drewN _ _⟩
  rw [hr1.out]
  exact fop_congr (hq.out.trans hna.out.2) rfl
theorem i_squared (p : Nat) (w : World) : Calls Try.prog 56 #[.float .f32 p] w fun e w' => ∃ r, e = .returned (.float .f32 r) ∧ can .f32 r = frSq p ∧ fits .f32 r ∧ le w w' := by
  go_enter Try.func56, Try.ntmps56
  go_wp2_with (first | (with_reducible refine wpList_farith rfl rfl rfl rfl rfl ?_; intro r1 n1 hr1 hf1))
  go_ret
  exact ⟨_, rfl, hr1.out, hf1.out, le_drewN _ _⟩
theorem i_slipShare (p : Nat) (w : World) : Calls Try.prog 57 #[.float .f32 p] w fun e w' => ∃ r, e = .returned (.float .f32 r) ∧ can .f32 r = fr4 p ∧ fits .f32 r ∧ le w w' := by
  go_enter Try.func57, Try.ntmps57
  go_wp2_with (first | (with_reducible refine wpList_farith rfl rfl rfl rfl rfl ?_; intro r1 n1 hr1 hf1) | (with_reducible refine wpList_min rfl rfl rfl rfl hf1.out fits_one ?_; intro r2 n2 hr2 hf2))
  go_ret
  refine ⟨_, rfl, ?_, hf2.out, le_drewN _ _⟩
  rw [hr2.out]
  exact fmin_congr (hr1.out.trans (can_fop _ _ _ _).symm)
theorem slipOne : (Try.prog.info? 93).map (·.size) = some 1 := by kernel_rfl
theorem slipKind : ∀ w : World, (isAgg 93).run Try.prog w = .ok false w := fun w => by kernel_rfl
set_option maxRecDepth 100000 in
set_option maxHeartbeats 2000000 in
theorem i_FrictionAt (s d : Nat) (w : World) : Calls Try.prog 32 #[.float .f32 s, .float .f32 d] w (Out_f (friV s d) w) := by
  go_enter Try.func32, Try.ntmps32
  go_wp2_with (first | (with_reducible refine wpList_farith rfl rfl rfl rfl rfl ?_; intro r1 n1 hr1 hf1))
  have HL := hid (le_drewN w n1)
  have HF := hid hf1.out; have HR := hid hr1.out
  go_loopw [5, 12] (fun sv i wr => ∃ (k : Nat) (r : Nat), k ≤ 4 ∧ i = .int .i64 k ∧ sv = .float .f32 r ∧ Hid (can .f32 r = frK r1 k) ∧ Hid (fits .f32 r) ∧ Hid (le w wr)) (fun _ i _ => 4 - (intOf i).toNat)
  case atStart => exact ⟨0, _, by omega, rfl, rfl, rfl, HF.out, HL.out⟩
  case round =>
    obtain ⟨k, r, hk, rfl, rfl, HRk, HFk, HLk⟩ := hrel
    match k, hk with
    | 0, _ =>
      go_wp2_with (first | (refine wpList_indexArr rfl rfl (k := 0) rfl rfl Try.underlying95 slipOne slipKind (by decide) rfl ?_) | go_at_call 55; ((with_reducible refine (i_raised _ _ HFk.out).mono ?_); rintro e w2 ⟨q, rfl, hq, fq, hl⟩; have HQ := hid hq; have FQ := hid fq; have HL2 := hid (le_trans HLk.out hl); clear hq fq hl))
      go_roundw
      case rel => exact ⟨1, q, by omega, by go_num, rfl, HQ.out.trans (fr1_congr (show can .f32 r = can .f32 r1 from HRk.out)), FQ.out, HL2.out⟩
      case measure => simp [intOf]
    | 1, _ =>
      go_wp2_with (first | (refine wpList_indexArr rfl rfl (k := 1) rfl rfl Try.underlying95 slipOne slipKind (by decide) rfl ?_) | go_at_call 56; ((with_reducible refine (i_squared _ _).mono ?_); rintro e w2 ⟨q, rfl, hq, fq, hl⟩; have HQ := hid hq; have FQ := hid fq; have HL2 := hid (le_trans HLk.out hl); clear hq fq hl))
      go_roundw
      case rel => exact ⟨2, q, by omega, by go_num, rfl, HQ.out.trans (frSq_congr (HRk.out.trans (can_fop _ _ _ _).symm)), FQ.out, HL2.out⟩
      case measure => simp [intOf]
    | 2, _ =>
      go_wp2_with (first | (refine wpList_indexArr rfl rfl (k := 2) rfl rfl Try.underlying95 slipOne slipKind (by decide) rfl ?_) | go_at_call 56; ((with_reducible refine (i_squared _ _).mono ?_); rintro e w2 ⟨q, rfl, hq, fq, hl⟩; have HQ := hid hq; have FQ := hid fq; have HL2 := hid (le_trans HLk.out hl); clear hq fq hl))
      go_roundw
      case rel => exact ⟨3, q, by omega, by go_num, rfl, HQ.out.trans (frSq_congr (HRk.out.trans (can_fop _ _ _ _).symm)), FQ.out, HL2.out⟩
      case measure => simp [intOf]
    | 3, _ =>
      go_wp2_with (first | (refine wpList_indexArr rfl rfl (k := 3) rfl rfl Try.underlying95 slipOne slipKind (by decide) rfl ?_) | go_at_call 57; ((with_reducible refine (i_slipShare _ _).mono ?_); rintro e w2 ⟨q, rfl, hq, fq, hl⟩; have HQ := hid hq; have FQ := hid fq; have HL2 := hid (le_trans HLk.out hl); clear hq fq hl))
      go_roundw
      case rel => exact ⟨4, q, by omega, by go_num, rfl, HQ.out.trans (fr4_congr (HRk.out.trans (can_fop _ _ _ _).symm)), FQ.out, HL2.out⟩
      case measure => simp [intOf]
    | 4, _ =>
      go_wp2
      go_ret
      exact ⟨r, rfl, HRk.out.trans (by
        unfold friV
        show fr4 _ = _
        rw [fr1_congr (show can .f32 r1 = can .f32 (fop .mul .f32 s d) by rw [can_fop]; exact HR.out)]), HLk.out⟩
theorem s_l05Friction (s d : Nat) (w : World) : Calls Try.prog 26 #[.float .f32 s, .float .f32 d] w (Out_f (friV s d) w) := by
  go_enter Try.func26, Try.ntmps26
  go_wp2_with (first | (with_reducible refine wpList_farith (op := .mul) (p := s) (q := d) rfl rfl rfl rfl rfl ?_; intro r1 n1 hr1 hf1; have gf1 := hf1.out) | (go_at_call 47; refine (s_l01Abs _ _ gf1).mono ?_; rintro e w' ⟨rfl, rfl⟩) | (with_reducible refine wpList_farith (op := .add) rfl rfl rfl rfl rfl ?_; intro r2 n2 hr2 hf2) | (with_reducible refine wpList_farith (op := .mul) (p := r2) rfl rfl rfl rfl rfl ?_; intro r3 n3 hr3 hf3) | (with_reducible refine wpList_farith (op := .mul) (p := r3) rfl rfl rfl rfl rfl ?_; intro r4 n4 hr4 hf4) | (with_reducible refine wpList_farith (op := .quo) rfl rfl rfl rfl rfl ?_; intro r5 n5 hr5 hf5))
  all_goals
    have k1 : can .f32 r2 = can .f32 (fr1 (fop .mul .f32 s d)) := by
      rw [hr2.out]
      unfold fr1
      rw [can_fop]
      exact fop_congr (mod_congr (by rw [can_fop]; exact hr1.out)) rfl
    have k2 : can .f32 r3 = can .f32 (frSq (fr1 (fop .mul .f32 s d))) := by
      rw [hr3.out, frSq, can_fop]; exact fop_congr k1 k1
    have k3 : can .f32 r4 = can .f32 (frSq (frSq (fr1 (fop .mul .f32 s d)))) := by
      rw [hr4.out]
      unfold frSq
      rw [can_fop]
      exact fop_congr k2 k2
    have k4 : friV s d = can .f32 (fmin .f32 r5 1065353216) := by
      unfold friV
      rw [fr4_congr k3.symm]
      unfold fr4
      exact fmin_congr (by rw [can_fop]; exact hr5.out.symm)
    clear k1 k2 k3
    replace k4 := hid k4
    go_ret
  · refine ⟨_, rfl, ?_, le_drewN _ _⟩
    rw [k4.out]
    have hg : FloatKind.f32.format.order r5 1065353216 = some .gt := by simpa using ‹(FloatKind.f32.format.order r5 1065353216 == some .gt) = true›
    simp only [fmin, hg]
  · refine ⟨_, rfl, ?_, le_drewN _ _⟩
    rw [k4.out]
    have hg : ¬ FloatKind.f32.format.order r5 1065353216 = some .gt := by
      have := ‹(FloatKind.f32.format.order r5 1065353216 == some .gt) = false›
      simpa using this
    cases ho : FloatKind.f32.format.order r5 1065353216 with
    | none =>
      have hn : isNan .f32 r5 = true := by
        cases hn : isNan .f32 r5
        · rw [order_val hn (by decide)] at ho; cases ho
        · rfl
      simp only [fmin, ho]
      rw [can_of_nan hn, can_qnan]
    | some o =>
      cases o with
      | lt => simp only [fmin, ho]
      | gt => exact absurd ho hg
      | eq =>
        obtain rfl := one_of_eq hf5.out ho
        simp only [fmin, ho]
        split <;> rfl
end Go.Proofs.Ythjdklolbkhbfaa

/- A bow's steps, both sides. -/
namespace Go.Fk
open Go Go.RowKit
/-- A valid bow. -/
structure BwS where
  x : Nat → Nat
  y : Nat → Nat
  nx : Nat
  ny : Nat
  j : Nat
  k : Nat
  a : Nat
  b : Nat
  c : Nat
  p : Nat
  q : Nat
  m : Nat
  l : Nat
structure BwS.Ok (q : BwS) : Prop where
  nx1 : 1 ≤ q.nx
  nx2 : q.nx ≤ 1024
  ny1 : 1 ≤ q.ny
  ny2 : q.ny ≤ 1024
  j1 : q.j < q.nx
  k1 : q.k < q.ny
  f : okF 1 q.a q.b q.c q.p q.q = true
  fa : fits .f32 q.a
  fb : fits .f32 q.b
  fc : fits .f32 q.c
  fp : fits .f32 q.p
  fq : fits .f32 q.q
  fm : fits .f32 q.m
  fl : fits .f32 q.l
def uB (q : BwS) : Nat := uBow q.l q.a q.b q.c q.p q.q (q.y q.k)
def vB (q : BwS) : Nat := vBow (q.x q.j)
def dB (q : BwS) (sp : Nat) : Nat := dBow sp (uB q) (vB q)
def wB (q : BwS) (sp : Nat) : Nat := fop .mul .f32 (dB q sp) (friV q.m (dB q sp))
def n1B (q : BwS) (sp : Nat) : Nat := kept (fop .add .f32 (uB q) (wB q sp))
def n2B (q : BwS) (sp : Nat) : Nat := kept (fop .add .f32 (vB q) (wB q sp))
def pB (q : BwS) : Nat := st0 1 q.a q.b q.c q.p q.q (q.y q.k)
def qB (q : BwS) : Nat := st1 1 q.a q.b q.c q.p q.q (q.y q.k)
def stepB (q : BwS) (sp : Nat) : BwS := { q with x := pushX q.x q.j (n1B q sp), y := pushX q.y q.k (n2B q sp), j := (q.j + 1) % q.nx, k := (q.k + 1) % q.ny, p := pB q, q := qB q }
theorem can_uB (q : BwS) : can .f32 (uB q) = uB q := can_can _ _
theorem can_vB (q : BwS) : can .f32 (vB q) = vB q := can_can _ _
theorem can_dB (q : BwS) (sp : Nat) : can .f32 (dB q sp) = dB q sp := can_fop _ _ _ _
theorem friV_congr {s d d' : Nat} (h : can .f32 d = can .f32 d') : friV s d = friV s d' := by
  unfold friV
  rw [fop_congr (show can .f32 s = can .f32 s from rfl) h]
theorem can_friV (s d : Nat) : can .f32 (friV s d) = friV s d := can_can _ _
theorem wB_of {q : BwS} {sp d fr r : Nat} (hd : can .f32 d = dB q sp) (hf : can .f32 fr = friV q.m d) (hr : can .f32 r = fop .mul .f32 d fr) : can .f32 r = wB q sp := by
  rw [hr, wB]
  have e : friV q.m d = friV q.m (dB q sp) := friV_congr (hd.trans (can_dB q sp).symm)
  exact fop_congr (hd.trans (can_dB q sp).symm) (hf.trans (e.trans (can_friV _ _).symm))
theorem n1_of {q : BwS} {sp u v r : Nat} (hu : can .f32 u = uB q) (hv : can .f32 v = wB q sp) (hr : can .f32 r = fop .add .f32 u v) : kept r = n1B q sp :=
  kept_can (hr.trans ((fop_congr (hu.trans (can_uB q).symm) (hv.trans (can_fop _ _ _ _).symm)).trans (can_fop _ _ _ _).symm))
theorem n2_of {q : BwS} {sp u v r : Nat} (hu : can .f32 u = vB q) (hv : can .f32 v = wB q sp) (hr : can .f32 r = fop .add .f32 u v) : kept r = n2B q sp :=
  kept_can (hr.trans ((fop_congr (hu.trans (can_vB q).symm) (hv.trans (can_fop _ _ _ _).symm)).trans (can_fop _ _ _ _).symm))
theorem fits_n1 (q : BwS) (sp : Nat) : fits .f32 (n1B q sp) := fits_kept (fits_fop _ _ _ _)
theorem fits_n2 (q : BwS) (sp : Nat) : fits .f32 (n2B q sp) := fits_kept (fits_fop _ _ _ _)
theorem BwS.Ok.step {q : BwS} (h : q.Ok) (sp : Nat) (hf : fits .f32 (q.y q.k)) : (stepB q sp).Ok where
  nx1 := h.nx1
  nx2 := h.nx2
  ny1 := h.ny1
  ny2 := h.ny2
  j1 := Nat.mod_lt _ h.nx1
  k1 := Nat.mod_lt _ h.ny1
  f := okF_step h.f
  fa := h.fa
  fb := h.fb
  fc := h.fc
  fp := show fits .f32 (st0 1 q.a q.b q.c q.p q.q (q.y q.k)) from fits_st0 hf (fits_outF _ _ _ _ _ _ _)
  fq := show fits .f32 (st1 1 q.a q.b q.c q.p q.q (q.y q.k)) from fits_st1 h.fp
  fm := h.fm
  fl := h.fl
end Go.Fk
namespace Go.Proofs.Ythjdklolbkhbfaa
open Go.RowKit Go.Fk
theorem kindRun : ∀ w : World, (isAgg 87).run Try.prog w = .ok false w := fun w => by kernel_rfl
set_option maxRecDepth 100000 in
set_option maxHeartbeats 4000000 in
theorem i_meet (q : BwS) (sp a1 a2 : Nat) (z0 z1 s t : Value) (jz kz lx ly : Int) (lo hi lo2 hi2 g r : Nat) (w : World) (R : Row w g 90 #[z0, .int .i64 jz, z1, .int .i64 kz, .int .i64 1, .float .f32 q.a, .float .f32 q.b, .float .f32 q.c, .float .f32 a1, .float .f32 a2, .float .f32 q.m, .float .f32 q.l, s, .int .i64 (q.j : Nat), .int .i64 lx, t, .int .i64 (q.k : Nat), .int .i64 ly, .pointer (some ⟨r, 0, none⟩)]) (RR : Row w r 103 #[mdl 1 q.a q.b q.c, .float .f32 q.p, .float .f32 q.q]) (O1 : OwnS w lo hi s q.x q.nx) (O2 : OwnS w lo2 hi2 t q.y q.ny) (ok : q.Ok) (h1 : ¬ (lo ≤ r ∧ r < hi)) (h2 : ¬ (lo2 ≤ r ∧ r < hi2)) (hg : g ≠ r) :
    Calls Try.prog 31 #[.pointer (some ⟨g, 0, none⟩), .float .f32 sp] w fun e w' => ∃ u v d, e = .returned (.tuple #[.float .f32 u, .float .f32 v, .float .f32 d]) ∧ can .f32 u = uB q ∧ can .f32 v = vB q ∧ can .f32 d = dB q sp ∧ fits .f32 u ∧ fits .f32 v ∧ fits .f32 d ∧
      Row w' r 103 #[mdl 1 q.a q.b q.c, .float .f32 (pB q), .float .f32 (qB q)] ∧ Chg (· = r) w w' := by
  have HO2 := hid (fun (w' : World) (hl : le w w') => i_oldest hi2 t q.y q.ny q.k w' (O2.rd.le hl) ok.k1 ok.ny2)
  have HO1 := hid (fun (w' : World) (hc : Chg (· = r) w w') => i_oldest hi s q.x q.nx q.j w' (O1.chgS hc (fun i a b e => h1 (by have e' : i = r := e; subst e'; exact ⟨a, b⟩))).rd ok.j1 ok.nx2)
  have HR := hid R; have HRR := hid RR; have OK := hid ok
  clear R RR O1 O2 ok
  go_enter Try.func31, Try.ntmps31
  go_wp2_with fail
  have FM := (Frm.one HR.out).drewN 1
  refine region_tail (fun _ _ _ v => ∃ yk, v = .float .f32 yk ∧ can .f32 yk = can .f32 (q.y q.k) ∧ fits .f32 yk) 10 (by kernel_rfl) (by kernel_rfl) ?_
  simp only [List.take_succ_cons, List.take_zero, List.drop_succ_cons, List.drop_zero]
  refine wpFree_one rfl (.pointer (some ⟨g, 0, none⟩)) (fun w1 _ => by kernel_rfl) ?_
  simp only [Act.put, List.setIfInBounds_toArray, List.set_cons_succ, List.set_cons_zero]
  refine wpFree_one rfl (.pointer (some ⟨g, 0, none⟩)) (fun w1 _ => by kernel_rfl) ?_
  simp only [Act.put, List.setIfInBounds_toArray, List.set_cons_succ, List.set_cons_zero]
  refine wpFree_one rfl (.pointer (some ⟨g, 18, none⟩)) (fun w1 _ => by kernel_rfl) ?_
  simp only [Act.put, List.setIfInBounds_toArray, List.set_cons_succ, List.set_cons_zero]
  refine wpFree_loadV FM (n := 0) rfl rfl rfl rfl List.mem_cons_self rfl kindRun ?_
  simp only [Act.put, List.setIfInBounds_toArray, List.set_cons_succ, List.set_cons_zero]
  refine wpFree_one rfl (.pointer (some ⟨g, 0, none⟩)) (fun w1 _ => by kernel_rfl) ?_
  simp only [Act.put, List.setIfInBounds_toArray, List.set_cons_succ, List.set_cons_zero]
  refine wpFree_one rfl (.pointer (some ⟨g, 0, none⟩)) (fun w1 _ => by kernel_rfl) ?_
  simp only [Act.put, List.setIfInBounds_toArray, List.set_cons_succ, List.set_cons_zero]
  refine wpFree_one rfl (.pointer (some ⟨g, 15, none⟩)) (fun w1 _ => by kernel_rfl) ?_
  simp only [Act.put, List.setIfInBounds_toArray, List.set_cons_succ, List.set_cons_zero]
  refine wpFree_one rfl (.pointer (some ⟨g, 15, none⟩)) (fun w1 _ => by kernel_rfl) ?_
  simp only [Act.put, List.setIfInBounds_toArray, List.set_cons_succ, List.set_cons_zero]
  refine wpFree_loadPart FM (n := 0) rfl rfl rfl rfl List.mem_cons_self Try.underlying35 rfl [t, .int .i64 (q.k : Nat)] (midOf [z0, .int .i64 jz, z1, .int .i64 kz, .int .i64 1, .float .f32 q.a, .float .f32 q.b, .float .f32 q.c, .float .f32 a1, .float .f32 a2, .float .f32 q.m, .float .f32 q.l, s, .int .i64 (q.j : Nat), .int .i64 lx] [t, .int .i64 (q.k : Nat)] [.int .i64 ly, .pointer (some ⟨r, 0, none⟩)] 15 rfl) infoRing ?_
  simp only [Act.put, List.setIfInBounds_toArray, List.set_cons_succ, List.set_cons_zero]
  refine wpFree_call rfl rfl Try.func54 (by kernel_rfl) (by kernel_rfl) (args := #[.agg #[t, .int .i64 (q.k : Nat)]]) (by simp [Act.eval]) (fun v w1 w2 hw hv => hv) (fun w1 hw1 => (HO2.out _ (le_trans (le_drewN w 1) hw1)).mono ?_) ?_
  · rintro e w2 ⟨yk, rfl, hy, fy, hl⟩
    exact ⟨_, rfl, hl, yk, rfl, by rw [← hy, can_can], fy⟩
  rintro v ⟨_, _, yk, rfl, HY0, FY0⟩
  have HY := hid HY0; have FY := hid FY0; clear HY0 FY0
  simp only [Act.put, List.setIfInBounds_toArray, List.set_cons_succ, List.set_cons_zero]
  refine wpFree_nil (fun w3 hw3 _ => ?_)
  have L3 := hid (le_trans (le_drewN w 1) hw3)
  have RR3 := hid (HRR.out.le L3.out)
  clear hw3 FM
  go_wp2_with (first | (go_at_call 53; ((with_reducible refine (i_step 1 q.a q.b q.c q.p q.q yk r _ ⟨by decide, by decide⟩ RR3.out OK.out.fp FY.out).mono ?_); rintro e w5 ⟨r1, rfl, hr1, fr1, hR5, hU5⟩; rw [st0_congr HY.out, st1_congr HY.out] at hR5; have C5 : Hid (Chg (· = r) w w5) := (Chg.of_le L3.out).trans (chg_updB hU5); have R5 := hid (C5.out.row HR.out hg); have c11 := R5.out.cell? 11; have HR1 := hid hr1; have RR5 := hid hR5; clear hr1 hR5 hU5)) | (with_reducible refine wpList_farith (op := .mul) rfl rfl rfl rfl rfl ?_; intro r2 n2 hr2 hf2) | ((with_reducible refine at_loadU rfl rfl ?_); (with_reducible refine wpList_loadPR (R5.out.drewN _) rfl rfl rfl Try.underlying35 rfl [s, .int .i64 (q.j : Nat)] (midOf [z0, .int .i64 jz, z1, .int .i64 kz, .int .i64 1, .float .f32 q.a, .float .f32 q.b, .float .f32 q.c, .float .f32 a1, .float .f32 a2, .float .f32 q.m, .float .f32 q.l] [s, .int .i64 (q.j : Nat)] [.int .i64 lx, t, .int .i64 (q.k : Nat), .int .i64 ly, .pointer (some ⟨r, 0, none⟩)] 12 rfl) infoRing rfl ?_)) | (go_at_call 54; ((with_reducible refine (HO1.out _ (C5.out.le (le_drewN _ _))).mono ?_); rintro e w6 ⟨xj, rfl, hx, fx, hl6⟩; have HX : Hid (can .f32 xj = can .f32 (q.x q.j)) := (by unfold Hid; rw [← hx, can_can]); have L6 := hid hl6; have FX := hid fx; clear hx hl6)) | (with_reducible refine wpList_farith (op := .add) rfl rfl rfl rfl rfl ?_; intro r3 n3 hr3 hf3) | (with_reducible refine wpList_farith (op := .sub) rfl rfl rfl rfl rfl ?_; intro r4 n4 hr4 hf4))
  go_ret3
  have e1 : can .f32 (neg .f32 r2) = uB q := neg_congr (hr2.out.trans ((fop_congr rfl ((HR1.out.trans (outF_congr HY.out)).trans (can_outF _ _ _ _ _ _ _).symm)).trans (can_fop _ _ _ _).symm))
  have e2 : can .f32 (neg .f32 xj) = vB q := neg_congr HX.out
  refine ⟨_, _, _, rfl, e1, e2, ?_, fits_neg hf2.out, fits_neg FX.out, hf4.out, (((RR5.out.drewN _).le L6.out).drewN _), Chg.le (((C5.out.le (le_drewN _ _)).le L6.out)) (le_drewN _ _)⟩
  exact hr4.out.trans (fop_congr rfl (hr3.out.trans ((fop_congr (e1.trans (can_uB q).symm) (e2.trans (can_vB q).symm)).trans (can_fop _ _ _ _).symm)))
set_option maxRecDepth 100000 in
set_option maxHeartbeats 4000000 in
theorem s_l05StepBow (q : BwS) (sp : Nat) (s t : Value) (lo hi lo2 hi2 g : Nat) (w : World) (R : Row w g 38 #[s, .int .i64 (q.j : Nat), t, .int .i64 (q.k : Nat), .int .i64 1, .float .f32 q.a, .float .f32 q.b, .float .f32 q.c, .float .f32 q.p, .float .f32 q.q, .float .f32 q.m, .float .f32 q.l]) (O1 : OwnS w lo hi s q.x q.nx) (O2 : OwnS w lo2 hi2 t q.y q.ny) (ok : q.Ok) (hsp : fits .f32 sp) (g1 : ¬ (lo ≤ g ∧ g < hi)) (g2 : ¬ (lo2 ≤ g ∧ g < hi2)) (hd : hi ≤ lo2 ∨ hi2 ≤ lo) :
    Calls Try.prog 35 #[.pointer (some ⟨g, 0, none⟩), .float .f32 sp] w fun e w' => ∃ o, e = .returned (.float .f32 o) ∧ can .f32 o = q.y q.k ∧ fits .f32 o ∧ Row w' g 38 #[s, .int .i64 ((stepB q sp).j : Nat), t, .int .i64 ((stepB q sp).k : Nat), .int .i64 1, .float .f32 (stepB q sp).a, .float .f32 (stepB q sp).b, .float .f32 (stepB q sp).c, .float .f32 (stepB q sp).p, .float .f32 (stepB q sp).q, .float .f32 (stepB q sp).m, .float .f32 (stepB q sp).l] ∧ OwnS w' lo hi s (stepB q sp).x q.nx ∧ OwnS w' lo2 hi2 t (stepB q sp).y q.ny ∧ Chg (fun i => i = g ∨ lo ≤ i ∧ i < hi ∨ lo2 ≤ i ∧ i < hi2) w w' := by
  have HM := hid (fun (w' : World) (hl : le w w') => s_l05Draw q.x q.y q.nx q.ny q.j q.k q.a q.b q.c q.p q.q q.m q.l sp s t lo hi lo2 hi2 g w' (R.le hl) (O1.le hl) (O2.le hl) ok.j1 ok.k1 ok.nx2 ok.ny2 g1 ok.f ok.fp)
  have HO1 := hid O1; have HOO := hid O2
  rcases O2 with ⟨rfl, h0⟩ | ⟨d2, o2, cap2, ds2, rfl, hc2, hm2, hb2, hb2', hrow2, hx2⟩
  · have := ok.ny1; omega
  obtain ⟨yk, ey, fy, cy⟩ := hx2 q.k ok.k1
  have c2 := R.cell? 2
  have c3 := R.cell? 3
  have cb : w.cell? ⟨d2, o2 + q.k, none⟩ = some (.float .f32 yk) := (hrow2.cell? (o2 + q.k)).trans ey
  have k1 := ok.k1
  have ny2 := ok.ny2
  have HR := hid R; have HY := hid cy; have FY := hid fy; have OK := hid ok
  clear R O1 hrow2 hx2 ey cy fy ok
  unfold maxLen at hm2
  go_enter Try.func35, Try.ntmps35
  go_wp2_with fail
  refine wp_region_loose (fun _ _ _ => True) (by kernel_rfl) (by kernel_rfl) ?_
  repeat (first | (refine wpLoose_quiet rfl ?_; go_big_quiet_step (fail); refine wpQuiet_nil ?_) | (refine wpLoose_nilP rfl rfl rfl ?_; simp only [Act.put, List.setIfInBounds_toArray, List.set_cons_succ, List.set_cons_zero]))
  refine wpLoose_nil (fun m1 => ?_)
  clear c2 c3 cb
  have L1 := hid (le_drewN w m1)
  go_wp2_with (first | (go_at_call 25; ((with_reducible refine (HM.out _ L1.out).mono ?_); rintro e w2 ⟨u, v, d, rfl, hu, hv, hd2, fu, fv, fd, hR2, hC⟩; have HU : Hid (can .f32 u = uB q) := hu; have HV : Hid (can .f32 v = vB q) := hv; have HD : Hid (can .f32 d = dB q sp) := hd2; have R2 := hid hR2; have C2 : Hid (Chg (· = g) w w2) := (Chg.of_le L1.out).trans hC; have c10 := R2.out.cell? 10; clear hu hv hd2 hR2 hC)) | (go_at_call 26; ((with_reducible refine (s_l05Friction q.m d _).mono ?_); rintro e w3 ⟨fr, rfl, hf, hl3⟩; have HF := hid hf; have L3 := hid hl3; clear hf hl3)) | (with_reducible refine wpList_farith (op := .mul) rfl rfl rfl rfl rfl ?_; intro r2 n2 hr2 hf2))
  have HW := hid (wB_of HD.out HF.out hr2.out)
  have C3 : Hid (Chg (· = g) w w3) := C2.out.le L3.out
  have R3 := hid (R2.out.le L3.out)
  have P1 : Hid (OwnS w3 lo hi s q.x q.nx) := HO1.out.chgS C3.out (fun i a b e => g1 (by have e' : i = g := e; subst e'; exact ⟨a, b⟩))
  have P2 : Hid (OwnS w3 lo2 hi2 (.slice (some ⟨d2, o2, none⟩) q.ny cap2) q.y q.ny) := HOO.out.chgS C3.out (fun i a b e => g2 (by have e' : i = g := e; subst e'; exact ⟨a, b⟩))
  clear HM HO1 HOO c10 R2 C2
  go_wp2_with fail
  refine wp_region_tail (fun _ _ v => v = .float .f32 (n1B q sp)) 7 (by kernel_rfl) (by kernel_rfl) ?_; simp only [List.take_succ_cons, List.take_zero, List.drop_succ_cons, List.drop_zero]
  repeat (first | (with_reducible refine wpLoose_farith rfl rfl rfl rfl rfl ?_; intro ra hra hfa; simp only [Act.put, List.setIfInBounds_toArray, List.set_cons_succ, List.set_cons_zero]) | (refine wpLoose_quiet rfl ?_; go_big_quiet_step (fail); refine wpQuiet_nil ?_) | (refine wpLoose_nilP rfl rfl rfl ?_; simp only [Act.put, List.setIfInBounds_toArray, List.set_cons_succ, List.set_cons_zero]))
  refine wpLoose_any rfl (· = .float .f32 (n1B q sp)) (fun m0 => ?_) ?_
  · go_simp
    refine (s_Kept _ _ hfa.out).mono ?_
    rintro e w9 ⟨rfl, m2, rfl⟩
    exact ⟨_, rfl, by rw [n1_of HU.out HW.out hra.out], m0 + m2, by first | (go_simp; done) | (go_simp; rw [Nat.add_assoc])⟩
  rintro v0 rfl
  simp only [Act.put, List.setIfInBounds_toArray, List.set_cons_succ, List.set_cons_zero]
  repeat (refine wpLoose_quiet rfl ?_; go_big_quiet_step (fail); refine wpQuiet_nil ?_)
  refine wpLoose_nil (fun m3 => ?_)
  go_wp2_with (go_at_call 60; ((with_reducible refine (s_l02Push lo hi s q.x q.nx q.j (n1B q sp) g 0 _ _ _ (P1.out.le (le_drewN _ _)) (R3.out.drewN _) rfl rfl g1 OK.out.j1 OK.out.nx2 (fits_n1 q sp)).mono ?_); rintro e w5 ⟨o5, rfl, _, _, hR5, hO5, hC5⟩))
  have R5 := hid (show Row w5 g 38 #[s, .int .i64 ((q.j + 1) % q.nx : Nat), (.slice (some ⟨d2, o2, none⟩) q.ny cap2), .int .i64 (q.k : Nat), .int .i64 1, .float .f32 q.a, .float .f32 q.b, .float .f32 q.c, .float .f32 (pB q), .float .f32 (qB q), .float .f32 q.m, .float .f32 q.l] from by simpa [pB, qB] using hR5)
  have Q1 := hid hO5
  have P5 := hid ((P2.out.le (le_drewN _ _)).chgS hC5 (fun i a b e => by rcases e with e | e; (subst e; exact g2 ⟨a, b⟩); omega))
  have C5 := hid (((C3.out.mono (T := fun i => i = g ∨ lo ≤ i ∧ i < hi ∨ lo2 ≤ i ∧ i < hi2) (fun i e => .inl e)).le (le_drewN _ _)).trans (hC5.mono (fun i e => by rcases e with e | e; exact .inl e; exact .inr (.inl e))))
  clear hR5 hO5 hC5 P1 P2 R3 C3
  go_wp2_with fail
  refine wp_region_tail (fun _ _ v => v = .float .f32 (n2B q sp)) 7 (by kernel_rfl) (by kernel_rfl) ?_; simp only [List.take_succ_cons, List.take_zero, List.drop_succ_cons, List.drop_zero]
  repeat (first | (with_reducible refine wpLoose_farith rfl rfl rfl rfl rfl ?_; intro ra hra hfa; simp only [Act.put, List.setIfInBounds_toArray, List.set_cons_succ, List.set_cons_zero]) | (refine wpLoose_quiet rfl ?_; go_big_quiet_step (fail); refine wpQuiet_nil ?_) | (refine wpLoose_nilP rfl rfl rfl ?_; simp only [Act.put, List.setIfInBounds_toArray, List.set_cons_succ, List.set_cons_zero]))
  refine wpLoose_any rfl (· = .float .f32 (n2B q sp)) (fun m0 => ?_) ?_
  · go_simp
    refine (s_Kept _ _ hfa.out).mono ?_
    rintro e w9 ⟨rfl, m2, rfl⟩
    exact ⟨_, rfl, by rw [n2_of HV.out HW.out hra.out], m0 + m2, by first | (go_simp; done) | (go_simp; rw [Nat.add_assoc])⟩
  rintro v0 rfl
  simp only [Act.put, List.setIfInBounds_toArray, List.set_cons_succ, List.set_cons_zero]
  repeat (refine wpLoose_quiet rfl ?_; go_big_quiet_step (fail); refine wpQuiet_nil ?_)
  refine wpLoose_nil (fun m3 => ?_)
  go_wp2_with (go_at_call 60; ((with_reducible refine (s_l02Push lo2 hi2 _ q.y q.ny q.k (n2B q sp) g 2 _ _ _ (P5.out.le (le_drewN _ _)) (R5.out.drewN _) rfl rfl g2 OK.out.k1 OK.out.ny2 (fits_n2 q sp)).mono ?_); rintro e w6 ⟨o6, rfl, _, _, hR6, hO6, hC6⟩))
  go_ret
  refine ⟨_, rfl, HY.out, FY.out, by simpa [stepB] using hR6, ?_, hO6, ?_⟩
  · exact (Q1.out.le (le_drewN _ _)).chgS hC6 (fun i a b e => by rcases e with e | e; (subst e; exact g1 ⟨a, b⟩); omega)
  · exact (C5.out.le (le_drewN _ _)).trans (hC6.mono (fun i e => by rcases e with e | e; exact .inl e; exact .inr (.inr e)))
end Go.Proofs.Ythjdklolbkhbfaa

/- Copies of a Bow: the model's. -/
namespace Go.Proofs.Ythjdklolbkhbfaa
open Go.RowKit Go.Fk
set_option maxRecDepth 100000 in
set_option maxHeartbeats 4000000 in
theorem s_l05CopyBow (x y : Nat → Nat) (nx ny : Nat) (j k : Int) (fk : Int) (a b c p q : Nat) (m o : Nat) (B : Nat) (s t : Value) (w : World) (g0 : Nat) (RR : Row w g0 38 #[s, .int .i64 j, t, .int .i64 k, .int .i64 fk, .float .f32 a, .float .f32 b, .float .f32 c, .float .f32 p, .float .f32 q, .float .f32 m, .float .f32 o]) (hs : RdS w B s x nx) (ht : RdS w B t y ny) (hx : 1 ≤ nx ∧ nx ≤ 1024) (hy : 1 ≤ ny ∧ ny ≤ 1024) :
    Calls Try.prog 24 #[.pointer (some ⟨g0, 0, none⟩)] w fun e w' => ∃ s1 t1, e = .returned (.agg #[s1, .int .i64 j, t1, .int .i64 k, .int .i64 fk, .float .f32 a, .float .f32 b, .float .f32 c, .float .f32 p, .float .f32 q, .float .f32 m, .float .f32 o]) ∧ Two w.heap.size x nx y ny s1 t1 w' ∧ le w w' := by
  have F := (Frg.nil w).box 38 #[.slice none 0 0, .int .i64 0, .slice none 0 0, .int .i64 0, .int .i64 0, .float .f32 0, .float .f32 0, .float .f32 0, .float .f32 0, .float .f32 0, .float .f32 0, .float .f32 0]
  have hg0 : g0 < w.heap.size := RR.lt
  have HR := hid RR; have HS := hid hs; have HT := hid ht; clear RR hs ht
  go_enter Try.func24, Try.ntmps24
  go_wp2_with fail
  obtain ⟨W, hW⟩ : ∃ W, W = w.alloc (.cells #[.slice none 0 0, .int .i64 0, .slice none 0 0, .int .i64 0, .int .i64 0, .float .f32 0, .float .f32 0, .float .f32 0, .float .f32 0, .float .f32 0, .float .f32 0, .float .f32 0] 38) := ⟨_, rfl⟩
  rw [← hW] at F ⊢
  have hz : W.heap.size = w.heap.size + 1 := by rw [hW]; simp
  clear hW
  have HZ := hid hz; clear hz
  have G := F.drewN 1
  have hle : le w (W.drewN 1) := G.below
  have hRw : ∀ w1, (outX w.heap.size 38 12 (FinC w.heap.size x nx y ny (fun s1 t1 => #[s1, .int .i64 j, t1, .int .i64 k, .int .i64 fk, .float .f32 a, .float .f32 b, .float .f32 c, .float .f32 p, .float .f32 q, .float .f32 m, .float .f32 o])) (FinC_le _ _ _ _ _ _)).R (W.drewN 1) w1 → Row w1 g0 38 #[s, .int .i64 j, t, .int .i64 k, .int .i64 fk, .float .f32 a, .float .f32 b, .float .f32 c, .float .f32 p, .float .f32 q, .float .f32 m, .float .f32 o] := fun w1 h1 => h1.1.row (HR.out.le hle) (by omega)
  have hSw : ∀ w1, (outX w.heap.size 38 12 (FinC w.heap.size x nx y ny (fun s1 t1 => #[s1, .int .i64 j, t1, .int .i64 k, .int .i64 fk, .float .f32 a, .float .f32 b, .float .f32 c, .float .f32 p, .float .f32 q, .float .f32 m, .float .f32 o])) (FinC_le _ _ _ _ _ _)).R (W.drewN 1) w1 → RdS w1 B s x nx := fun w1 h1 => HS.out.chgG hle h1.1
  have hTw : ∀ w1, (outX w.heap.size 38 12 (FinC w.heap.size x nx y ny (fun s1 t1 => #[s1, .int .i64 j, t1, .int .i64 k, .int .i64 fk, .float .f32 a, .float .f32 b, .float .f32 c, .float .f32 p, .float .f32 q, .float .f32 m, .float .f32 o])) (FinC_le _ _ _ _ _ _)).R (W.drewN 1) w1 → RdS w1 B t y ny := fun w1 h1 => HT.out.chgG hle h1.1
  have HRw := hid hRw; have HSw := hid hSw; have HTw := hid hTw; clear hRw hSw hTw
  refine region_freeZ (E := outX w.heap.size 38 12 (FinC w.heap.size x nx y ny (fun s1 t1 => #[s1, .int .i64 j, t1, .int .i64 k, .int .i64 fk, .float .f32 a, .float .f32 b, .float .f32 c, .float .f32 p, .float .f32 q, .float .f32 m, .float .f32 o])) (FinC_le _ _ _ _ _ _)) (fun _ args z w1 v => (args = #[.pointer (some ⟨g0, 0, none⟩)] → Cp w.heap.size x nx j z w1 v) ∧ (args = #[.pointer (some ⟨g0, 2, none⟩)] → Cp w.heap.size y ny k z w1 v)) (by kernel_rfl) (by kernel_rfl) ?_
  refine wpFreeZ_one rfl (.pointer (some ⟨g0, 0, none⟩)) (fun w1 _ => by kernel_rfl) ?_
  simp only [Act.put, List.setIfInBounds_toArray, List.set_cons_succ, List.set_cons_zero]
  refine wpFreeZ_one rfl (.pointer (some ⟨g0, 0, none⟩)) (fun w1 _ => by kernel_rfl) ?_
  simp only [Act.put, List.setIfInBounds_toArray, List.set_cons_succ, List.set_cons_zero]
  refine wpFreeZ_one rfl (.pointer (some ⟨g0, 0, none⟩)) (fun w1 _ => by kernel_rfl) ?_
  simp only [Act.put, List.setIfInBounds_toArray, List.set_cons_succ, List.set_cons_zero]
  refine wpFreeZ_callW (by kernel_rfl) rfl Try.func45 (by kernel_rfl) (by kernel_rfl) (args := #[.pointer (some ⟨g0, 0, none⟩)]) (by simp [Act.eval]) (fun z v w1 w2 hw hv => ⟨fun e => cp_outX (hv.1 e) hw, fun e => cp_outX (hv.2 e) hw⟩) (fun w1 hw1 hbe => ?_) ?_
  · refine (s_l02Copy B s x nx j g0 0 w1 (HSw.out w1 hw1) ((HRw.out w1 hw1).cell? 0) ((HRw.out w1 hw1).cell? 1) hx.1 hx.2).mono ?_
    rintro e w2 ⟨s1, rfl, ho, hl⟩
    refine ⟨_, rfl, hl, fun _ => Cp.mk ho hx.1 (by have := hw1.1.size; have e0 : (W.drewN 1).heap.size = W.heap.size := rfl; have := HZ.out; omega), fun e => absurd e (by simp)⟩
  rintro v0 ⟨z, wv, _, hv⟩
  obtain ⟨s1, _, rfl, ho, _⟩ := hv.1 rfl
  have os := hid (own_one ho)
  clear hv ho
  simp only [Act.put, List.setIfInBounds_toArray, List.set_cons_succ, List.set_cons_zero]
  refine wpFreeZ_one rfl (.pointer (some ⟨g0, 0, none⟩)) (fun w1 _ => by kernel_rfl) ?_
  simp only [Act.put, List.setIfInBounds_toArray, List.set_cons_succ, List.set_cons_zero]
  refine wpFreeZ_one rfl (.pointer (some ⟨g0, 0, none⟩)) (fun w1 _ => by kernel_rfl) ?_
  simp only [Act.put, List.setIfInBounds_toArray, List.set_cons_succ, List.set_cons_zero]
  refine wpFreeZ_one rfl (.pointer (some ⟨g0, 2, none⟩)) (fun w1 _ => by kernel_rfl) ?_
  simp only [Act.put, List.setIfInBounds_toArray, List.set_cons_succ, List.set_cons_zero]
  refine wpFreeZ_callW (by kernel_rfl) rfl Try.func45 (by kernel_rfl) (by kernel_rfl) (args := #[.pointer (some ⟨g0, 2, none⟩)]) (by simp [Act.eval]) (fun z v w1 w2 hw hv => ⟨fun e => cp_outX (hv.1 e) hw, fun e => cp_outX (hv.2 e) hw⟩) (fun w1 hw1 hbe => ?_) ?_
  · refine (s_l02Copy B t y ny k g0 2 w1 (HTw.out w1 hw1) ((HRw.out w1 hw1).cell? 2) ((HRw.out w1 hw1).cell? 3) hy.1 hy.2).mono ?_
    rintro e w2 ⟨s1, rfl, ho, hl⟩
    refine ⟨_, rfl, hl, fun e => absurd e (by simp), fun _ => Cp.mk ho hy.1 (by have := hw1.1.size; have e0 : (W.drewN 1).heap.size = W.heap.size := rfl; have := HZ.out; omega)⟩
  rintro v2 ⟨z, wv, _, hv⟩
  obtain ⟨t1, _, rfl, ho, _⟩ := hv.2 rfl
  have ot := hid (own_one ho)
  clear hv ho
  simp only [Act.put, List.setIfInBounds_toArray, List.set_cons_succ, List.set_cons_zero]
  refine wpFreeZ_one rfl (.pointer (some ⟨g0, 0, none⟩)) (fun w1 _ => by kernel_rfl) ?_
  simp only [Act.put, List.setIfInBounds_toArray, List.set_cons_succ, List.set_cons_zero]
  refine wpFreeZ_one rfl (.pointer (some ⟨g0, 0, none⟩)) (fun w1 _ => by kernel_rfl) ?_
  simp only [Act.put, List.setIfInBounds_toArray, List.set_cons_succ, List.set_cons_zero]
  refine wpFreeZ_one rfl (.pointer (some ⟨g0, 4, none⟩)) (fun w1 _ => by kernel_rfl) ?_
  simp only [Act.put, List.setIfInBounds_toArray, List.set_cons_succ, List.set_cons_zero]
  refine wpFreeZ_loadW rfl rfl rfl [.int .i64 fk, .float .f32 a, .float .f32 b, .float .f32 c, .float .f32 p, .float .f32 q] (fun w1 h1 => Row.at_part (HRw.out w1 h1) (partBow_Damp (s) (.int .i64 j) (t) (.int .i64 k) (.int .i64 fk) (.float .f32 a) (.float .f32 b) (.float .f32 c) (.float .f32 p) (.float .f32 q) (.float .f32 m) (.float .f32 o))) Try.underlying36 rfl uinfoFilterI rfl ?_
  simp only [Act.put, List.setIfInBounds_toArray, List.set_cons_succ, List.set_cons_zero]
  refine wpFreeZ_one rfl (.pointer (some ⟨g0, 0, none⟩)) (fun w1 _ => by kernel_rfl) ?_
  simp only [Act.put, List.setIfInBounds_toArray, List.set_cons_succ, List.set_cons_zero]
  refine wpFreeZ_one rfl (.pointer (some ⟨g0, 0, none⟩)) (fun w1 _ => by kernel_rfl) ?_
  simp only [Act.put, List.setIfInBounds_toArray, List.set_cons_succ, List.set_cons_zero]
  refine wpFreeZ_one rfl (.pointer (some ⟨g0, 10, none⟩)) (fun w1 _ => by kernel_rfl) ?_
  simp only [Act.put, List.setIfInBounds_toArray, List.set_cons_succ, List.set_cons_zero]
  refine wpFreeZ_load1 rfl rfl rfl (p := ⟨g0, 10, none⟩) (fun w1 h1 => (HRw.out w1 h1).cell? 10) ukindFloat32 ?_
  simp only [Act.put, List.setIfInBounds_toArray, List.set_cons_succ, List.set_cons_zero]
  refine wpFreeZ_one rfl (.pointer (some ⟨g0, 0, none⟩)) (fun w1 _ => by kernel_rfl) ?_
  simp only [Act.put, List.setIfInBounds_toArray, List.set_cons_succ, List.set_cons_zero]
  refine wpFreeZ_one rfl (.pointer (some ⟨g0, 0, none⟩)) (fun w1 _ => by kernel_rfl) ?_
  simp only [Act.put, List.setIfInBounds_toArray, List.set_cons_succ, List.set_cons_zero]
  refine wpFreeZ_one rfl (.pointer (some ⟨g0, 11, none⟩)) (fun w1 _ => by kernel_rfl) ?_
  simp only [Act.put, List.setIfInBounds_toArray, List.set_cons_succ, List.set_cons_zero]
  refine wpFreeZ_load1 rfl rfl rfl (p := ⟨g0, 11, none⟩) (fun w1 h1 => (HRw.out w1 h1).cell? 11) ukindFloat32 ?_
  simp only [Act.put, List.setIfInBounds_toArray, List.set_cons_succ, List.set_cons_zero]
  refine wpFreeZ_carry rfl (.agg #[s1, .int .i64 j, t1, .int .i64 k, .int .i64 fk, .float .f32 a, .float .f32 b, .float .f32 c, .float .f32 p, .float .f32 q, .float .f32 m, .float .f32 o]) (fun w1 _ => by kernel_rfl) (Two (w.heap.size + 1) x nx y ny s1 t1) (fun w1 w2 hw hv => two_outX hv hw) (fun w1 hw1 ⟨zs, hf, hc⟩ => ?_) ?_
  · refine Cp.two hx.1 hy.1 (F := _) (((hf ⟨3, Ground.data⟩ (by simp) (by kernel_rfl)).1.1.1.1.1.1.1.1.1.1.1.1.1.1.1.1.2 rfl).1 trivial) (((hf ⟨7, Ground.data⟩ (by simp) (by kernel_rfl)).1.1.1.1.1.1.1.1.1.1.1.1.2 rfl).2 trivial) (hc ⟨3, Ground.data⟩ (by simp) (by kernel_rfl) ⟨7, Ground.data⟩ (by simp) (by kernel_rfl) (by decide)) (fun w2 h => (h.1.1.1.1.1.1.1.1.1.1.1.1.1.1.1.1.2 rfl).1 trivial) (fun w2 h => (h.1.1.1.1.1.1.1.1.1.1.1.1.2 rfl).2 trivial)
  simp only [Act.put, List.setIfInBounds_toArray, List.set_cons_succ, List.set_cons_zero]
  refine wpFreeZ_out rfl rfl rfl (cells := #[s1, .int .i64 j, t1, .int .i64 k, .int .i64 fk, .float .f32 a, .float .f32 b, .float .f32 c, .float .f32 p, .float .f32 q, .float .f32 m, .float .f32 o]) rfl rfl (G.row m0) rfl (fun w1 w2 hw ⟨zs, hf, hc⟩ hch => ⟨s1, t1, rfl, (((hf ⟨20, Ground.data⟩ (by simp) (by kernel_rfl)).2 rfl).chg hch).lo (by omega)⟩) uinfoBowI rfl (by simp only [List.all_toArray, List.all_cons, List.all_nil, os.out, ot.out]; rfl) ?_
  refine wpFreeZ_nil (fun w3 zs hw3 hF _ => ?_)
  obtain ⟨cs, hr, s2, t2, rfl, h2⟩ := (hF 21).2 rfl
  have hlw : le w w3 := G.below.trans (hw3.1.below (B := w.heap.size) (fun k e => by omega) (by have e0 : (W.drewN 1).heap.size = W.heap.size := rfl; have := HZ.out; omega))
  go_wp2
  exact bodyPost_ret (results_row1 rfl _ _ _ _ _ rfl hr Try.underlying38 rfl uinfoBowI) rfl ⟨s2, t2, rfl, h2, hlw⟩
end Go.Proofs.Ythjdklolbkhbfaa

/- Small laws of steps over facts of memory. Nothing here names a program. -/
namespace Go.Fk
open Go Go.RowKit
theorem wf_nat {n : Nat} (h : n ≤ 1024) : (Lit.int .i64 (n : Int)).wf = true := by
  simp only [Lit.wf, IntKind.min, IntKind.max, IntKind.signed, IntKind.bits, Bool.and_eq_true, decide_eq_true_eq, if_true]
  constructor <;> omega
/-- What lies behind two facts stands when blocks from the second one on have turned. -/
theorem Frg.cut2 {w0 w w' : World} {L : List Fact} {a b : Fact} (h : Frg w0 w (a :: b :: L)) {S : Nat → Prop} (k : Chg S w w') (hS : ∀ i, S i → b.lo ≤ i) : Frg w0 w' L := by
  have hb := h.facts b (by simp)
  have p := List.pairwise_cons.1 (List.pairwise_cons.1 h.apart).2
  refine ⟨h.below.trans (k.below (fun i hi => Nat.le_trans hb.1 (hS i hi)) h.size), fun e he => ?_, p.2⟩
  have hx := h.facts e (by simp [he])
  have ha := p.1 e he
  exact ⟨hx.1, Nat.le_trans hx.2.1 k.size, e.ok w w' hx.2.2 (fun i h1 h2 => k.block i (by omega) (fun c => by have := hS i c; omega))⟩
theorem ret_bi {a b : Bool} {i : Int} (h : a = b) : Ending.returned (.tuple #[.bool a, .int .i64 i]) = .returned (.tuple #[.bool b, .int .i64 i]) := by rw [h]
end Go.Fk
