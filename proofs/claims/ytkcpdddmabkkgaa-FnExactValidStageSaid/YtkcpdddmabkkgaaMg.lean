/- Texts of the walk, laid in one file. -/
import Derived.Test.YtkcpdddmabkkgaaMf
set_option linter.unusedVariables false
set_option linter.unusedSimpArgs false
/- Events: the model's 'l08Events'. -/
namespace Go.Fk
open Go Go.RowKit
/-- A block is made. -/
theorem wpFreeD_allocD {P : Program} {ops : Array Oper} {W : World} {K : FuncId → Array Value → World → Value → Prop} {Q : Act → World → Prop} {F : Facts} {k : Nat} {o : Oper} {rest : List Oper} {a : Act} (hg : o.guard = none) {ty : TypeId} (hop : o.op = .alloc ty) (cs : Array Value) (hr : ∀ w, (Instr.alloc ty true (.tuple #[])).run P w = .ok (.pointer (some ⟨w.heap.size, 0, none⟩)) (w.alloc (.cells cs ty)))
    (h : ∀ b, wpFreeD leX P ops .any W K Q rest (k + 1) (a.put o.dst (.pointer (some ⟨b, 0, none⟩))) (F.with k (fun w => W.heap.size ≤ b ∧ Row w b ty cs))) : wpFreeD leX P ops .any W K Q (o :: rest) k a F := by
  refine ⟨fun w v => ∃ b, v = .pointer (some ⟨b, 0, none⟩) ∧ W.heap.size ≤ b ∧ Row w b ty cs, ⟨fun v w w' hw hv => ?_, .inl ⟨by simp [Region.wanted, hg], fun w hw _ => ?_⟩⟩, fun v hv => ?_⟩
  · obtain ⟨b, h1, h2, h3⟩ := hv
    exact ⟨b, h1, h2, h3.le hw⟩
  · have : (execOp a.eval o).run P w = .ok (.value (.pointer (some ⟨w.heap.size, 0, none⟩))) (w.alloc (.cells cs ty)) := by
      simp [execOp, hop, hr, Result.andThen, inside]
    rw [this]
    exact ⟨le_alloc w _, _, rfl, hw.size, Row.new w ty cs⟩
  · obtain ⟨_, _, _, b, rfl, _, _⟩ := hv
    exact wpFreeD_weaken _ _ _ _ _ (fun e w h => ⟨h.1, fun he => by obtain ⟨b', h1, h2, h3⟩ := h.2 he; have e : b = b' := (by simpa using h1); subst e; exact ⟨h2, h3⟩⟩) (h b)
def st1 (z : Int) : Int := if z = 0 then 0 else 1
def st2 (z : Int) : Int := if z = 1 then 1 else 0
theorem st_start {x : Nat → CD} {j v : Nat} (hk : evK x j = 2) (hv : evN x j = (v : Int)) (hz : laE x j (v : Int) = 0) : (fun q : Nat => if q = v then (1 : Int) else st1 (laE x j (q : Int))) = (fun q : Nat => st1 (laE x (j + 1) (q : Int))) ∧ (fun q : Nat => st2 (laE x j (q : Int))) = (fun q : Nat => st2 (laE x (j + 1) (q : Int))) := by
  constructor <;> funext q <;> simp only [laE, hv, hk] <;> by_cases h : q = v
  · subst h; simp [st1]
  · rw [if_neg h, if_neg (by omega)]
  · subst h; simp [st2, hz]
  · rw [if_neg (by omega)]
theorem st_stop {x : Nat → CD} {j v : Nat} (hk : evK x j = 1) (hv : evN x j = (v : Int)) (hz : laE x j (v : Int) = 2) : (fun q : Nat => if q = v then (1 : Int) else st2 (laE x j (q : Int))) = (fun q : Nat => st2 (laE x (j + 1) (q : Int))) ∧ (fun q : Nat => st1 (laE x j (q : Int))) = (fun q : Nat => st1 (laE x (j + 1) (q : Int))) := by
  constructor <;> funext q <;> simp only [laE, hv, hk] <;> by_cases h : q = v
  · subst h; simp [st2]
  · rw [if_neg h, if_neg (by omega)]
  · subst h; simp [st1, hz]
  · rw [if_neg (by omega)]
theorem get0 {g : Nat → Int} {n v : Nat} {z : Int} (hv : v < n) (hz : g v = z) : (itab .i64 g n)[0 + v * 1]? = some (.int .i64 z) := by
  rw [show 0 + v * 1 = v by omega, get_itab _ _ _ _ hv, hz]
theorem set0 (g : Nat → Int) (n v : Nat) (z : Int) : (itab .i64 g n).setIfInBounds (0 + v * 1) (.int .i64 z) = itab .i64 (fun q => if q = v then z else g q) n := by
  rw [show 0 + v * 1 = v by omega, set_itab]
end Go.Fk
namespace Go.Proofs.Ytkcpdddmabkkgaa
open Go.RowKit Go.Fk
theorem info64 : ∃ i, Try.prog.info? 2 = some i ∧ i.zero = some (.int .i64 0) ∧ i.size = 1 ∧ i.bytes = 8 := by
  have h : (Try.prog.info? 2).map (fun i => (i.zero, i.size, i.bytes)) = some (some (.int .i64 0), 1, 8) := by kernel_rfl
  cases e : Try.prog.info? 2 with
  | none => rw [e] at h; cases h
  | some i =>
    rw [e] at h
    simp only [Option.map_some, Option.some.injEq, Prod.mk.injEq] at h
    exact ⟨i, rfl, h.1, h.2.1, h.2.2⟩
theorem made_itab (n : Nat) : madeCells #[Value.int .i64 0] n = itab .i64 (fun _ => 0) n := by
  apply Array.ext
  · simp [size_madeCells, size_itab]
  · intro i h1 h2
    simp [madeCells, itab, tab, Nat.mod_one]
theorem makeI (n : Nat) (hn : n ≤ 1048576) (w : World) : (Instr.makeSlice 100 (.int .i64 (n : Int)) (.int .i64 (n : Int))).run Try.prog w = .ok (.slice (some ⟨w.heap.size, 0, none⟩) n n) (w.alloc (.cells (itab .i64 (fun _ => 0) n) 2)) := by
  obtain ⟨i, h1, h2, h3, h4⟩ := info64
  rw [← made_itab]
  exact run_make_row (P := Try.prog) 100 2 i (.int .i64 0) (by rw [Try.underlying100]) h1 h2 h3 rfl .i64 .i64 n (by rw [h4]; omega) (by omega) w
set_option maxRecDepth 100000 in
set_option maxHeartbeats 60000000 in
theorem s_l08Events (B : Nat) (x : Nat → CD) (p : Option Addr) (n cap nI : Nat) (w : World) (hs : (CD.sl 6 n x).RdN w B (.slice p n cap)) (hx : EvsOk x n) (hn : n ≤ maxLen ∧ nI ≤ maxLen) :
    Calls Try.prog 34 #[.slice p n cap, .int .i64 (nI : Int)] w (Out_b (okE ((n / 2 : Nat) : Int) (nI : Int) x n) w) := by
  have HX := hid hx; have HS := hid hs
  have hfm := hid hs.form
  unfold maxLen at hn
  obtain ⟨hn1, hn2⟩ := hn
  clear hx hs
  have OK0 := hid (show okE ((n / 2 : Nat) : Int) (nI : Int) x n = (decide (n % 2 = 0) && decide (n / 2 ≤ 64) && allB (stE ((n / 2 : Nat) : Int) (nI : Int) x) n && allB (fun i => ltL (keyJ x n i) (keyJ x n (i + 1))) (n - 1)) from rfl)
  have hq : (n : Int).tdiv 2 = ((n / 2 : Nat) : Int) := by rw [Int.tdiv_eq_ediv_of_nonneg (by omega)]; omega
  obtain ⟨m, hm⟩ : ∃ m, n / 2 = m := ⟨_, rfl⟩
  rw [hm] at OK0 hq ⊢
  have F := Frg.nil w
  by_cases h2 : n % 2 = 0
  rotate_left
  · have E := hid (show okE (m : Int) (nI : Int) x n = false by rw [OK0.out]; simp [h2])
    have h2' : ((n : Int) != 2 * (m : Int)) = true := by simp; omega
    clear OK0
    go_enter Try.func34, Try.ntmps34
    go_wp2
    go_ret
    exact ⟨ret_b E.out.symm, le_refl _⟩
  have h2' : ((n : Int) != 2 * (m : Int)) = false := by simp; omega
  by_cases h3 : m ≤ 64
  rotate_left
  · have E := hid (show okE (m : Int) (nI : Int) x n = false by rw [OK0.out]; simp [h3])
    have hd3 : decide (64 < (m : Int)) = true := decide_eq_true (by omega)
    clear OK0
    go_enter Try.func34, Try.ntmps34
    go_wp2
    go_ret
    exact ⟨ret_b E.out.symm, le_refl _⟩
  have hd3 : decide (64 < (m : Int)) = false := decide_eq_false (by omega)
  have OK1 := hid (show okE (m : Int) (nI : Int) x n = (allB (stE (m : Int) (nI : Int) x) n && allB (fun i => ltL (keyJ x n i) (keyJ x n (i + 1))) (n - 1)) by rw [OK0.out, decide_eq_true h2, decide_eq_true h3]; rfl)
  have hmn := hid hm
  clear OK0 hm
  have HM := fun w => makeI m (by omega) w
  replace F := (F.box 2 (itab .i64 (fun _ => 0) m)).box 2 (itab .i64 (fun _ => 0) m)
  simp only [World.size_alloc] at F
  go_enter Try.func34, Try.ntmps34
  go_wp2
  clear HM
  have F0 := hid F
  clear F
  go_loopw [8] (fun i wr => ∃ j : Nat, j ≤ n ∧ i = .int .i64 j ∧ Hid (∀ i, i < j → stE (m : Int) (nI : Int) x i = true) ∧ Hid (Frg w wr [rowF (w.heap.size + 1) 2 (itab .i64 (fun q : Nat => st2 (laE x j (q : Int))) m), rowF w.heap.size 2 (itab .i64 (fun q : Nat => st1 (laE x j (q : Int))) m)])) (fun i _ => n - (intOf i).toNat)
  case atStart => exact ⟨0, by omega, rfl, fun i hi => absurd hi (by omega), F0.out⟩
  case round =>
    clear F0
    obtain ⟨j, hj, rfl, HJ, HF⟩ := hrel
    rename_i wr _
    have F := HF.out
    by_cases hlt : j < n
    · have hf2 := hfm.out
      rcases hf2 with ⟨_, e0⟩ | ⟨b8, o8, cap8, e8, hc8, hm8⟩
      · omega
      simp only [Value.slice.injEq] at e8
      obtain ⟨rfl, _, rfl⟩ := e8
      unfold maxLen at hm8
      obtain ⟨y, fy, cy, _, cu⟩ := HX.out.vals HS.out hlt
      have C0 := hid (fun (w' : World) (hl : le w w') => show w'.cell? ⟨b8, o8 + j * 6, none⟩ = some (.int .i64 (evA x j)) by have h := cu 0 _ rfl; rw [add_none] at h; exact (Below.cell hl (cell_lt' h)).trans h)
      have C1 := hid (fun (w' : World) (hl : le w w') => show w'.cell? ⟨b8, o8 + j * 6 + 1, none⟩ = some (.int .i64 (evK x j)) by have h := cu 1 _ rfl; rw [add_none] at h; exact (Below.cell hl (cell_lt' h)).trans h)
      have C2 := hid (fun (w' : World) (hl : le w w') => show w'.cell? ⟨b8, o8 + j * 6 + 2, none⟩ = some (.int .i64 (evN x j)) by have h := cu 2 _ rfl; rw [add_none] at h; exact (Below.cell hl (cell_lt' h)).trans h)
      have C3 := hid (fun (w' : World) (hl : le w w') => show w'.cell? ⟨b8, o8 + j * 6 + 3, none⟩ = some (.int .i64 (evI x j)) by have h := cu 3 _ rfl; rw [add_none] at h; exact (Below.cell hl (cell_lt' h)).trans h)
      have C4 := hid (fun (w' : World) (hl : le w w') => show w'.cell? ⟨b8, o8 + j * 6 + 4, none⟩ = some (.int .i64 (evY x j)) by have h := cu 4 _ rfl; rw [add_none] at h; exact (Below.cell hl (cell_lt' h)).trans h)
      have C5 := hid (fun (w' : World) (hl : le w w') => show w'.cell? ⟨b8, o8 + j * 6 + 5, none⟩ = some (.float .f32 y) by have h := cu 5 _ rfl; rw [add_none] at h; exact (Below.cell hl (cell_lt' h)).trans h)
      have SD := hid (show stE (m : Int) (nI : Int) x j = (plB (m : Int) (nI : Int) (evA x j) (evK x j) (evN x j) (evI x j) (evY x j) y && decide (laE x j (evN x j) = befK (evK x j))) by rw [plB_can cy]; rfl)
      have LV := hid (laE_vals (fun i (hi : i < j) => HJ.out i hi) (evN x j) j (Nat.le_refl _))
      have S1 := hid (fun v : Nat => @st_start x j v); have S2 := hid (fun v : Nat => @st_stop x j v)
      have HA := hid (fun (w' : World) => s_InB (evA x j) 0 100000 w')
      have HN := hid (fun (w' : World) => s_InB (evN x j) 0 ((m : Int) - 1) w')
      have HI := hid (fun (w' : World) => s_InB (evI x j) 0 ((nI : Int) - 1) w')
      have HY := hid (fun (w' : World) => s_InB (evY x j) (-100) 100 w')
      have HFI := hid (fun (w' : World) => s_l01Finite y w')
      have HSM := hid (fun (w' : World) => s_l01Same y 0 w')
      clear cu cy fy hfm HX HS
      rcases bool_ft (decide (0 ≤ evA x j) && decide (evA x j ≤ 100000)) with hA | hA
      · have hb := hid (show stE (m : Int) (nI : Int) x j = false by rw [SD.out]; unfold plB; rw [hA]; rfl)
        rw [hA] at HA
        clear hA SD LV S1 S2
        go_wp2_with (first | ((with_reducible refine listN F ?_); clear F; intro wN F) | (with_reducible refine wpList_indexW0G rfl (b := b8) (off := o8) (n := n) (cap := cap) (i := j) rfl rfl Try.underlying36 uinfoEventI hlt (by kernel_rfl) ?_) | (go_at_call 18; first | ((with_reducible refine (HA.out _).mono ?_); rintro e w1 ⟨rfl, rfl⟩; skip) | ((with_reducible refine (HN.out _).mono ?_); rintro e w1 ⟨rfl, rfl⟩; skip) | ((with_reducible refine (HI.out _).mono ?_); rintro e w1 ⟨rfl, rfl⟩; skip) | ((with_reducible refine (HY.out _).mono ?_); rintro e w1 ⟨rfl, rfl⟩; skip)) | (go_at_call 52; ((with_reducible refine (HFI.out _).mono ?_); rintro e w1 ⟨rfl, q9, rfl⟩; replace F := F.drewN q9)) | (go_at_call 53; ((with_reducible refine (HSM.out _).mono ?_); rintro e w1 ⟨rfl, rfl⟩; skip)) | ((with_reducible refine at_load rfl ?_); first | (with_reducible refine wpList_load1G rfl (p := ⟨b8, o8 + j * 6, none⟩) rfl (v := .int .i64 _) (by kernel_rfl) (C0.out _ F.below) ukindInt64 ?_) | (with_reducible refine wpList_load1G rfl (p := ⟨b8, o8 + j * 6 + 1, none⟩) rfl (v := .int .i64 _) (by kernel_rfl) (C1.out _ F.below) ukindInt64 ?_) | (with_reducible refine wpList_load1G rfl (p := ⟨b8, o8 + j * 6 + 2, none⟩) rfl (v := .int .i64 _) (by kernel_rfl) (C2.out _ F.below) ukindInt64 ?_) | (with_reducible refine wpList_load1G rfl (p := ⟨b8, o8 + j * 6 + 3, none⟩) rfl (v := .int .i64 _) (by kernel_rfl) (C3.out _ F.below) ukindInt64 ?_) | (with_reducible refine wpList_load1G rfl (p := ⟨b8, o8 + j * 6 + 4, none⟩) rfl (v := .int .i64 _) (by kernel_rfl) (C4.out _ F.below) ukindInt64 ?_) | (with_reducible refine wpList_load1G rfl (p := ⟨b8, o8 + j * 6 + 5, none⟩) rfl (v := .float .f32 y) (by kernel_rfl) (C5.out _ F.below) ukindFloat32 ?_)))
        go_ret
        exact ⟨ret_b (show false = okE (m : Int) (nI : Int) x n by rw [OK1.out, allB_no hlt hb.out]; rfl), F.below⟩
      have pA := hid hA
      rw [hA] at HA
      clear hA
      rcases bool_ft (decide (0 ≤ evN x j) && decide (evN x j ≤ (m : Int) - 1)) with hN | hN
      · have hb := hid (show stE (m : Int) (nI : Int) x j = false by rw [SD.out]; unfold plB; simp only [Bool.and_eq_false_iff, decide_eq_false_iff_not] at hN ⊢; omega)
        rw [hN] at HN
        clear hN SD LV S1 S2
        go_wp2_with (first | ((with_reducible refine listN F ?_); clear F; intro wN F) | (with_reducible refine wpList_indexW0G rfl (b := b8) (off := o8) (n := n) (cap := cap) (i := j) rfl rfl Try.underlying36 uinfoEventI hlt (by kernel_rfl) ?_) | (go_at_call 18; first | ((with_reducible refine (HA.out _).mono ?_); rintro e w1 ⟨rfl, rfl⟩; skip) | ((with_reducible refine (HN.out _).mono ?_); rintro e w1 ⟨rfl, rfl⟩; skip) | ((with_reducible refine (HI.out _).mono ?_); rintro e w1 ⟨rfl, rfl⟩; skip) | ((with_reducible refine (HY.out _).mono ?_); rintro e w1 ⟨rfl, rfl⟩; skip)) | (go_at_call 52; ((with_reducible refine (HFI.out _).mono ?_); rintro e w1 ⟨rfl, q9, rfl⟩; replace F := F.drewN q9)) | (go_at_call 53; ((with_reducible refine (HSM.out _).mono ?_); rintro e w1 ⟨rfl, rfl⟩; skip)) | ((with_reducible refine at_load rfl ?_); first | (with_reducible refine wpList_load1G rfl (p := ⟨b8, o8 + j * 6, none⟩) rfl (v := .int .i64 _) (by kernel_rfl) (C0.out _ F.below) ukindInt64 ?_) | (with_reducible refine wpList_load1G rfl (p := ⟨b8, o8 + j * 6 + 1, none⟩) rfl (v := .int .i64 _) (by kernel_rfl) (C1.out _ F.below) ukindInt64 ?_) | (with_reducible refine wpList_load1G rfl (p := ⟨b8, o8 + j * 6 + 2, none⟩) rfl (v := .int .i64 _) (by kernel_rfl) (C2.out _ F.below) ukindInt64 ?_) | (with_reducible refine wpList_load1G rfl (p := ⟨b8, o8 + j * 6 + 3, none⟩) rfl (v := .int .i64 _) (by kernel_rfl) (C3.out _ F.below) ukindInt64 ?_) | (with_reducible refine wpList_load1G rfl (p := ⟨b8, o8 + j * 6 + 4, none⟩) rfl (v := .int .i64 _) (by kernel_rfl) (C4.out _ F.below) ukindInt64 ?_) | (with_reducible refine wpList_load1G rfl (p := ⟨b8, o8 + j * 6 + 5, none⟩) rfl (v := .float .f32 y) (by kernel_rfl) (C5.out _ F.below) ukindFloat32 ?_)))
        go_ret
        exact ⟨ret_b (show false = okE (m : Int) (nI : Int) x n by rw [OK1.out, allB_no hlt hb.out]; rfl), F.below⟩
      have hN2 : 0 ≤ evN x j ∧ evN x j < (m : Int) := by simp only [Bool.and_eq_true, decide_eq_true_eq] at hN; omega
      rw [hN] at HN
      clear hN
      have SD2 := hid (show stE (m : Int) (nI : Int) x j = ((if evK x j = 2 then decide (0 ≤ evI x j) && decide (evI x j < (nI : Int)) && (decide (-100 ≤ evY x j) && decide (evY x j ≤ 100)) && fin y else if evK x j = 1 then decide (evI x j = 0) && decide (evY x j = 0) && sameB y 0 else false) && decide (laE x j (evN x j) = befK (evK x j))) by rw [SD.out]; unfold plB; rw [pA.out, decide_eq_true hN2.1, decide_eq_true hN2.2]; rfl)
      clear SD pA
      obtain ⟨v, hv⟩ : ∃ v : Nat, evN x j = (v : Int) := ⟨(evN x j).toNat, by omega⟩
      have hvm : v < m := by omega
      have T1 := hid (fun hk hz => S1.out v hk hv hz); have T2 := hid (fun hk hz => S2.out v hk hv hz)
      clear S1 S2
      rw [hv] at SD2 LV HN C2
      generalize evN x j = N0 at *
      subst hv
      clear hN2
      obtain ⟨z, hz⟩ : ∃ z, laE x j (v : Int) = z := ⟨_, rfl⟩
      rw [hz] at SD2 LV T1 T2
      have hzz := LV.out
      clear LV
      by_cases k2 : evK x j = 2
      · rw [k2] at SD2 T1 T2 C1
        generalize evK x j = K0 at *
        subst k2
        rcases hzz with rfl | rfl | rfl
        · have GA := hid (get0 (g := fun q : Nat => st1 (laE x j (q : Int))) hvm (show st1 (laE x j (v : Int)) = 0 by rw [hz]; rfl)); have GB := hid (get0 (g := fun q : Nat => st2 (laE x j (q : Int))) hvm (show st2 (laE x j (v : Int)) = 0 by rw [hz]; rfl)); have GA2 := hid (get0 (g := fun q : Nat => if q = v then (1 : Int) else st1 (laE x j (q : Int))) hvm (if_pos rfl)); have GB2 := GB
          rcases bool_ft (decide (0 ≤ evI x j) && decide (evI x j ≤ (nI : Int) - 1)) with hI | hI
          · have hb := hid (show stE (m : Int) (nI : Int) x j = false by
              have e : (decide (0 ≤ evI x j) && decide (evI x j < (nI : Int))) = false := by simp only [Bool.and_eq_false_iff, decide_eq_false_iff_not] at hI ⊢; omega
              rw [SD2.out]; simp only [if_true, e, Bool.false_and])
            rw [hI] at HI
            clear hI SD2 T1 T2 hz
            go_wp2_with (first | ((with_reducible refine listN F ?_); clear F; intro wN F) | (with_reducible refine wpList_indexW0G rfl (b := b8) (off := o8) (n := n) (cap := cap) (i := j) rfl rfl Try.underlying36 uinfoEventI hlt (by kernel_rfl) ?_) | (go_at_call 18; first | ((with_reducible refine (HA.out _).mono ?_); rintro e w1 ⟨rfl, rfl⟩; skip) | ((with_reducible refine (HN.out _).mono ?_); rintro e w1 ⟨rfl, rfl⟩; skip) | ((with_reducible refine (HI.out _).mono ?_); rintro e w1 ⟨rfl, rfl⟩; skip) | ((with_reducible refine (HY.out _).mono ?_); rintro e w1 ⟨rfl, rfl⟩; skip)) | (go_at_call 52; ((with_reducible refine (HFI.out _).mono ?_); rintro e w1 ⟨rfl, q9, rfl⟩; replace F := F.drewN q9)) | (go_at_call 53; ((with_reducible refine (HSM.out _).mono ?_); rintro e w1 ⟨rfl, rfl⟩; skip)) | (with_reducible refine wpList_indexW0G rfl (b := w.heap.size) (off := 0) (n := m) (cap := m) (i := v) rfl rfl Try.underlying100 uinfo1Int64 hvm (by kernel_rfl) ?_) | (with_reducible refine wpList_indexW0G rfl (b := w.heap.size + 1) (off := 0) (n := m) (cap := m) (i := v) rfl rfl Try.underlying100 uinfo1Int64 hvm (by kernel_rfl) ?_) | ((with_reducible refine at_store rfl ?_); (refine wpList_store1 rfl rfl (f := 0 + v * 1) rfl rfl (F.row m1) uinfo1Int64 (by rw [size_itab]; omega) rfl _ (set0 _ _ _ _) ?_; intro w6 K6; replace F := F.wr1 K6; clear K6)) | ((with_reducible refine at_load rfl ?_); first | (with_reducible refine wpList_load1G rfl (p := ⟨b8, o8 + j * 6, none⟩) rfl (v := .int .i64 _) (by kernel_rfl) (C0.out _ F.below) ukindInt64 ?_) | (with_reducible refine wpList_load1G rfl (p := ⟨b8, o8 + j * 6 + 1, none⟩) rfl (v := .int .i64 _) (by kernel_rfl) (C1.out _ F.below) ukindInt64 ?_) | (with_reducible refine wpList_load1G rfl (p := ⟨b8, o8 + j * 6 + 2, none⟩) rfl (v := .int .i64 _) (by kernel_rfl) (C2.out _ F.below) ukindInt64 ?_) | (with_reducible refine wpList_load1G rfl (p := ⟨b8, o8 + j * 6 + 3, none⟩) rfl (v := .int .i64 _) (by kernel_rfl) (C3.out _ F.below) ukindInt64 ?_) | (with_reducible refine wpList_load1G rfl (p := ⟨b8, o8 + j * 6 + 4, none⟩) rfl (v := .int .i64 _) (by kernel_rfl) (C4.out _ F.below) ukindInt64 ?_) | (with_reducible refine wpList_load1G rfl (p := ⟨b8, o8 + j * 6 + 5, none⟩) rfl (v := .float .f32 y) (by kernel_rfl) (C5.out _ F.below) ukindFloat32 ?_) | (with_reducible refine wpList_load1C rfl (g := w.heap.size) (f := 0 + v * 1) rfl (v := .int .i64 _) (by kernel_rfl) (F.row m1) GA.out ukindInt64 ?_) | (with_reducible refine wpList_load1C rfl (g := w.heap.size) (f := 0 + v * 1) rfl (v := .int .i64 _) (by kernel_rfl) (F.row m1) GA2.out ukindInt64 ?_) | (with_reducible refine wpList_load1C rfl (g := w.heap.size + 1) (f := 0 + v * 1) rfl (v := .int .i64 _) (by kernel_rfl) (F.row m0) GB.out ukindInt64 ?_) | (with_reducible refine wpList_load1C rfl (g := w.heap.size + 1) (f := 0 + v * 1) rfl (v := .int .i64 _) (by kernel_rfl) (F.row m0) GB2.out ukindInt64 ?_)))
            go_ret
            exact ⟨ret_b (show false = okE (m : Int) (nI : Int) x n by rw [OK1.out, allB_no hlt hb.out]; rfl), F.below⟩
          have eI : (decide (0 ≤ evI x j) && decide (evI x j < (nI : Int))) = true := by simp only [Bool.and_eq_true, decide_eq_true_eq] at hI ⊢; omega
          rw [hI] at HI
          clear hI
          rcases bool_ft (decide (-100 ≤ evY x j) && decide (evY x j ≤ 100)) with hY | hY
          · have hb := hid (show stE (m : Int) (nI : Int) x j = false by rw [SD2.out]; simp only [if_true, hY, Bool.and_false, Bool.false_and])
            rw [hY] at HY
            clear hY eI SD2 T1 T2 hz
            go_wp2_with (first | ((with_reducible refine listN F ?_); clear F; intro wN F) | (with_reducible refine wpList_indexW0G rfl (b := b8) (off := o8) (n := n) (cap := cap) (i := j) rfl rfl Try.underlying36 uinfoEventI hlt (by kernel_rfl) ?_) | (go_at_call 18; first | ((with_reducible refine (HA.out _).mono ?_); rintro e w1 ⟨rfl, rfl⟩; skip) | ((with_reducible refine (HN.out _).mono ?_); rintro e w1 ⟨rfl, rfl⟩; skip) | ((with_reducible refine (HI.out _).mono ?_); rintro e w1 ⟨rfl, rfl⟩; skip) | ((with_reducible refine (HY.out _).mono ?_); rintro e w1 ⟨rfl, rfl⟩; skip)) | (go_at_call 52; ((with_reducible refine (HFI.out _).mono ?_); rintro e w1 ⟨rfl, q9, rfl⟩; replace F := F.drewN q9)) | (go_at_call 53; ((with_reducible refine (HSM.out _).mono ?_); rintro e w1 ⟨rfl, rfl⟩; skip)) | (with_reducible refine wpList_indexW0G rfl (b := w.heap.size) (off := 0) (n := m) (cap := m) (i := v) rfl rfl Try.underlying100 uinfo1Int64 hvm (by kernel_rfl) ?_) | (with_reducible refine wpList_indexW0G rfl (b := w.heap.size + 1) (off := 0) (n := m) (cap := m) (i := v) rfl rfl Try.underlying100 uinfo1Int64 hvm (by kernel_rfl) ?_) | ((with_reducible refine at_store rfl ?_); (refine wpList_store1 rfl rfl (f := 0 + v * 1) rfl rfl (F.row m1) uinfo1Int64 (by rw [size_itab]; omega) rfl _ (set0 _ _ _ _) ?_; intro w6 K6; replace F := F.wr1 K6; clear K6)) | ((with_reducible refine at_load rfl ?_); first | (with_reducible refine wpList_load1G rfl (p := ⟨b8, o8 + j * 6, none⟩) rfl (v := .int .i64 _) (by kernel_rfl) (C0.out _ F.below) ukindInt64 ?_) | (with_reducible refine wpList_load1G rfl (p := ⟨b8, o8 + j * 6 + 1, none⟩) rfl (v := .int .i64 _) (by kernel_rfl) (C1.out _ F.below) ukindInt64 ?_) | (with_reducible refine wpList_load1G rfl (p := ⟨b8, o8 + j * 6 + 2, none⟩) rfl (v := .int .i64 _) (by kernel_rfl) (C2.out _ F.below) ukindInt64 ?_) | (with_reducible refine wpList_load1G rfl (p := ⟨b8, o8 + j * 6 + 3, none⟩) rfl (v := .int .i64 _) (by kernel_rfl) (C3.out _ F.below) ukindInt64 ?_) | (with_reducible refine wpList_load1G rfl (p := ⟨b8, o8 + j * 6 + 4, none⟩) rfl (v := .int .i64 _) (by kernel_rfl) (C4.out _ F.below) ukindInt64 ?_) | (with_reducible refine wpList_load1G rfl (p := ⟨b8, o8 + j * 6 + 5, none⟩) rfl (v := .float .f32 y) (by kernel_rfl) (C5.out _ F.below) ukindFloat32 ?_) | (with_reducible refine wpList_load1C rfl (g := w.heap.size) (f := 0 + v * 1) rfl (v := .int .i64 _) (by kernel_rfl) (F.row m1) GA.out ukindInt64 ?_) | (with_reducible refine wpList_load1C rfl (g := w.heap.size) (f := 0 + v * 1) rfl (v := .int .i64 _) (by kernel_rfl) (F.row m1) GA2.out ukindInt64 ?_) | (with_reducible refine wpList_load1C rfl (g := w.heap.size + 1) (f := 0 + v * 1) rfl (v := .int .i64 _) (by kernel_rfl) (F.row m0) GB.out ukindInt64 ?_) | (with_reducible refine wpList_load1C rfl (g := w.heap.size + 1) (f := 0 + v * 1) rfl (v := .int .i64 _) (by kernel_rfl) (F.row m0) GB2.out ukindInt64 ?_)))
            go_ret
            exact ⟨ret_b (show false = okE (m : Int) (nI : Int) x n by rw [OK1.out, allB_no hlt hb.out]; rfl), F.below⟩
          rw [hY] at HY
          rcases bool_ft (fin y) with hF | hF
          · have hb := hid (show stE (m : Int) (nI : Int) x j = false by rw [SD2.out]; simp only [if_true, hF, Bool.and_false, Bool.false_and])
            rw [hF] at HFI
            clear hY hF eI SD2 T1 T2 hz
            go_wp2_with (first | ((with_reducible refine listN F ?_); clear F; intro wN F) | (with_reducible refine wpList_indexW0G rfl (b := b8) (off := o8) (n := n) (cap := cap) (i := j) rfl rfl Try.underlying36 uinfoEventI hlt (by kernel_rfl) ?_) | (go_at_call 18; first | ((with_reducible refine (HA.out _).mono ?_); rintro e w1 ⟨rfl, rfl⟩; skip) | ((with_reducible refine (HN.out _).mono ?_); rintro e w1 ⟨rfl, rfl⟩; skip) | ((with_reducible refine (HI.out _).mono ?_); rintro e w1 ⟨rfl, rfl⟩; skip) | ((with_reducible refine (HY.out _).mono ?_); rintro e w1 ⟨rfl, rfl⟩; skip)) | (go_at_call 52; ((with_reducible refine (HFI.out _).mono ?_); rintro e w1 ⟨rfl, q9, rfl⟩; replace F := F.drewN q9)) | (go_at_call 53; ((with_reducible refine (HSM.out _).mono ?_); rintro e w1 ⟨rfl, rfl⟩; skip)) | (with_reducible refine wpList_indexW0G rfl (b := w.heap.size) (off := 0) (n := m) (cap := m) (i := v) rfl rfl Try.underlying100 uinfo1Int64 hvm (by kernel_rfl) ?_) | (with_reducible refine wpList_indexW0G rfl (b := w.heap.size + 1) (off := 0) (n := m) (cap := m) (i := v) rfl rfl Try.underlying100 uinfo1Int64 hvm (by kernel_rfl) ?_) | ((with_reducible refine at_store rfl ?_); (refine wpList_store1 rfl rfl (f := 0 + v * 1) rfl rfl (F.row m1) uinfo1Int64 (by rw [size_itab]; omega) rfl _ (set0 _ _ _ _) ?_; intro w6 K6; replace F := F.wr1 K6; clear K6)) | ((with_reducible refine at_load rfl ?_); first | (with_reducible refine wpList_load1G rfl (p := ⟨b8, o8 + j * 6, none⟩) rfl (v := .int .i64 _) (by kernel_rfl) (C0.out _ F.below) ukindInt64 ?_) | (with_reducible refine wpList_load1G rfl (p := ⟨b8, o8 + j * 6 + 1, none⟩) rfl (v := .int .i64 _) (by kernel_rfl) (C1.out _ F.below) ukindInt64 ?_) | (with_reducible refine wpList_load1G rfl (p := ⟨b8, o8 + j * 6 + 2, none⟩) rfl (v := .int .i64 _) (by kernel_rfl) (C2.out _ F.below) ukindInt64 ?_) | (with_reducible refine wpList_load1G rfl (p := ⟨b8, o8 + j * 6 + 3, none⟩) rfl (v := .int .i64 _) (by kernel_rfl) (C3.out _ F.below) ukindInt64 ?_) | (with_reducible refine wpList_load1G rfl (p := ⟨b8, o8 + j * 6 + 4, none⟩) rfl (v := .int .i64 _) (by kernel_rfl) (C4.out _ F.below) ukindInt64 ?_) | (with_reducible refine wpList_load1G rfl (p := ⟨b8, o8 + j * 6 + 5, none⟩) rfl (v := .float .f32 y) (by kernel_rfl) (C5.out _ F.below) ukindFloat32 ?_) | (with_reducible refine wpList_load1C rfl (g := w.heap.size) (f := 0 + v * 1) rfl (v := .int .i64 _) (by kernel_rfl) (F.row m1) GA.out ukindInt64 ?_) | (with_reducible refine wpList_load1C rfl (g := w.heap.size) (f := 0 + v * 1) rfl (v := .int .i64 _) (by kernel_rfl) (F.row m1) GA2.out ukindInt64 ?_) | (with_reducible refine wpList_load1C rfl (g := w.heap.size + 1) (f := 0 + v * 1) rfl (v := .int .i64 _) (by kernel_rfl) (F.row m0) GB.out ukindInt64 ?_) | (with_reducible refine wpList_load1C rfl (g := w.heap.size + 1) (f := 0 + v * 1) rfl (v := .int .i64 _) (by kernel_rfl) (F.row m0) GB2.out ukindInt64 ?_)))
            go_ret
            exact ⟨ret_b (show false = okE (m : Int) (nI : Int) x n by rw [OK1.out, allB_no hlt hb.out]; rfl), F.below⟩
          rw [hF] at HFI
          have hb := hid (show stE (m : Int) (nI : Int) x j = true by rw [SD2.out]; simp only [if_true, eI, hY, hF, befK, Bool.true_and]; rfl)
          have T := hid (T1.out rfl rfl)
          clear hY hF eI SD2 T1 T2 hz
          go_wp2_with (first | ((with_reducible refine listN F ?_); clear F; intro wN F) | (with_reducible refine wpList_indexW0G rfl (b := b8) (off := o8) (n := n) (cap := cap) (i := j) rfl rfl Try.underlying36 uinfoEventI hlt (by kernel_rfl) ?_) | (go_at_call 18; first | ((with_reducible refine (HA.out _).mono ?_); rintro e w1 ⟨rfl, rfl⟩; skip) | ((with_reducible refine (HN.out _).mono ?_); rintro e w1 ⟨rfl, rfl⟩; skip) | ((with_reducible refine (HI.out _).mono ?_); rintro e w1 ⟨rfl, rfl⟩; skip) | ((with_reducible refine (HY.out _).mono ?_); rintro e w1 ⟨rfl, rfl⟩; skip)) | (go_at_call 52; ((with_reducible refine (HFI.out _).mono ?_); rintro e w1 ⟨rfl, q9, rfl⟩; replace F := F.drewN q9)) | (go_at_call 53; ((with_reducible refine (HSM.out _).mono ?_); rintro e w1 ⟨rfl, rfl⟩; skip)) | (with_reducible refine wpList_indexW0G rfl (b := w.heap.size) (off := 0) (n := m) (cap := m) (i := v) rfl rfl Try.underlying100 uinfo1Int64 hvm (by kernel_rfl) ?_) | (with_reducible refine wpList_indexW0G rfl (b := w.heap.size + 1) (off := 0) (n := m) (cap := m) (i := v) rfl rfl Try.underlying100 uinfo1Int64 hvm (by kernel_rfl) ?_) | ((with_reducible refine at_store rfl ?_); (refine wpList_store1 rfl rfl (f := 0 + v * 1) rfl rfl (F.row m1) uinfo1Int64 (by rw [size_itab]; omega) rfl _ (set0 _ _ _ _) ?_; intro w6 K6; replace F := F.wr1 K6; clear K6)) | ((with_reducible refine at_load rfl ?_); first | (with_reducible refine wpList_load1G rfl (p := ⟨b8, o8 + j * 6, none⟩) rfl (v := .int .i64 _) (by kernel_rfl) (C0.out _ F.below) ukindInt64 ?_) | (with_reducible refine wpList_load1G rfl (p := ⟨b8, o8 + j * 6 + 1, none⟩) rfl (v := .int .i64 _) (by kernel_rfl) (C1.out _ F.below) ukindInt64 ?_) | (with_reducible refine wpList_load1G rfl (p := ⟨b8, o8 + j * 6 + 2, none⟩) rfl (v := .int .i64 _) (by kernel_rfl) (C2.out _ F.below) ukindInt64 ?_) | (with_reducible refine wpList_load1G rfl (p := ⟨b8, o8 + j * 6 + 3, none⟩) rfl (v := .int .i64 _) (by kernel_rfl) (C3.out _ F.below) ukindInt64 ?_) | (with_reducible refine wpList_load1G rfl (p := ⟨b8, o8 + j * 6 + 4, none⟩) rfl (v := .int .i64 _) (by kernel_rfl) (C4.out _ F.below) ukindInt64 ?_) | (with_reducible refine wpList_load1G rfl (p := ⟨b8, o8 + j * 6 + 5, none⟩) rfl (v := .float .f32 y) (by kernel_rfl) (C5.out _ F.below) ukindFloat32 ?_) | (with_reducible refine wpList_load1C rfl (g := w.heap.size) (f := 0 + v * 1) rfl (v := .int .i64 _) (by kernel_rfl) (F.row m1) GA.out ukindInt64 ?_) | (with_reducible refine wpList_load1C rfl (g := w.heap.size) (f := 0 + v * 1) rfl (v := .int .i64 _) (by kernel_rfl) (F.row m1) GA2.out ukindInt64 ?_) | (with_reducible refine wpList_load1C rfl (g := w.heap.size + 1) (f := 0 + v * 1) rfl (v := .int .i64 _) (by kernel_rfl) (F.row m0) GB.out ukindInt64 ?_) | (with_reducible refine wpList_load1C rfl (g := w.heap.size + 1) (f := 0 + v * 1) rfl (v := .int .i64 _) (by kernel_rfl) (F.row m0) GB2.out ukindInt64 ?_)))
          go_roundw
          case rel =>
            rw [T.out.1, T.out.2] at F
            exact ⟨j + 1, by omega, by go_num, fun i hi => by rcases Nat.lt_or_ge i j with h | h; exact HJ.out i h; rw [show i = j by omega]; exact hb.out, F⟩
          case measure => simp [intOf]; omega
        · have GA := hid (get0 (g := fun q : Nat => st1 (laE x j (q : Int))) hvm (show st1 (laE x j (v : Int)) = 1 by rw [hz]; rfl)); have GB := hid (get0 (g := fun q : Nat => st2 (laE x j (q : Int))) hvm (show st2 (laE x j (v : Int)) = 1 by rw [hz]; rfl)); have GA2 := hid (get0 (g := fun q : Nat => if q = v then (2 : Int) else st1 (laE x j (q : Int))) hvm (if_pos rfl)); have GB2 := GB
          have hb := hid (show stE (m : Int) (nI : Int) x j = false by rw [SD2.out]; simp [befK])
          clear SD2 T1 T2 hz
          go_wp2_with (first | ((with_reducible refine listN F ?_); clear F; intro wN F) | (with_reducible refine wpList_indexW0G rfl (b := b8) (off := o8) (n := n) (cap := cap) (i := j) rfl rfl Try.underlying36 uinfoEventI hlt (by kernel_rfl) ?_) | (go_at_call 18; first | ((with_reducible refine (HA.out _).mono ?_); rintro e w1 ⟨rfl, rfl⟩; skip) | ((with_reducible refine (HN.out _).mono ?_); rintro e w1 ⟨rfl, rfl⟩; skip) | ((with_reducible refine (HI.out _).mono ?_); rintro e w1 ⟨rfl, rfl⟩; skip) | ((with_reducible refine (HY.out _).mono ?_); rintro e w1 ⟨rfl, rfl⟩; skip)) | (go_at_call 52; ((with_reducible refine (HFI.out _).mono ?_); rintro e w1 ⟨rfl, q9, rfl⟩; replace F := F.drewN q9)) | (go_at_call 53; ((with_reducible refine (HSM.out _).mono ?_); rintro e w1 ⟨rfl, rfl⟩; skip)) | (with_reducible refine wpList_indexW0G rfl (b := w.heap.size) (off := 0) (n := m) (cap := m) (i := v) rfl rfl Try.underlying100 uinfo1Int64 hvm (by kernel_rfl) ?_) | (with_reducible refine wpList_indexW0G rfl (b := w.heap.size + 1) (off := 0) (n := m) (cap := m) (i := v) rfl rfl Try.underlying100 uinfo1Int64 hvm (by kernel_rfl) ?_) | ((with_reducible refine at_store rfl ?_); (refine wpList_store1 rfl rfl (f := 0 + v * 1) rfl rfl (F.row m1) uinfo1Int64 (by rw [size_itab]; omega) rfl _ (set0 _ _ _ _) ?_; intro w6 K6; replace F := F.wr1 K6; clear K6)) | ((with_reducible refine at_load rfl ?_); first | (with_reducible refine wpList_load1G rfl (p := ⟨b8, o8 + j * 6, none⟩) rfl (v := .int .i64 _) (by kernel_rfl) (C0.out _ F.below) ukindInt64 ?_) | (with_reducible refine wpList_load1G rfl (p := ⟨b8, o8 + j * 6 + 1, none⟩) rfl (v := .int .i64 _) (by kernel_rfl) (C1.out _ F.below) ukindInt64 ?_) | (with_reducible refine wpList_load1G rfl (p := ⟨b8, o8 + j * 6 + 2, none⟩) rfl (v := .int .i64 _) (by kernel_rfl) (C2.out _ F.below) ukindInt64 ?_) | (with_reducible refine wpList_load1G rfl (p := ⟨b8, o8 + j * 6 + 3, none⟩) rfl (v := .int .i64 _) (by kernel_rfl) (C3.out _ F.below) ukindInt64 ?_) | (with_reducible refine wpList_load1G rfl (p := ⟨b8, o8 + j * 6 + 4, none⟩) rfl (v := .int .i64 _) (by kernel_rfl) (C4.out _ F.below) ukindInt64 ?_) | (with_reducible refine wpList_load1G rfl (p := ⟨b8, o8 + j * 6 + 5, none⟩) rfl (v := .float .f32 y) (by kernel_rfl) (C5.out _ F.below) ukindFloat32 ?_) | (with_reducible refine wpList_load1C rfl (g := w.heap.size) (f := 0 + v * 1) rfl (v := .int .i64 _) (by kernel_rfl) (F.row m1) GA.out ukindInt64 ?_) | (with_reducible refine wpList_load1C rfl (g := w.heap.size) (f := 0 + v * 1) rfl (v := .int .i64 _) (by kernel_rfl) (F.row m1) GA2.out ukindInt64 ?_) | (with_reducible refine wpList_load1C rfl (g := w.heap.size + 1) (f := 0 + v * 1) rfl (v := .int .i64 _) (by kernel_rfl) (F.row m0) GB.out ukindInt64 ?_) | (with_reducible refine wpList_load1C rfl (g := w.heap.size + 1) (f := 0 + v * 1) rfl (v := .int .i64 _) (by kernel_rfl) (F.row m0) GB2.out ukindInt64 ?_)))
          go_ret
          exact ⟨ret_b (show false = okE (m : Int) (nI : Int) x n by rw [OK1.out, allB_no hlt hb.out]; rfl), F.below⟩
        · have GA := hid (get0 (g := fun q : Nat => st1 (laE x j (q : Int))) hvm (show st1 (laE x j (v : Int)) = 1 by rw [hz]; rfl)); have GB := hid (get0 (g := fun q : Nat => st2 (laE x j (q : Int))) hvm (show st2 (laE x j (v : Int)) = 0 by rw [hz]; rfl)); have GA2 := hid (get0 (g := fun q : Nat => if q = v then (2 : Int) else st1 (laE x j (q : Int))) hvm (if_pos rfl)); have GB2 := GB
          rcases bool_ft (decide (0 ≤ evI x j) && decide (evI x j ≤ (nI : Int) - 1)) with hI | hI
          · have hb := hid (show stE (m : Int) (nI : Int) x j = false by
              have e : (decide (0 ≤ evI x j) && decide (evI x j < (nI : Int))) = false := by simp only [Bool.and_eq_false_iff, decide_eq_false_iff_not] at hI ⊢; omega
              rw [SD2.out]; simp only [if_true, e, Bool.false_and])
            rw [hI] at HI
            clear hI SD2 T1 T2 hz
            go_wp2_with (first | ((with_reducible refine listN F ?_); clear F; intro wN F) | (with_reducible refine wpList_indexW0G rfl (b := b8) (off := o8) (n := n) (cap := cap) (i := j) rfl rfl Try.underlying36 uinfoEventI hlt (by kernel_rfl) ?_) | (go_at_call 18; first | ((with_reducible refine (HA.out _).mono ?_); rintro e w1 ⟨rfl, rfl⟩; skip) | ((with_reducible refine (HN.out _).mono ?_); rintro e w1 ⟨rfl, rfl⟩; skip) | ((with_reducible refine (HI.out _).mono ?_); rintro e w1 ⟨rfl, rfl⟩; skip) | ((with_reducible refine (HY.out _).mono ?_); rintro e w1 ⟨rfl, rfl⟩; skip)) | (go_at_call 52; ((with_reducible refine (HFI.out _).mono ?_); rintro e w1 ⟨rfl, q9, rfl⟩; replace F := F.drewN q9)) | (go_at_call 53; ((with_reducible refine (HSM.out _).mono ?_); rintro e w1 ⟨rfl, rfl⟩; skip)) | (with_reducible refine wpList_indexW0G rfl (b := w.heap.size) (off := 0) (n := m) (cap := m) (i := v) rfl rfl Try.underlying100 uinfo1Int64 hvm (by kernel_rfl) ?_) | (with_reducible refine wpList_indexW0G rfl (b := w.heap.size + 1) (off := 0) (n := m) (cap := m) (i := v) rfl rfl Try.underlying100 uinfo1Int64 hvm (by kernel_rfl) ?_) | ((with_reducible refine at_store rfl ?_); (refine wpList_store1 rfl rfl (f := 0 + v * 1) rfl rfl (F.row m1) uinfo1Int64 (by rw [size_itab]; omega) rfl _ (set0 _ _ _ _) ?_; intro w6 K6; replace F := F.wr1 K6; clear K6)) | ((with_reducible refine at_load rfl ?_); first | (with_reducible refine wpList_load1G rfl (p := ⟨b8, o8 + j * 6, none⟩) rfl (v := .int .i64 _) (by kernel_rfl) (C0.out _ F.below) ukindInt64 ?_) | (with_reducible refine wpList_load1G rfl (p := ⟨b8, o8 + j * 6 + 1, none⟩) rfl (v := .int .i64 _) (by kernel_rfl) (C1.out _ F.below) ukindInt64 ?_) | (with_reducible refine wpList_load1G rfl (p := ⟨b8, o8 + j * 6 + 2, none⟩) rfl (v := .int .i64 _) (by kernel_rfl) (C2.out _ F.below) ukindInt64 ?_) | (with_reducible refine wpList_load1G rfl (p := ⟨b8, o8 + j * 6 + 3, none⟩) rfl (v := .int .i64 _) (by kernel_rfl) (C3.out _ F.below) ukindInt64 ?_) | (with_reducible refine wpList_load1G rfl (p := ⟨b8, o8 + j * 6 + 4, none⟩) rfl (v := .int .i64 _) (by kernel_rfl) (C4.out _ F.below) ukindInt64 ?_) | (with_reducible refine wpList_load1G rfl (p := ⟨b8, o8 + j * 6 + 5, none⟩) rfl (v := .float .f32 y) (by kernel_rfl) (C5.out _ F.below) ukindFloat32 ?_) | (with_reducible refine wpList_load1C rfl (g := w.heap.size) (f := 0 + v * 1) rfl (v := .int .i64 _) (by kernel_rfl) (F.row m1) GA.out ukindInt64 ?_) | (with_reducible refine wpList_load1C rfl (g := w.heap.size) (f := 0 + v * 1) rfl (v := .int .i64 _) (by kernel_rfl) (F.row m1) GA2.out ukindInt64 ?_) | (with_reducible refine wpList_load1C rfl (g := w.heap.size + 1) (f := 0 + v * 1) rfl (v := .int .i64 _) (by kernel_rfl) (F.row m0) GB.out ukindInt64 ?_) | (with_reducible refine wpList_load1C rfl (g := w.heap.size + 1) (f := 0 + v * 1) rfl (v := .int .i64 _) (by kernel_rfl) (F.row m0) GB2.out ukindInt64 ?_)))
            go_ret
            exact ⟨ret_b (show false = okE (m : Int) (nI : Int) x n by rw [OK1.out, allB_no hlt hb.out]; rfl), F.below⟩
          have eI : (decide (0 ≤ evI x j) && decide (evI x j < (nI : Int))) = true := by simp only [Bool.and_eq_true, decide_eq_true_eq] at hI ⊢; omega
          rw [hI] at HI
          clear hI
          rcases bool_ft (decide (-100 ≤ evY x j) && decide (evY x j ≤ 100)) with hY | hY
          · have hb := hid (show stE (m : Int) (nI : Int) x j = false by rw [SD2.out]; simp only [if_true, hY, Bool.and_false, Bool.false_and])
            rw [hY] at HY
            clear hY eI SD2 T1 T2 hz
            go_wp2_with (first | ((with_reducible refine listN F ?_); clear F; intro wN F) | (with_reducible refine wpList_indexW0G rfl (b := b8) (off := o8) (n := n) (cap := cap) (i := j) rfl rfl Try.underlying36 uinfoEventI hlt (by kernel_rfl) ?_) | (go_at_call 18; first | ((with_reducible refine (HA.out _).mono ?_); rintro e w1 ⟨rfl, rfl⟩; skip) | ((with_reducible refine (HN.out _).mono ?_); rintro e w1 ⟨rfl, rfl⟩; skip) | ((with_reducible refine (HI.out _).mono ?_); rintro e w1 ⟨rfl, rfl⟩; skip) | ((with_reducible refine (HY.out _).mono ?_); rintro e w1 ⟨rfl, rfl⟩; skip)) | (go_at_call 52; ((with_reducible refine (HFI.out _).mono ?_); rintro e w1 ⟨rfl, q9, rfl⟩; replace F := F.drewN q9)) | (go_at_call 53; ((with_reducible refine (HSM.out _).mono ?_); rintro e w1 ⟨rfl, rfl⟩; skip)) | (with_reducible refine wpList_indexW0G rfl (b := w.heap.size) (off := 0) (n := m) (cap := m) (i := v) rfl rfl Try.underlying100 uinfo1Int64 hvm (by kernel_rfl) ?_) | (with_reducible refine wpList_indexW0G rfl (b := w.heap.size + 1) (off := 0) (n := m) (cap := m) (i := v) rfl rfl Try.underlying100 uinfo1Int64 hvm (by kernel_rfl) ?_) | ((with_reducible refine at_store rfl ?_); (refine wpList_store1 rfl rfl (f := 0 + v * 1) rfl rfl (F.row m1) uinfo1Int64 (by rw [size_itab]; omega) rfl _ (set0 _ _ _ _) ?_; intro w6 K6; replace F := F.wr1 K6; clear K6)) | ((with_reducible refine at_load rfl ?_); first | (with_reducible refine wpList_load1G rfl (p := ⟨b8, o8 + j * 6, none⟩) rfl (v := .int .i64 _) (by kernel_rfl) (C0.out _ F.below) ukindInt64 ?_) | (with_reducible refine wpList_load1G rfl (p := ⟨b8, o8 + j * 6 + 1, none⟩) rfl (v := .int .i64 _) (by kernel_rfl) (C1.out _ F.below) ukindInt64 ?_) | (with_reducible refine wpList_load1G rfl (p := ⟨b8, o8 + j * 6 + 2, none⟩) rfl (v := .int .i64 _) (by kernel_rfl) (C2.out _ F.below) ukindInt64 ?_) | (with_reducible refine wpList_load1G rfl (p := ⟨b8, o8 + j * 6 + 3, none⟩) rfl (v := .int .i64 _) (by kernel_rfl) (C3.out _ F.below) ukindInt64 ?_) | (with_reducible refine wpList_load1G rfl (p := ⟨b8, o8 + j * 6 + 4, none⟩) rfl (v := .int .i64 _) (by kernel_rfl) (C4.out _ F.below) ukindInt64 ?_) | (with_reducible refine wpList_load1G rfl (p := ⟨b8, o8 + j * 6 + 5, none⟩) rfl (v := .float .f32 y) (by kernel_rfl) (C5.out _ F.below) ukindFloat32 ?_) | (with_reducible refine wpList_load1C rfl (g := w.heap.size) (f := 0 + v * 1) rfl (v := .int .i64 _) (by kernel_rfl) (F.row m1) GA.out ukindInt64 ?_) | (with_reducible refine wpList_load1C rfl (g := w.heap.size) (f := 0 + v * 1) rfl (v := .int .i64 _) (by kernel_rfl) (F.row m1) GA2.out ukindInt64 ?_) | (with_reducible refine wpList_load1C rfl (g := w.heap.size + 1) (f := 0 + v * 1) rfl (v := .int .i64 _) (by kernel_rfl) (F.row m0) GB.out ukindInt64 ?_) | (with_reducible refine wpList_load1C rfl (g := w.heap.size + 1) (f := 0 + v * 1) rfl (v := .int .i64 _) (by kernel_rfl) (F.row m0) GB2.out ukindInt64 ?_)))
            go_ret
            exact ⟨ret_b (show false = okE (m : Int) (nI : Int) x n by rw [OK1.out, allB_no hlt hb.out]; rfl), F.below⟩
          rw [hY] at HY
          rcases bool_ft (fin y) with hF | hF
          · have hb := hid (show stE (m : Int) (nI : Int) x j = false by rw [SD2.out]; simp only [if_true, hF, Bool.and_false, Bool.false_and])
            rw [hF] at HFI
            clear hY hF eI SD2 T1 T2 hz
            go_wp2_with (first | ((with_reducible refine listN F ?_); clear F; intro wN F) | (with_reducible refine wpList_indexW0G rfl (b := b8) (off := o8) (n := n) (cap := cap) (i := j) rfl rfl Try.underlying36 uinfoEventI hlt (by kernel_rfl) ?_) | (go_at_call 18; first | ((with_reducible refine (HA.out _).mono ?_); rintro e w1 ⟨rfl, rfl⟩; skip) | ((with_reducible refine (HN.out _).mono ?_); rintro e w1 ⟨rfl, rfl⟩; skip) | ((with_reducible refine (HI.out _).mono ?_); rintro e w1 ⟨rfl, rfl⟩; skip) | ((with_reducible refine (HY.out _).mono ?_); rintro e w1 ⟨rfl, rfl⟩; skip)) | (go_at_call 52; ((with_reducible refine (HFI.out _).mono ?_); rintro e w1 ⟨rfl, q9, rfl⟩; replace F := F.drewN q9)) | (go_at_call 53; ((with_reducible refine (HSM.out _).mono ?_); rintro e w1 ⟨rfl, rfl⟩; skip)) | (with_reducible refine wpList_indexW0G rfl (b := w.heap.size) (off := 0) (n := m) (cap := m) (i := v) rfl rfl Try.underlying100 uinfo1Int64 hvm (by kernel_rfl) ?_) | (with_reducible refine wpList_indexW0G rfl (b := w.heap.size + 1) (off := 0) (n := m) (cap := m) (i := v) rfl rfl Try.underlying100 uinfo1Int64 hvm (by kernel_rfl) ?_) | ((with_reducible refine at_store rfl ?_); (refine wpList_store1 rfl rfl (f := 0 + v * 1) rfl rfl (F.row m1) uinfo1Int64 (by rw [size_itab]; omega) rfl _ (set0 _ _ _ _) ?_; intro w6 K6; replace F := F.wr1 K6; clear K6)) | ((with_reducible refine at_load rfl ?_); first | (with_reducible refine wpList_load1G rfl (p := ⟨b8, o8 + j * 6, none⟩) rfl (v := .int .i64 _) (by kernel_rfl) (C0.out _ F.below) ukindInt64 ?_) | (with_reducible refine wpList_load1G rfl (p := ⟨b8, o8 + j * 6 + 1, none⟩) rfl (v := .int .i64 _) (by kernel_rfl) (C1.out _ F.below) ukindInt64 ?_) | (with_reducible refine wpList_load1G rfl (p := ⟨b8, o8 + j * 6 + 2, none⟩) rfl (v := .int .i64 _) (by kernel_rfl) (C2.out _ F.below) ukindInt64 ?_) | (with_reducible refine wpList_load1G rfl (p := ⟨b8, o8 + j * 6 + 3, none⟩) rfl (v := .int .i64 _) (by kernel_rfl) (C3.out _ F.below) ukindInt64 ?_) | (with_reducible refine wpList_load1G rfl (p := ⟨b8, o8 + j * 6 + 4, none⟩) rfl (v := .int .i64 _) (by kernel_rfl) (C4.out _ F.below) ukindInt64 ?_) | (with_reducible refine wpList_load1G rfl (p := ⟨b8, o8 + j * 6 + 5, none⟩) rfl (v := .float .f32 y) (by kernel_rfl) (C5.out _ F.below) ukindFloat32 ?_) | (with_reducible refine wpList_load1C rfl (g := w.heap.size) (f := 0 + v * 1) rfl (v := .int .i64 _) (by kernel_rfl) (F.row m1) GA.out ukindInt64 ?_) | (with_reducible refine wpList_load1C rfl (g := w.heap.size) (f := 0 + v * 1) rfl (v := .int .i64 _) (by kernel_rfl) (F.row m1) GA2.out ukindInt64 ?_) | (with_reducible refine wpList_load1C rfl (g := w.heap.size + 1) (f := 0 + v * 1) rfl (v := .int .i64 _) (by kernel_rfl) (F.row m0) GB.out ukindInt64 ?_) | (with_reducible refine wpList_load1C rfl (g := w.heap.size + 1) (f := 0 + v * 1) rfl (v := .int .i64 _) (by kernel_rfl) (F.row m0) GB2.out ukindInt64 ?_)))
            go_ret
            exact ⟨ret_b (show false = okE (m : Int) (nI : Int) x n by rw [OK1.out, allB_no hlt hb.out]; rfl), F.below⟩
          rw [hF] at HFI
          have hb := hid (show stE (m : Int) (nI : Int) x j = false by rw [SD2.out]; simp [befK])
          clear hY hF eI SD2 T1 T2 hz
          go_wp2_with (first | ((with_reducible refine listN F ?_); clear F; intro wN F) | (with_reducible refine wpList_indexW0G rfl (b := b8) (off := o8) (n := n) (cap := cap) (i := j) rfl rfl Try.underlying36 uinfoEventI hlt (by kernel_rfl) ?_) | (go_at_call 18; first | ((with_reducible refine (HA.out _).mono ?_); rintro e w1 ⟨rfl, rfl⟩; skip) | ((with_reducible refine (HN.out _).mono ?_); rintro e w1 ⟨rfl, rfl⟩; skip) | ((with_reducible refine (HI.out _).mono ?_); rintro e w1 ⟨rfl, rfl⟩; skip) | ((with_reducible refine (HY.out _).mono ?_); rintro e w1 ⟨rfl, rfl⟩; skip)) | (go_at_call 52; ((with_reducible refine (HFI.out _).mono ?_); rintro e w1 ⟨rfl, q9, rfl⟩; replace F := F.drewN q9)) | (go_at_call 53; ((with_reducible refine (HSM.out _).mono ?_); rintro e w1 ⟨rfl, rfl⟩; skip)) | (with_reducible refine wpList_indexW0G rfl (b := w.heap.size) (off := 0) (n := m) (cap := m) (i := v) rfl rfl Try.underlying100 uinfo1Int64 hvm (by kernel_rfl) ?_) | (with_reducible refine wpList_indexW0G rfl (b := w.heap.size + 1) (off := 0) (n := m) (cap := m) (i := v) rfl rfl Try.underlying100 uinfo1Int64 hvm (by kernel_rfl) ?_) | ((with_reducible refine at_store rfl ?_); (refine wpList_store1 rfl rfl (f := 0 + v * 1) rfl rfl (F.row m1) uinfo1Int64 (by rw [size_itab]; omega) rfl _ (set0 _ _ _ _) ?_; intro w6 K6; replace F := F.wr1 K6; clear K6)) | ((with_reducible refine at_load rfl ?_); first | (with_reducible refine wpList_load1G rfl (p := ⟨b8, o8 + j * 6, none⟩) rfl (v := .int .i64 _) (by kernel_rfl) (C0.out _ F.below) ukindInt64 ?_) | (with_reducible refine wpList_load1G rfl (p := ⟨b8, o8 + j * 6 + 1, none⟩) rfl (v := .int .i64 _) (by kernel_rfl) (C1.out _ F.below) ukindInt64 ?_) | (with_reducible refine wpList_load1G rfl (p := ⟨b8, o8 + j * 6 + 2, none⟩) rfl (v := .int .i64 _) (by kernel_rfl) (C2.out _ F.below) ukindInt64 ?_) | (with_reducible refine wpList_load1G rfl (p := ⟨b8, o8 + j * 6 + 3, none⟩) rfl (v := .int .i64 _) (by kernel_rfl) (C3.out _ F.below) ukindInt64 ?_) | (with_reducible refine wpList_load1G rfl (p := ⟨b8, o8 + j * 6 + 4, none⟩) rfl (v := .int .i64 _) (by kernel_rfl) (C4.out _ F.below) ukindInt64 ?_) | (with_reducible refine wpList_load1G rfl (p := ⟨b8, o8 + j * 6 + 5, none⟩) rfl (v := .float .f32 y) (by kernel_rfl) (C5.out _ F.below) ukindFloat32 ?_) | (with_reducible refine wpList_load1C rfl (g := w.heap.size) (f := 0 + v * 1) rfl (v := .int .i64 _) (by kernel_rfl) (F.row m1) GA.out ukindInt64 ?_) | (with_reducible refine wpList_load1C rfl (g := w.heap.size) (f := 0 + v * 1) rfl (v := .int .i64 _) (by kernel_rfl) (F.row m1) GA2.out ukindInt64 ?_) | (with_reducible refine wpList_load1C rfl (g := w.heap.size + 1) (f := 0 + v * 1) rfl (v := .int .i64 _) (by kernel_rfl) (F.row m0) GB.out ukindInt64 ?_) | (with_reducible refine wpList_load1C rfl (g := w.heap.size + 1) (f := 0 + v * 1) rfl (v := .int .i64 _) (by kernel_rfl) (F.row m0) GB2.out ukindInt64 ?_)))
          go_ret
          exact ⟨ret_b (show false = okE (m : Int) (nI : Int) x n by rw [OK1.out, allB_no hlt hb.out]; rfl), F.below⟩
      by_cases k1 : evK x j = 1
      · rw [k1] at SD2 T1 T2 C1
        generalize evK x j = K0 at *
        subst k1
        rcases hzz with rfl | rfl | rfl
        · have GA := hid (get0 (g := fun q : Nat => st1 (laE x j (q : Int))) hvm (show st1 (laE x j (v : Int)) = 0 by rw [hz]; rfl)); have GB := hid (get0 (g := fun q : Nat => st2 (laE x j (q : Int))) hvm (show st2 (laE x j (v : Int)) = 0 by rw [hz]; rfl)); have GB2 := hid (get0 (g := fun q : Nat => if q = v then (1 : Int) else st2 (laE x j (q : Int))) hvm (if_pos rfl)); have GA2 := GA
          have hb := hid (show stE (m : Int) (nI : Int) x j = false by rw [SD2.out]; simp [befK])
          clear SD2 T1 T2 hz
          go_wp2_with (first | ((with_reducible refine listN F ?_); clear F; intro wN F) | (with_reducible refine wpList_indexW0G rfl (b := b8) (off := o8) (n := n) (cap := cap) (i := j) rfl rfl Try.underlying36 uinfoEventI hlt (by kernel_rfl) ?_) | (go_at_call 18; first | ((with_reducible refine (HA.out _).mono ?_); rintro e w1 ⟨rfl, rfl⟩; skip) | ((with_reducible refine (HN.out _).mono ?_); rintro e w1 ⟨rfl, rfl⟩; skip) | ((with_reducible refine (HI.out _).mono ?_); rintro e w1 ⟨rfl, rfl⟩; skip) | ((with_reducible refine (HY.out _).mono ?_); rintro e w1 ⟨rfl, rfl⟩; skip)) | (go_at_call 52; ((with_reducible refine (HFI.out _).mono ?_); rintro e w1 ⟨rfl, q9, rfl⟩; replace F := F.drewN q9)) | (go_at_call 53; ((with_reducible refine (HSM.out _).mono ?_); rintro e w1 ⟨rfl, rfl⟩; skip)) | (with_reducible refine wpList_indexW0G rfl (b := w.heap.size) (off := 0) (n := m) (cap := m) (i := v) rfl rfl Try.underlying100 uinfo1Int64 hvm (by kernel_rfl) ?_) | (with_reducible refine wpList_indexW0G rfl (b := w.heap.size + 1) (off := 0) (n := m) (cap := m) (i := v) rfl rfl Try.underlying100 uinfo1Int64 hvm (by kernel_rfl) ?_) | ((with_reducible refine at_store rfl ?_); (refine wpList_store1 rfl rfl (f := 0 + v * 1) rfl rfl (F.row m0) uinfo1Int64 (by rw [size_itab]; omega) rfl _ (set0 _ _ _ _) ?_; intro w6 K6; replace F := F.wr0 K6; clear K6)) | ((with_reducible refine at_load rfl ?_); first | (with_reducible refine wpList_load1G rfl (p := ⟨b8, o8 + j * 6, none⟩) rfl (v := .int .i64 _) (by kernel_rfl) (C0.out _ F.below) ukindInt64 ?_) | (with_reducible refine wpList_load1G rfl (p := ⟨b8, o8 + j * 6 + 1, none⟩) rfl (v := .int .i64 _) (by kernel_rfl) (C1.out _ F.below) ukindInt64 ?_) | (with_reducible refine wpList_load1G rfl (p := ⟨b8, o8 + j * 6 + 2, none⟩) rfl (v := .int .i64 _) (by kernel_rfl) (C2.out _ F.below) ukindInt64 ?_) | (with_reducible refine wpList_load1G rfl (p := ⟨b8, o8 + j * 6 + 3, none⟩) rfl (v := .int .i64 _) (by kernel_rfl) (C3.out _ F.below) ukindInt64 ?_) | (with_reducible refine wpList_load1G rfl (p := ⟨b8, o8 + j * 6 + 4, none⟩) rfl (v := .int .i64 _) (by kernel_rfl) (C4.out _ F.below) ukindInt64 ?_) | (with_reducible refine wpList_load1G rfl (p := ⟨b8, o8 + j * 6 + 5, none⟩) rfl (v := .float .f32 y) (by kernel_rfl) (C5.out _ F.below) ukindFloat32 ?_) | (with_reducible refine wpList_load1C rfl (g := w.heap.size) (f := 0 + v * 1) rfl (v := .int .i64 _) (by kernel_rfl) (F.row m1) GA.out ukindInt64 ?_) | (with_reducible refine wpList_load1C rfl (g := w.heap.size) (f := 0 + v * 1) rfl (v := .int .i64 _) (by kernel_rfl) (F.row m1) GA2.out ukindInt64 ?_) | (with_reducible refine wpList_load1C rfl (g := w.heap.size + 1) (f := 0 + v * 1) rfl (v := .int .i64 _) (by kernel_rfl) (F.row m0) GB.out ukindInt64 ?_) | (with_reducible refine wpList_load1C rfl (g := w.heap.size + 1) (f := 0 + v * 1) rfl (v := .int .i64 _) (by kernel_rfl) (F.row m0) GB2.out ukindInt64 ?_)))
          go_ret
          exact ⟨ret_b (show false = okE (m : Int) (nI : Int) x n by rw [OK1.out, allB_no hlt hb.out]; rfl), F.below⟩
        · have GA := hid (get0 (g := fun q : Nat => st1 (laE x j (q : Int))) hvm (show st1 (laE x j (v : Int)) = 1 by rw [hz]; rfl)); have GB := hid (get0 (g := fun q : Nat => st2 (laE x j (q : Int))) hvm (show st2 (laE x j (v : Int)) = 1 by rw [hz]; rfl)); have GB2 := hid (get0 (g := fun q : Nat => if q = v then (2 : Int) else st2 (laE x j (q : Int))) hvm (if_pos rfl)); have GA2 := GA
          by_cases hI : evI x j = 0
          rotate_left
          · have hb := hid (show stE (m : Int) (nI : Int) x j = false by rw [SD2.out]; simp [hI])
            have nhI : (evI x j != 0) = true := by simpa using hI
            clear SD2 T1 T2 hz
            go_wp2_with (first | ((with_reducible refine listN F ?_); clear F; intro wN F) | (with_reducible refine wpList_indexW0G rfl (b := b8) (off := o8) (n := n) (cap := cap) (i := j) rfl rfl Try.underlying36 uinfoEventI hlt (by kernel_rfl) ?_) | (go_at_call 18; first | ((with_reducible refine (HA.out _).mono ?_); rintro e w1 ⟨rfl, rfl⟩; skip) | ((with_reducible refine (HN.out _).mono ?_); rintro e w1 ⟨rfl, rfl⟩; skip) | ((with_reducible refine (HI.out _).mono ?_); rintro e w1 ⟨rfl, rfl⟩; skip) | ((with_reducible refine (HY.out _).mono ?_); rintro e w1 ⟨rfl, rfl⟩; skip)) | (go_at_call 52; ((with_reducible refine (HFI.out _).mono ?_); rintro e w1 ⟨rfl, q9, rfl⟩; replace F := F.drewN q9)) | (go_at_call 53; ((with_reducible refine (HSM.out _).mono ?_); rintro e w1 ⟨rfl, rfl⟩; skip)) | (with_reducible refine wpList_indexW0G rfl (b := w.heap.size) (off := 0) (n := m) (cap := m) (i := v) rfl rfl Try.underlying100 uinfo1Int64 hvm (by kernel_rfl) ?_) | (with_reducible refine wpList_indexW0G rfl (b := w.heap.size + 1) (off := 0) (n := m) (cap := m) (i := v) rfl rfl Try.underlying100 uinfo1Int64 hvm (by kernel_rfl) ?_) | ((with_reducible refine at_store rfl ?_); (refine wpList_store1 rfl rfl (f := 0 + v * 1) rfl rfl (F.row m0) uinfo1Int64 (by rw [size_itab]; omega) rfl _ (set0 _ _ _ _) ?_; intro w6 K6; replace F := F.wr0 K6; clear K6)) | ((with_reducible refine at_load rfl ?_); first | (with_reducible refine wpList_load1G rfl (p := ⟨b8, o8 + j * 6, none⟩) rfl (v := .int .i64 _) (by kernel_rfl) (C0.out _ F.below) ukindInt64 ?_) | (with_reducible refine wpList_load1G rfl (p := ⟨b8, o8 + j * 6 + 1, none⟩) rfl (v := .int .i64 _) (by kernel_rfl) (C1.out _ F.below) ukindInt64 ?_) | (with_reducible refine wpList_load1G rfl (p := ⟨b8, o8 + j * 6 + 2, none⟩) rfl (v := .int .i64 _) (by kernel_rfl) (C2.out _ F.below) ukindInt64 ?_) | (with_reducible refine wpList_load1G rfl (p := ⟨b8, o8 + j * 6 + 3, none⟩) rfl (v := .int .i64 _) (by kernel_rfl) (C3.out _ F.below) ukindInt64 ?_) | (with_reducible refine wpList_load1G rfl (p := ⟨b8, o8 + j * 6 + 4, none⟩) rfl (v := .int .i64 _) (by kernel_rfl) (C4.out _ F.below) ukindInt64 ?_) | (with_reducible refine wpList_load1G rfl (p := ⟨b8, o8 + j * 6 + 5, none⟩) rfl (v := .float .f32 y) (by kernel_rfl) (C5.out _ F.below) ukindFloat32 ?_) | (with_reducible refine wpList_load1C rfl (g := w.heap.size) (f := 0 + v * 1) rfl (v := .int .i64 _) (by kernel_rfl) (F.row m1) GA.out ukindInt64 ?_) | (with_reducible refine wpList_load1C rfl (g := w.heap.size) (f := 0 + v * 1) rfl (v := .int .i64 _) (by kernel_rfl) (F.row m1) GA2.out ukindInt64 ?_) | (with_reducible refine wpList_load1C rfl (g := w.heap.size + 1) (f := 0 + v * 1) rfl (v := .int .i64 _) (by kernel_rfl) (F.row m0) GB.out ukindInt64 ?_) | (with_reducible refine wpList_load1C rfl (g := w.heap.size + 1) (f := 0 + v * 1) rfl (v := .int .i64 _) (by kernel_rfl) (F.row m0) GB2.out ukindInt64 ?_)))
            go_ret
            exact ⟨ret_b (show false = okE (m : Int) (nI : Int) x n by rw [OK1.out, allB_no hlt hb.out]; rfl), F.below⟩
          have nhI : (evI x j != 0) = false := by simpa using hI
          by_cases hY : evY x j = 0
          rotate_left
          · have hb := hid (show stE (m : Int) (nI : Int) x j = false by rw [SD2.out]; simp [hY])
            have nhY : (evY x j != 0) = true := by simpa using hY
            clear SD2 T1 T2 hz
            go_wp2_with (first | ((with_reducible refine listN F ?_); clear F; intro wN F) | (with_reducible refine wpList_indexW0G rfl (b := b8) (off := o8) (n := n) (cap := cap) (i := j) rfl rfl Try.underlying36 uinfoEventI hlt (by kernel_rfl) ?_) | (go_at_call 18; first | ((with_reducible refine (HA.out _).mono ?_); rintro e w1 ⟨rfl, rfl⟩; skip) | ((with_reducible refine (HN.out _).mono ?_); rintro e w1 ⟨rfl, rfl⟩; skip) | ((with_reducible refine (HI.out _).mono ?_); rintro e w1 ⟨rfl, rfl⟩; skip) | ((with_reducible refine (HY.out _).mono ?_); rintro e w1 ⟨rfl, rfl⟩; skip)) | (go_at_call 52; ((with_reducible refine (HFI.out _).mono ?_); rintro e w1 ⟨rfl, q9, rfl⟩; replace F := F.drewN q9)) | (go_at_call 53; ((with_reducible refine (HSM.out _).mono ?_); rintro e w1 ⟨rfl, rfl⟩; skip)) | (with_reducible refine wpList_indexW0G rfl (b := w.heap.size) (off := 0) (n := m) (cap := m) (i := v) rfl rfl Try.underlying100 uinfo1Int64 hvm (by kernel_rfl) ?_) | (with_reducible refine wpList_indexW0G rfl (b := w.heap.size + 1) (off := 0) (n := m) (cap := m) (i := v) rfl rfl Try.underlying100 uinfo1Int64 hvm (by kernel_rfl) ?_) | ((with_reducible refine at_store rfl ?_); (refine wpList_store1 rfl rfl (f := 0 + v * 1) rfl rfl (F.row m0) uinfo1Int64 (by rw [size_itab]; omega) rfl _ (set0 _ _ _ _) ?_; intro w6 K6; replace F := F.wr0 K6; clear K6)) | ((with_reducible refine at_load rfl ?_); first | (with_reducible refine wpList_load1G rfl (p := ⟨b8, o8 + j * 6, none⟩) rfl (v := .int .i64 _) (by kernel_rfl) (C0.out _ F.below) ukindInt64 ?_) | (with_reducible refine wpList_load1G rfl (p := ⟨b8, o8 + j * 6 + 1, none⟩) rfl (v := .int .i64 _) (by kernel_rfl) (C1.out _ F.below) ukindInt64 ?_) | (with_reducible refine wpList_load1G rfl (p := ⟨b8, o8 + j * 6 + 2, none⟩) rfl (v := .int .i64 _) (by kernel_rfl) (C2.out _ F.below) ukindInt64 ?_) | (with_reducible refine wpList_load1G rfl (p := ⟨b8, o8 + j * 6 + 3, none⟩) rfl (v := .int .i64 _) (by kernel_rfl) (C3.out _ F.below) ukindInt64 ?_) | (with_reducible refine wpList_load1G rfl (p := ⟨b8, o8 + j * 6 + 4, none⟩) rfl (v := .int .i64 _) (by kernel_rfl) (C4.out _ F.below) ukindInt64 ?_) | (with_reducible refine wpList_load1G rfl (p := ⟨b8, o8 + j * 6 + 5, none⟩) rfl (v := .float .f32 y) (by kernel_rfl) (C5.out _ F.below) ukindFloat32 ?_) | (with_reducible refine wpList_load1C rfl (g := w.heap.size) (f := 0 + v * 1) rfl (v := .int .i64 _) (by kernel_rfl) (F.row m1) GA.out ukindInt64 ?_) | (with_reducible refine wpList_load1C rfl (g := w.heap.size) (f := 0 + v * 1) rfl (v := .int .i64 _) (by kernel_rfl) (F.row m1) GA2.out ukindInt64 ?_) | (with_reducible refine wpList_load1C rfl (g := w.heap.size + 1) (f := 0 + v * 1) rfl (v := .int .i64 _) (by kernel_rfl) (F.row m0) GB.out ukindInt64 ?_) | (with_reducible refine wpList_load1C rfl (g := w.heap.size + 1) (f := 0 + v * 1) rfl (v := .int .i64 _) (by kernel_rfl) (F.row m0) GB2.out ukindInt64 ?_)))
            go_ret
            exact ⟨ret_b (show false = okE (m : Int) (nI : Int) x n by rw [OK1.out, allB_no hlt hb.out]; rfl), F.below⟩
          have nhY : (evY x j != 0) = false := by simpa using hY
          rcases bool_ft (sameB y 0) with hF | hF
          · have hb := hid (show stE (m : Int) (nI : Int) x j = false by rw [SD2.out]; simp [hF])
            rw [hF] at HSM
            clear hF SD2 T1 T2 hz
            go_wp2_with (first | ((with_reducible refine listN F ?_); clear F; intro wN F) | (with_reducible refine wpList_indexW0G rfl (b := b8) (off := o8) (n := n) (cap := cap) (i := j) rfl rfl Try.underlying36 uinfoEventI hlt (by kernel_rfl) ?_) | (go_at_call 18; first | ((with_reducible refine (HA.out _).mono ?_); rintro e w1 ⟨rfl, rfl⟩; skip) | ((with_reducible refine (HN.out _).mono ?_); rintro e w1 ⟨rfl, rfl⟩; skip) | ((with_reducible refine (HI.out _).mono ?_); rintro e w1 ⟨rfl, rfl⟩; skip) | ((with_reducible refine (HY.out _).mono ?_); rintro e w1 ⟨rfl, rfl⟩; skip)) | (go_at_call 52; ((with_reducible refine (HFI.out _).mono ?_); rintro e w1 ⟨rfl, q9, rfl⟩; replace F := F.drewN q9)) | (go_at_call 53; ((with_reducible refine (HSM.out _).mono ?_); rintro e w1 ⟨rfl, rfl⟩; skip)) | (with_reducible refine wpList_indexW0G rfl (b := w.heap.size) (off := 0) (n := m) (cap := m) (i := v) rfl rfl Try.underlying100 uinfo1Int64 hvm (by kernel_rfl) ?_) | (with_reducible refine wpList_indexW0G rfl (b := w.heap.size + 1) (off := 0) (n := m) (cap := m) (i := v) rfl rfl Try.underlying100 uinfo1Int64 hvm (by kernel_rfl) ?_) | ((with_reducible refine at_store rfl ?_); (refine wpList_store1 rfl rfl (f := 0 + v * 1) rfl rfl (F.row m0) uinfo1Int64 (by rw [size_itab]; omega) rfl _ (set0 _ _ _ _) ?_; intro w6 K6; replace F := F.wr0 K6; clear K6)) | ((with_reducible refine at_load rfl ?_); first | (with_reducible refine wpList_load1G rfl (p := ⟨b8, o8 + j * 6, none⟩) rfl (v := .int .i64 _) (by kernel_rfl) (C0.out _ F.below) ukindInt64 ?_) | (with_reducible refine wpList_load1G rfl (p := ⟨b8, o8 + j * 6 + 1, none⟩) rfl (v := .int .i64 _) (by kernel_rfl) (C1.out _ F.below) ukindInt64 ?_) | (with_reducible refine wpList_load1G rfl (p := ⟨b8, o8 + j * 6 + 2, none⟩) rfl (v := .int .i64 _) (by kernel_rfl) (C2.out _ F.below) ukindInt64 ?_) | (with_reducible refine wpList_load1G rfl (p := ⟨b8, o8 + j * 6 + 3, none⟩) rfl (v := .int .i64 _) (by kernel_rfl) (C3.out _ F.below) ukindInt64 ?_) | (with_reducible refine wpList_load1G rfl (p := ⟨b8, o8 + j * 6 + 4, none⟩) rfl (v := .int .i64 _) (by kernel_rfl) (C4.out _ F.below) ukindInt64 ?_) | (with_reducible refine wpList_load1G rfl (p := ⟨b8, o8 + j * 6 + 5, none⟩) rfl (v := .float .f32 y) (by kernel_rfl) (C5.out _ F.below) ukindFloat32 ?_) | (with_reducible refine wpList_load1C rfl (g := w.heap.size) (f := 0 + v * 1) rfl (v := .int .i64 _) (by kernel_rfl) (F.row m1) GA.out ukindInt64 ?_) | (with_reducible refine wpList_load1C rfl (g := w.heap.size) (f := 0 + v * 1) rfl (v := .int .i64 _) (by kernel_rfl) (F.row m1) GA2.out ukindInt64 ?_) | (with_reducible refine wpList_load1C rfl (g := w.heap.size + 1) (f := 0 + v * 1) rfl (v := .int .i64 _) (by kernel_rfl) (F.row m0) GB.out ukindInt64 ?_) | (with_reducible refine wpList_load1C rfl (g := w.heap.size + 1) (f := 0 + v * 1) rfl (v := .int .i64 _) (by kernel_rfl) (F.row m0) GB2.out ukindInt64 ?_)))
            go_ret
            exact ⟨ret_b (show false = okE (m : Int) (nI : Int) x n by rw [OK1.out, allB_no hlt hb.out]; rfl), F.below⟩
          rw [hF] at HSM
          have hb := hid (show stE (m : Int) (nI : Int) x j = false by rw [SD2.out]; simp [befK])
          clear hF SD2 T1 T2 hz
          go_wp2_with (first | ((with_reducible refine listN F ?_); clear F; intro wN F) | (with_reducible refine wpList_indexW0G rfl (b := b8) (off := o8) (n := n) (cap := cap) (i := j) rfl rfl Try.underlying36 uinfoEventI hlt (by kernel_rfl) ?_) | (go_at_call 18; first | ((with_reducible refine (HA.out _).mono ?_); rintro e w1 ⟨rfl, rfl⟩; skip) | ((with_reducible refine (HN.out _).mono ?_); rintro e w1 ⟨rfl, rfl⟩; skip) | ((with_reducible refine (HI.out _).mono ?_); rintro e w1 ⟨rfl, rfl⟩; skip) | ((with_reducible refine (HY.out _).mono ?_); rintro e w1 ⟨rfl, rfl⟩; skip)) | (go_at_call 52; ((with_reducible refine (HFI.out _).mono ?_); rintro e w1 ⟨rfl, q9, rfl⟩; replace F := F.drewN q9)) | (go_at_call 53; ((with_reducible refine (HSM.out _).mono ?_); rintro e w1 ⟨rfl, rfl⟩; skip)) | (with_reducible refine wpList_indexW0G rfl (b := w.heap.size) (off := 0) (n := m) (cap := m) (i := v) rfl rfl Try.underlying100 uinfo1Int64 hvm (by kernel_rfl) ?_) | (with_reducible refine wpList_indexW0G rfl (b := w.heap.size + 1) (off := 0) (n := m) (cap := m) (i := v) rfl rfl Try.underlying100 uinfo1Int64 hvm (by kernel_rfl) ?_) | ((with_reducible refine at_store rfl ?_); (refine wpList_store1 rfl rfl (f := 0 + v * 1) rfl rfl (F.row m0) uinfo1Int64 (by rw [size_itab]; omega) rfl _ (set0 _ _ _ _) ?_; intro w6 K6; replace F := F.wr0 K6; clear K6)) | ((with_reducible refine at_load rfl ?_); first | (with_reducible refine wpList_load1G rfl (p := ⟨b8, o8 + j * 6, none⟩) rfl (v := .int .i64 _) (by kernel_rfl) (C0.out _ F.below) ukindInt64 ?_) | (with_reducible refine wpList_load1G rfl (p := ⟨b8, o8 + j * 6 + 1, none⟩) rfl (v := .int .i64 _) (by kernel_rfl) (C1.out _ F.below) ukindInt64 ?_) | (with_reducible refine wpList_load1G rfl (p := ⟨b8, o8 + j * 6 + 2, none⟩) rfl (v := .int .i64 _) (by kernel_rfl) (C2.out _ F.below) ukindInt64 ?_) | (with_reducible refine wpList_load1G rfl (p := ⟨b8, o8 + j * 6 + 3, none⟩) rfl (v := .int .i64 _) (by kernel_rfl) (C3.out _ F.below) ukindInt64 ?_) | (with_reducible refine wpList_load1G rfl (p := ⟨b8, o8 + j * 6 + 4, none⟩) rfl (v := .int .i64 _) (by kernel_rfl) (C4.out _ F.below) ukindInt64 ?_) | (with_reducible refine wpList_load1G rfl (p := ⟨b8, o8 + j * 6 + 5, none⟩) rfl (v := .float .f32 y) (by kernel_rfl) (C5.out _ F.below) ukindFloat32 ?_) | (with_reducible refine wpList_load1C rfl (g := w.heap.size) (f := 0 + v * 1) rfl (v := .int .i64 _) (by kernel_rfl) (F.row m1) GA.out ukindInt64 ?_) | (with_reducible refine wpList_load1C rfl (g := w.heap.size) (f := 0 + v * 1) rfl (v := .int .i64 _) (by kernel_rfl) (F.row m1) GA2.out ukindInt64 ?_) | (with_reducible refine wpList_load1C rfl (g := w.heap.size + 1) (f := 0 + v * 1) rfl (v := .int .i64 _) (by kernel_rfl) (F.row m0) GB.out ukindInt64 ?_) | (with_reducible refine wpList_load1C rfl (g := w.heap.size + 1) (f := 0 + v * 1) rfl (v := .int .i64 _) (by kernel_rfl) (F.row m0) GB2.out ukindInt64 ?_)))
          go_ret
          exact ⟨ret_b (show false = okE (m : Int) (nI : Int) x n by rw [OK1.out, allB_no hlt hb.out]; rfl), F.below⟩
        · have GA := hid (get0 (g := fun q : Nat => st1 (laE x j (q : Int))) hvm (show st1 (laE x j (v : Int)) = 1 by rw [hz]; rfl)); have GB := hid (get0 (g := fun q : Nat => st2 (laE x j (q : Int))) hvm (show st2 (laE x j (v : Int)) = 0 by rw [hz]; rfl)); have GB2 := hid (get0 (g := fun q : Nat => if q = v then (1 : Int) else st2 (laE x j (q : Int))) hvm (if_pos rfl)); have GA2 := GA
          by_cases hI : evI x j = 0
          rotate_left
          · have hb := hid (show stE (m : Int) (nI : Int) x j = false by rw [SD2.out]; simp [hI])
            have nhI : (evI x j != 0) = true := by simpa using hI
            clear SD2 T1 T2 hz
            go_wp2_with (first | ((with_reducible refine listN F ?_); clear F; intro wN F) | (with_reducible refine wpList_indexW0G rfl (b := b8) (off := o8) (n := n) (cap := cap) (i := j) rfl rfl Try.underlying36 uinfoEventI hlt (by kernel_rfl) ?_) | (go_at_call 18; first | ((with_reducible refine (HA.out _).mono ?_); rintro e w1 ⟨rfl, rfl⟩; skip) | ((with_reducible refine (HN.out _).mono ?_); rintro e w1 ⟨rfl, rfl⟩; skip) | ((with_reducible refine (HI.out _).mono ?_); rintro e w1 ⟨rfl, rfl⟩; skip) | ((with_reducible refine (HY.out _).mono ?_); rintro e w1 ⟨rfl, rfl⟩; skip)) | (go_at_call 52; ((with_reducible refine (HFI.out _).mono ?_); rintro e w1 ⟨rfl, q9, rfl⟩; replace F := F.drewN q9)) | (go_at_call 53; ((with_reducible refine (HSM.out _).mono ?_); rintro e w1 ⟨rfl, rfl⟩; skip)) | (with_reducible refine wpList_indexW0G rfl (b := w.heap.size) (off := 0) (n := m) (cap := m) (i := v) rfl rfl Try.underlying100 uinfo1Int64 hvm (by kernel_rfl) ?_) | (with_reducible refine wpList_indexW0G rfl (b := w.heap.size + 1) (off := 0) (n := m) (cap := m) (i := v) rfl rfl Try.underlying100 uinfo1Int64 hvm (by kernel_rfl) ?_) | ((with_reducible refine at_store rfl ?_); (refine wpList_store1 rfl rfl (f := 0 + v * 1) rfl rfl (F.row m0) uinfo1Int64 (by rw [size_itab]; omega) rfl _ (set0 _ _ _ _) ?_; intro w6 K6; replace F := F.wr0 K6; clear K6)) | ((with_reducible refine at_load rfl ?_); first | (with_reducible refine wpList_load1G rfl (p := ⟨b8, o8 + j * 6, none⟩) rfl (v := .int .i64 _) (by kernel_rfl) (C0.out _ F.below) ukindInt64 ?_) | (with_reducible refine wpList_load1G rfl (p := ⟨b8, o8 + j * 6 + 1, none⟩) rfl (v := .int .i64 _) (by kernel_rfl) (C1.out _ F.below) ukindInt64 ?_) | (with_reducible refine wpList_load1G rfl (p := ⟨b8, o8 + j * 6 + 2, none⟩) rfl (v := .int .i64 _) (by kernel_rfl) (C2.out _ F.below) ukindInt64 ?_) | (with_reducible refine wpList_load1G rfl (p := ⟨b8, o8 + j * 6 + 3, none⟩) rfl (v := .int .i64 _) (by kernel_rfl) (C3.out _ F.below) ukindInt64 ?_) | (with_reducible refine wpList_load1G rfl (p := ⟨b8, o8 + j * 6 + 4, none⟩) rfl (v := .int .i64 _) (by kernel_rfl) (C4.out _ F.below) ukindInt64 ?_) | (with_reducible refine wpList_load1G rfl (p := ⟨b8, o8 + j * 6 + 5, none⟩) rfl (v := .float .f32 y) (by kernel_rfl) (C5.out _ F.below) ukindFloat32 ?_) | (with_reducible refine wpList_load1C rfl (g := w.heap.size) (f := 0 + v * 1) rfl (v := .int .i64 _) (by kernel_rfl) (F.row m1) GA.out ukindInt64 ?_) | (with_reducible refine wpList_load1C rfl (g := w.heap.size) (f := 0 + v * 1) rfl (v := .int .i64 _) (by kernel_rfl) (F.row m1) GA2.out ukindInt64 ?_) | (with_reducible refine wpList_load1C rfl (g := w.heap.size + 1) (f := 0 + v * 1) rfl (v := .int .i64 _) (by kernel_rfl) (F.row m0) GB.out ukindInt64 ?_) | (with_reducible refine wpList_load1C rfl (g := w.heap.size + 1) (f := 0 + v * 1) rfl (v := .int .i64 _) (by kernel_rfl) (F.row m0) GB2.out ukindInt64 ?_)))
            go_ret
            exact ⟨ret_b (show false = okE (m : Int) (nI : Int) x n by rw [OK1.out, allB_no hlt hb.out]; rfl), F.below⟩
          have nhI : (evI x j != 0) = false := by simpa using hI
          by_cases hY : evY x j = 0
          rotate_left
          · have hb := hid (show stE (m : Int) (nI : Int) x j = false by rw [SD2.out]; simp [hY])
            have nhY : (evY x j != 0) = true := by simpa using hY
            clear SD2 T1 T2 hz
            go_wp2_with (first | ((with_reducible refine listN F ?_); clear F; intro wN F) | (with_reducible refine wpList_indexW0G rfl (b := b8) (off := o8) (n := n) (cap := cap) (i := j) rfl rfl Try.underlying36 uinfoEventI hlt (by kernel_rfl) ?_) | (go_at_call 18; first | ((with_reducible refine (HA.out _).mono ?_); rintro e w1 ⟨rfl, rfl⟩; skip) | ((with_reducible refine (HN.out _).mono ?_); rintro e w1 ⟨rfl, rfl⟩; skip) | ((with_reducible refine (HI.out _).mono ?_); rintro e w1 ⟨rfl, rfl⟩; skip) | ((with_reducible refine (HY.out _).mono ?_); rintro e w1 ⟨rfl, rfl⟩; skip)) | (go_at_call 52; ((with_reducible refine (HFI.out _).mono ?_); rintro e w1 ⟨rfl, q9, rfl⟩; replace F := F.drewN q9)) | (go_at_call 53; ((with_reducible refine (HSM.out _).mono ?_); rintro e w1 ⟨rfl, rfl⟩; skip)) | (with_reducible refine wpList_indexW0G rfl (b := w.heap.size) (off := 0) (n := m) (cap := m) (i := v) rfl rfl Try.underlying100 uinfo1Int64 hvm (by kernel_rfl) ?_) | (with_reducible refine wpList_indexW0G rfl (b := w.heap.size + 1) (off := 0) (n := m) (cap := m) (i := v) rfl rfl Try.underlying100 uinfo1Int64 hvm (by kernel_rfl) ?_) | ((with_reducible refine at_store rfl ?_); (refine wpList_store1 rfl rfl (f := 0 + v * 1) rfl rfl (F.row m0) uinfo1Int64 (by rw [size_itab]; omega) rfl _ (set0 _ _ _ _) ?_; intro w6 K6; replace F := F.wr0 K6; clear K6)) | ((with_reducible refine at_load rfl ?_); first | (with_reducible refine wpList_load1G rfl (p := ⟨b8, o8 + j * 6, none⟩) rfl (v := .int .i64 _) (by kernel_rfl) (C0.out _ F.below) ukindInt64 ?_) | (with_reducible refine wpList_load1G rfl (p := ⟨b8, o8 + j * 6 + 1, none⟩) rfl (v := .int .i64 _) (by kernel_rfl) (C1.out _ F.below) ukindInt64 ?_) | (with_reducible refine wpList_load1G rfl (p := ⟨b8, o8 + j * 6 + 2, none⟩) rfl (v := .int .i64 _) (by kernel_rfl) (C2.out _ F.below) ukindInt64 ?_) | (with_reducible refine wpList_load1G rfl (p := ⟨b8, o8 + j * 6 + 3, none⟩) rfl (v := .int .i64 _) (by kernel_rfl) (C3.out _ F.below) ukindInt64 ?_) | (with_reducible refine wpList_load1G rfl (p := ⟨b8, o8 + j * 6 + 4, none⟩) rfl (v := .int .i64 _) (by kernel_rfl) (C4.out _ F.below) ukindInt64 ?_) | (with_reducible refine wpList_load1G rfl (p := ⟨b8, o8 + j * 6 + 5, none⟩) rfl (v := .float .f32 y) (by kernel_rfl) (C5.out _ F.below) ukindFloat32 ?_) | (with_reducible refine wpList_load1C rfl (g := w.heap.size) (f := 0 + v * 1) rfl (v := .int .i64 _) (by kernel_rfl) (F.row m1) GA.out ukindInt64 ?_) | (with_reducible refine wpList_load1C rfl (g := w.heap.size) (f := 0 + v * 1) rfl (v := .int .i64 _) (by kernel_rfl) (F.row m1) GA2.out ukindInt64 ?_) | (with_reducible refine wpList_load1C rfl (g := w.heap.size + 1) (f := 0 + v * 1) rfl (v := .int .i64 _) (by kernel_rfl) (F.row m0) GB.out ukindInt64 ?_) | (with_reducible refine wpList_load1C rfl (g := w.heap.size + 1) (f := 0 + v * 1) rfl (v := .int .i64 _) (by kernel_rfl) (F.row m0) GB2.out ukindInt64 ?_)))
            go_ret
            exact ⟨ret_b (show false = okE (m : Int) (nI : Int) x n by rw [OK1.out, allB_no hlt hb.out]; rfl), F.below⟩
          have nhY : (evY x j != 0) = false := by simpa using hY
          rcases bool_ft (sameB y 0) with hF | hF
          · have hb := hid (show stE (m : Int) (nI : Int) x j = false by rw [SD2.out]; simp [hF])
            rw [hF] at HSM
            clear hF SD2 T1 T2 hz
            go_wp2_with (first | ((with_reducible refine listN F ?_); clear F; intro wN F) | (with_reducible refine wpList_indexW0G rfl (b := b8) (off := o8) (n := n) (cap := cap) (i := j) rfl rfl Try.underlying36 uinfoEventI hlt (by kernel_rfl) ?_) | (go_at_call 18; first | ((with_reducible refine (HA.out _).mono ?_); rintro e w1 ⟨rfl, rfl⟩; skip) | ((with_reducible refine (HN.out _).mono ?_); rintro e w1 ⟨rfl, rfl⟩; skip) | ((with_reducible refine (HI.out _).mono ?_); rintro e w1 ⟨rfl, rfl⟩; skip) | ((with_reducible refine (HY.out _).mono ?_); rintro e w1 ⟨rfl, rfl⟩; skip)) | (go_at_call 52; ((with_reducible refine (HFI.out _).mono ?_); rintro e w1 ⟨rfl, q9, rfl⟩; replace F := F.drewN q9)) | (go_at_call 53; ((with_reducible refine (HSM.out _).mono ?_); rintro e w1 ⟨rfl, rfl⟩; skip)) | (with_reducible refine wpList_indexW0G rfl (b := w.heap.size) (off := 0) (n := m) (cap := m) (i := v) rfl rfl Try.underlying100 uinfo1Int64 hvm (by kernel_rfl) ?_) | (with_reducible refine wpList_indexW0G rfl (b := w.heap.size + 1) (off := 0) (n := m) (cap := m) (i := v) rfl rfl Try.underlying100 uinfo1Int64 hvm (by kernel_rfl) ?_) | ((with_reducible refine at_store rfl ?_); (refine wpList_store1 rfl rfl (f := 0 + v * 1) rfl rfl (F.row m0) uinfo1Int64 (by rw [size_itab]; omega) rfl _ (set0 _ _ _ _) ?_; intro w6 K6; replace F := F.wr0 K6; clear K6)) | ((with_reducible refine at_load rfl ?_); first | (with_reducible refine wpList_load1G rfl (p := ⟨b8, o8 + j * 6, none⟩) rfl (v := .int .i64 _) (by kernel_rfl) (C0.out _ F.below) ukindInt64 ?_) | (with_reducible refine wpList_load1G rfl (p := ⟨b8, o8 + j * 6 + 1, none⟩) rfl (v := .int .i64 _) (by kernel_rfl) (C1.out _ F.below) ukindInt64 ?_) | (with_reducible refine wpList_load1G rfl (p := ⟨b8, o8 + j * 6 + 2, none⟩) rfl (v := .int .i64 _) (by kernel_rfl) (C2.out _ F.below) ukindInt64 ?_) | (with_reducible refine wpList_load1G rfl (p := ⟨b8, o8 + j * 6 + 3, none⟩) rfl (v := .int .i64 _) (by kernel_rfl) (C3.out _ F.below) ukindInt64 ?_) | (with_reducible refine wpList_load1G rfl (p := ⟨b8, o8 + j * 6 + 4, none⟩) rfl (v := .int .i64 _) (by kernel_rfl) (C4.out _ F.below) ukindInt64 ?_) | (with_reducible refine wpList_load1G rfl (p := ⟨b8, o8 + j * 6 + 5, none⟩) rfl (v := .float .f32 y) (by kernel_rfl) (C5.out _ F.below) ukindFloat32 ?_) | (with_reducible refine wpList_load1C rfl (g := w.heap.size) (f := 0 + v * 1) rfl (v := .int .i64 _) (by kernel_rfl) (F.row m1) GA.out ukindInt64 ?_) | (with_reducible refine wpList_load1C rfl (g := w.heap.size) (f := 0 + v * 1) rfl (v := .int .i64 _) (by kernel_rfl) (F.row m1) GA2.out ukindInt64 ?_) | (with_reducible refine wpList_load1C rfl (g := w.heap.size + 1) (f := 0 + v * 1) rfl (v := .int .i64 _) (by kernel_rfl) (F.row m0) GB.out ukindInt64 ?_) | (with_reducible refine wpList_load1C rfl (g := w.heap.size + 1) (f := 0 + v * 1) rfl (v := .int .i64 _) (by kernel_rfl) (F.row m0) GB2.out ukindInt64 ?_)))
            go_ret
            exact ⟨ret_b (show false = okE (m : Int) (nI : Int) x n by rw [OK1.out, allB_no hlt hb.out]; rfl), F.below⟩
          rw [hF] at HSM
          have hb := hid (show stE (m : Int) (nI : Int) x j = true by rw [SD2.out, hI, hY, hF]; rfl)
          have T := hid (T2.out rfl rfl)
          clear hF SD2 T1 T2 hz
          go_wp2_with (first | ((with_reducible refine listN F ?_); clear F; intro wN F) | (with_reducible refine wpList_indexW0G rfl (b := b8) (off := o8) (n := n) (cap := cap) (i := j) rfl rfl Try.underlying36 uinfoEventI hlt (by kernel_rfl) ?_) | (go_at_call 18; first | ((with_reducible refine (HA.out _).mono ?_); rintro e w1 ⟨rfl, rfl⟩; skip) | ((with_reducible refine (HN.out _).mono ?_); rintro e w1 ⟨rfl, rfl⟩; skip) | ((with_reducible refine (HI.out _).mono ?_); rintro e w1 ⟨rfl, rfl⟩; skip) | ((with_reducible refine (HY.out _).mono ?_); rintro e w1 ⟨rfl, rfl⟩; skip)) | (go_at_call 52; ((with_reducible refine (HFI.out _).mono ?_); rintro e w1 ⟨rfl, q9, rfl⟩; replace F := F.drewN q9)) | (go_at_call 53; ((with_reducible refine (HSM.out _).mono ?_); rintro e w1 ⟨rfl, rfl⟩; skip)) | (with_reducible refine wpList_indexW0G rfl (b := w.heap.size) (off := 0) (n := m) (cap := m) (i := v) rfl rfl Try.underlying100 uinfo1Int64 hvm (by kernel_rfl) ?_) | (with_reducible refine wpList_indexW0G rfl (b := w.heap.size + 1) (off := 0) (n := m) (cap := m) (i := v) rfl rfl Try.underlying100 uinfo1Int64 hvm (by kernel_rfl) ?_) | ((with_reducible refine at_store rfl ?_); (refine wpList_store1 rfl rfl (f := 0 + v * 1) rfl rfl (F.row m0) uinfo1Int64 (by rw [size_itab]; omega) rfl _ (set0 _ _ _ _) ?_; intro w6 K6; replace F := F.wr0 K6; clear K6)) | ((with_reducible refine at_load rfl ?_); first | (with_reducible refine wpList_load1G rfl (p := ⟨b8, o8 + j * 6, none⟩) rfl (v := .int .i64 _) (by kernel_rfl) (C0.out _ F.below) ukindInt64 ?_) | (with_reducible refine wpList_load1G rfl (p := ⟨b8, o8 + j * 6 + 1, none⟩) rfl (v := .int .i64 _) (by kernel_rfl) (C1.out _ F.below) ukindInt64 ?_) | (with_reducible refine wpList_load1G rfl (p := ⟨b8, o8 + j * 6 + 2, none⟩) rfl (v := .int .i64 _) (by kernel_rfl) (C2.out _ F.below) ukindInt64 ?_) | (with_reducible refine wpList_load1G rfl (p := ⟨b8, o8 + j * 6 + 3, none⟩) rfl (v := .int .i64 _) (by kernel_rfl) (C3.out _ F.below) ukindInt64 ?_) | (with_reducible refine wpList_load1G rfl (p := ⟨b8, o8 + j * 6 + 4, none⟩) rfl (v := .int .i64 _) (by kernel_rfl) (C4.out _ F.below) ukindInt64 ?_) | (with_reducible refine wpList_load1G rfl (p := ⟨b8, o8 + j * 6 + 5, none⟩) rfl (v := .float .f32 y) (by kernel_rfl) (C5.out _ F.below) ukindFloat32 ?_) | (with_reducible refine wpList_load1C rfl (g := w.heap.size) (f := 0 + v * 1) rfl (v := .int .i64 _) (by kernel_rfl) (F.row m1) GA.out ukindInt64 ?_) | (with_reducible refine wpList_load1C rfl (g := w.heap.size) (f := 0 + v * 1) rfl (v := .int .i64 _) (by kernel_rfl) (F.row m1) GA2.out ukindInt64 ?_) | (with_reducible refine wpList_load1C rfl (g := w.heap.size + 1) (f := 0 + v * 1) rfl (v := .int .i64 _) (by kernel_rfl) (F.row m0) GB.out ukindInt64 ?_) | (with_reducible refine wpList_load1C rfl (g := w.heap.size + 1) (f := 0 + v * 1) rfl (v := .int .i64 _) (by kernel_rfl) (F.row m0) GB2.out ukindInt64 ?_)))
          go_roundw
          case rel =>
            rw [T.out.1, T.out.2] at F
            exact ⟨j + 1, by omega, by go_num, fun i hi => by rcases Nat.lt_or_ge i j with h | h; exact HJ.out i h; rw [show i = j by omega]; exact hb.out, F⟩
          case measure => simp [intOf]; omega
      have hb := hid (show stE (m : Int) (nI : Int) x j = false by rw [SD2.out]; simp [k1, k2])
      have k1b : (evK x j == 1) = false := by simpa using k1
      have k2b : (evK x j == 2) = false := by simpa using k2
      clear SD2 T1 T2 hz hzz
      go_wp2_with (first | ((with_reducible refine listN F ?_); clear F; intro wN F) | (with_reducible refine wpList_indexW0G rfl (b := b8) (off := o8) (n := n) (cap := cap) (i := j) rfl rfl Try.underlying36 uinfoEventI hlt (by kernel_rfl) ?_) | (go_at_call 18; first | ((with_reducible refine (HA.out _).mono ?_); rintro e w1 ⟨rfl, rfl⟩; skip) | ((with_reducible refine (HN.out _).mono ?_); rintro e w1 ⟨rfl, rfl⟩; skip) | ((with_reducible refine (HI.out _).mono ?_); rintro e w1 ⟨rfl, rfl⟩; skip) | ((with_reducible refine (HY.out _).mono ?_); rintro e w1 ⟨rfl, rfl⟩; skip)) | (go_at_call 52; ((with_reducible refine (HFI.out _).mono ?_); rintro e w1 ⟨rfl, q9, rfl⟩; replace F := F.drewN q9)) | (go_at_call 53; ((with_reducible refine (HSM.out _).mono ?_); rintro e w1 ⟨rfl, rfl⟩; skip)) | ((with_reducible refine at_load rfl ?_); first | (with_reducible refine wpList_load1G rfl (p := ⟨b8, o8 + j * 6, none⟩) rfl (v := .int .i64 _) (by kernel_rfl) (C0.out _ F.below) ukindInt64 ?_) | (with_reducible refine wpList_load1G rfl (p := ⟨b8, o8 + j * 6 + 1, none⟩) rfl (v := .int .i64 _) (by kernel_rfl) (C1.out _ F.below) ukindInt64 ?_) | (with_reducible refine wpList_load1G rfl (p := ⟨b8, o8 + j * 6 + 2, none⟩) rfl (v := .int .i64 _) (by kernel_rfl) (C2.out _ F.below) ukindInt64 ?_) | (with_reducible refine wpList_load1G rfl (p := ⟨b8, o8 + j * 6 + 3, none⟩) rfl (v := .int .i64 _) (by kernel_rfl) (C3.out _ F.below) ukindInt64 ?_) | (with_reducible refine wpList_load1G rfl (p := ⟨b8, o8 + j * 6 + 4, none⟩) rfl (v := .int .i64 _) (by kernel_rfl) (C4.out _ F.below) ukindInt64 ?_) | (with_reducible refine wpList_load1G rfl (p := ⟨b8, o8 + j * 6 + 5, none⟩) rfl (v := .float .f32 y) (by kernel_rfl) (C5.out _ F.below) ukindFloat32 ?_)))
      go_ret
      exact ⟨ret_b (show false = okE (m : Int) (nI : Int) x n by rw [OK1.out, allB_no hlt hb.out]; rfl), F.below⟩
    · obtain rfl : j = n := by omega
      have HST := hid HJ.out
      have hall : allB (stE (m : Int) (nI : Int) x) j = true := allB_yes HJ.out
      have OK2 := hid (show okE (m : Int) (nI : Int) x j = allB (fun i => ltL (keyJ x j i) (keyJ x j (i + 1))) (j - 1) by rw [OK1.out, hall, Bool.true_and])
      have LB := hid F.below
      have KN := hid (show ¬ (55 = 54) by decide)
      clear F HF hall OK1 HJ hq h2' hd3
      go_wp2
      go_loopw [10] (fun i wq => ∃ k : Nat, (k + 1 ≤ j ∨ k = 0) ∧ i = .int .i64 ((k + 1 : Nat) : Int) ∧ Hid (∀ q, q < k → ltL (keyJ x j q) (keyJ x j (q + 1)) = true) ∧ Hid (le w wq)) (fun i _ => j + 1 - (intOf i).toNat)
      case atStart => exact ⟨0, .inr rfl, rfl, fun q h => absurd h (by omega), LB.out⟩
      case round =>
        clear LB
        obtain ⟨k, hk, rfl, HK, HL⟩ := hrel
        by_cases hlt : k + 1 < j
        · have hltk : k < j := by omega
          have hf2 := hfm.out
          rcases hf2 with ⟨_, e0⟩ | ⟨b8, o8, cap8, e8, hc8, hm8⟩
          · omega
          simp only [Value.slice.injEq] at e8
          obtain ⟨rfl, _, rfl⟩ := e8
          obtain ⟨_, _, _, _, cu⟩ := HX.out.vals HS.out hltk
          obtain ⟨_, _, _, _, cv⟩ := HX.out.vals HS.out hlt
          have D00 := hid (fun (w' : World) (hl : le w w') => show w'.cell? ⟨b8, o8 + k * 6, none⟩ = some (.int .i64 (evA x k)) by have h := cu 0 _ rfl; rw [add_none] at h; exact (Below.cell hl (cell_lt' h)).trans h)
          have D01 := hid (fun (w' : World) (hl : le w w') => show w'.cell? ⟨b8, o8 + k * 6 + 1, none⟩ = some (.int .i64 (evK x k)) by have h := cu 1 _ rfl; rw [add_none] at h; exact (Below.cell hl (cell_lt' h)).trans h)
          have D02 := hid (fun (w' : World) (hl : le w w') => show w'.cell? ⟨b8, o8 + k * 6 + 2, none⟩ = some (.int .i64 (evN x k)) by have h := cu 2 _ rfl; rw [add_none] at h; exact (Below.cell hl (cell_lt' h)).trans h)
          have D10 := hid (fun (w' : World) (hl : le w w') => show w'.cell? ⟨b8, o8 + (k + 1) * 6, none⟩ = some (.int .i64 (evA x (k + 1))) by have h := cv 0 _ rfl; rw [add_none] at h; exact (Below.cell hl (cell_lt' h)).trans h)
          have D11 := hid (fun (w' : World) (hl : le w w') => show w'.cell? ⟨b8, o8 + (k + 1) * 6 + 1, none⟩ = some (.int .i64 (evK x (k + 1))) by have h := cv 1 _ rfl; rw [add_none] at h; exact (Below.cell hl (cell_lt' h)).trans h)
          have D12 := hid (fun (w' : World) (hl : le w w') => show w'.cell? ⟨b8, o8 + (k + 1) * 6 + 2, none⟩ = some (.int .i64 (evN x (k + 1))) by have h := cv 2 _ rfl; rw [add_none] at h; exact (Below.cell hl (cell_lt' h)).trans h)
          obtain ⟨p0, p1, p2, p3, hp⟩ := keyE_form (evA x k) (evK x k) (evN x k) (saE x j (evN x k))
          have HST0 := hid (fun (w' : World) (hl : le w w') => s_Start B x b8 o8 j cap (evN x k) (saE x j (evN x k)) w' (HS.out.le hl) HX.out (Nat.le_trans hc8 hm8) (fun i hi h1 h2 => by rw [← h2]; exact (sa_first HST.out hi h1).symm) (by obtain ⟨i, h1, h2, h3⟩ := ev_start HST.out hltk; exact ⟨i, by omega, h2, h3⟩))
          have HKY0 := hid (fun (w' : World) (hl : le w w') => s_Key (evA x k) (evK x k) (evN x k) (saE x j (evN x k)) b8 (o8 + k * 6) w' (stE_kind (HST.out _ hltk)) (D00.out w' hl) (D01.out w' hl) (D02.out w' hl))
          rw [hp, show (intsV [p0, p1, p2, p3]).toArray = #[.int .i64 p0, .int .i64 p1, .int .i64 p2, .int .i64 p3] from rfl] at HKY0
          obtain ⟨q0, q1, q2, q3, hq⟩ := keyE_form (evA x (k + 1)) (evK x (k + 1)) (evN x (k + 1)) (saE x j (evN x (k + 1)))
          have HST1 := hid (fun (w' : World) (hl : le w w') => s_Start B x b8 o8 j cap (evN x (k + 1)) (saE x j (evN x (k + 1))) w' (HS.out.le hl) HX.out (Nat.le_trans hc8 hm8) (fun i hi h1 h2 => by rw [← h2]; exact (sa_first HST.out hi h1).symm) (by obtain ⟨i, h1, h2, h3⟩ := ev_start HST.out hlt; exact ⟨i, by omega, h2, h3⟩))
          have HKY1 := hid (fun (w' : World) (hl : le w w') => s_Key (evA x (k + 1)) (evK x (k + 1)) (evN x (k + 1)) (saE x j (evN x (k + 1))) b8 (o8 + (k + 1) * 6) w' (stE_kind (HST.out _ hlt)) (D10.out w' hl) (D11.out w' hl) (D12.out w' hl))
          rw [hq, show (intsV [q0, q1, q2, q3]).toArray = #[.int .i64 q0, .int .i64 q1, .int .i64 q2, .int .i64 q3] from rfl] at HKY1
          have LT := hid (show ltL (keyJ x j k) (keyJ x j (k + 1)) = ltL [p0, p1, p2, p3] [q0, q1, q2, q3] by unfold keyJ; rw [hp, hq])
          clear cu cv hp hq HX HS hfm
          unfold maxLen at hm8
          go_wp2_with fail
          have G := hid (le_trans HL.out (le_drewN _ 1))
          refine region_tailD (E := leX) (fun f _ _ u => (f = 55 → u = .int .i64 (saE x j (evN x k))) ∧ (f = 54 → u = .agg #[.int .i64 p0, .int .i64 p1, .int .i64 p2, .int .i64 p3])) 14 (by kernel_rfl) (by kernel_rfl) ?_
          simp only [List.take_succ_cons, List.take_zero, List.drop_succ_cons, List.drop_zero]
          refine wpFreeD_one rfl (.slice (some ⟨b8, o8, none⟩) j cap) (fun w1 _ => by kernel_rfl) ?_
          simp only [Act.put, List.setIfInBounds_toArray, List.set_cons_succ, List.set_cons_zero]
          refine wpFreeD_one rfl (.int .i64 ((k + 1 : Nat) : Int)) (fun w1 _ => by kernel_rfl) ?_
          simp only [Act.put, List.setIfInBounds_toArray, List.set_cons_succ, List.set_cons_zero]
          refine wpFreeD_quiet rfl ?_; go_big_quiet_step (fail); refine wpQuiet_nil ?_
          refine wpFreeD_indexW0 rfl rfl rfl (i := k) rfl Try.underlying36 uinfoEventI hltk ?_
          simp only [Act.put, List.setIfInBounds_toArray, List.set_cons_succ, List.set_cons_zero]
          refine wpFreeD_one rfl (.slice (some ⟨b8, o8, none⟩) j cap) (fun w1 _ => by kernel_rfl) ?_
          simp only [Act.put, List.setIfInBounds_toArray, List.set_cons_succ, List.set_cons_zero]
          refine wpFreeD_one rfl (.slice (some ⟨b8, o8, none⟩) j cap) (fun w1 _ => by kernel_rfl) ?_
          simp only [Act.put, List.setIfInBounds_toArray, List.set_cons_succ, List.set_cons_zero]
          refine wpFreeD_one rfl (.int .i64 ((k + 1 : Nat) : Int)) (fun w1 _ => by kernel_rfl) ?_
          simp only [Act.put, List.setIfInBounds_toArray, List.set_cons_succ, List.set_cons_zero]
          refine wpFreeD_quiet rfl ?_; go_big_quiet_step (fail); refine wpQuiet_nil ?_
          refine wpFreeD_indexW0 rfl rfl rfl (i := k) rfl Try.underlying36 uinfoEventI hltk ?_
          simp only [Act.put, List.setIfInBounds_toArray, List.set_cons_succ, List.set_cons_zero]
          refine wpFreeD_one rfl (.pointer (some ⟨b8, o8 + k * 6 + 2, none⟩)) (fun w1 _ => by kernel_rfl) ?_
          simp only [Act.put, List.setIfInBounds_toArray, List.set_cons_succ, List.set_cons_zero]
          refine wpFreeD_load1 rfl rfl rfl (p := ⟨b8, o8 + k * 6 + 2, none⟩) (v := .int .i64 (evN x k)) (fun w1 h1 => D02.out w1 (le_trans G.out h1)) ukindInt64 ?_
          simp only [Act.put, List.setIfInBounds_toArray, List.set_cons_succ, List.set_cons_zero]
          refine wpFreeD_callB rfl rfl Try.func55 (by kernel_rfl) (by kernel_rfl) (args := #[.slice (some ⟨b8, o8, none⟩) j cap, .int .i64 (evN x k)]) (by simp [Act.eval]) (fun v w1 w2 hw hv => hv) (fun w1 hw1 _ => (HST0.out w1 (le_trans G.out hw1)).mono ?_) ?_
          · rintro e w2 ⟨rfl, hl⟩
            exact ⟨_, rfl, hl, fun _ => rfl, fun h => absurd h KN.out⟩
          rintro u ⟨_, _, _, hu, _⟩
          obtain rfl := hu rfl
          simp only [Act.put, List.setIfInBounds_toArray, List.set_cons_succ, List.set_cons_zero]
          refine wpFreeD_callB rfl rfl Try.func54 (by kernel_rfl) (by kernel_rfl) (args := #[.pointer (some ⟨b8, o8 + k * 6, none⟩), .int .i64 (saE x j (evN x k))]) (by simp [Act.eval]) (fun v w1 w2 hw hv => hv) (fun w1 hw1 _ => (HKY0.out w1 (le_trans G.out hw1)).mono ?_) ?_
          · rintro e w2 ⟨rfl, hl⟩
            exact ⟨_, rfl, hl, fun h => absurd h.symm KN.out, fun _ => rfl⟩
          rintro u ⟨_, _, _, _, hu⟩
          obtain rfl := hu rfl
          simp only [Act.put, List.setIfInBounds_toArray, List.set_cons_succ, List.set_cons_zero]
          refine wpFreeD_allocD rfl rfl #[.int .i64 0, .int .i64 0, .int .i64 0, .int .i64 0] (fun w => by go_simp) (fun b0 => ?_)
          simp only [Act.put, List.setIfInBounds_toArray, List.set_cons_succ, List.set_cons_zero]
          refine wpFreeD_nil (fun w3 hw3 hF => ?_)
          obtain ⟨lb0, rb⟩ := (hF 13).2 rfl
          clear hF
          have L3 := hid (le_trans G.out hw3)
          have g0 : w.heap.size ≤ b0 := Nat.le_trans G.out.size lb0
          clear G hw3
          show wpList _ _ _ _ _ _
          refine wpList_storeD rfl rfl rfl (cells := #[.int .i64 p0, .int .i64 p1, .int .i64 p2, .int .i64 p3]) rfl rb infoA4 rfl (by simp [Value.oneCell']) (fun w4 K => ?_)
          have R0 := hid K.row
          have L4 := hid (K.below _ _ L3.out g0)
          clear K rb L3 lb0
          go_wp2_with fail
          have G := hid (le_trans L4.out (le_drewN w4 1))
          refine region_tailD (E := leX) (fun f _ _ u => (f = 55 → u = .int .i64 (saE x j (evN x (k + 1)))) ∧ (f = 54 → u = .agg #[.int .i64 q0, .int .i64 q1, .int .i64 q2, .int .i64 q3])) 12 (by kernel_rfl) (by kernel_rfl) ?_
          simp only [List.take_succ_cons, List.take_zero, List.drop_succ_cons, List.drop_zero]
          refine wpFreeD_one rfl (.slice (some ⟨b8, o8, none⟩) j cap) (fun w1 _ => by kernel_rfl) ?_
          simp only [Act.put, List.setIfInBounds_toArray, List.set_cons_succ, List.set_cons_zero]
          refine wpFreeD_one rfl (.int .i64 ((k + 1 : Nat) : Int)) (fun w1 _ => by kernel_rfl) ?_
          simp only [Act.put, List.setIfInBounds_toArray, List.set_cons_succ, List.set_cons_zero]
          refine wpFreeD_indexW0 rfl rfl rfl (i := k + 1) rfl Try.underlying36 uinfoEventI hlt ?_
          simp only [Act.put, List.setIfInBounds_toArray, List.set_cons_succ, List.set_cons_zero]
          refine wpFreeD_one rfl (.slice (some ⟨b8, o8, none⟩) j cap) (fun w1 _ => by kernel_rfl) ?_
          simp only [Act.put, List.setIfInBounds_toArray, List.set_cons_succ, List.set_cons_zero]
          refine wpFreeD_one rfl (.slice (some ⟨b8, o8, none⟩) j cap) (fun w1 _ => by kernel_rfl) ?_
          simp only [Act.put, List.setIfInBounds_toArray, List.set_cons_succ, List.set_cons_zero]
          refine wpFreeD_one rfl (.int .i64 ((k + 1 : Nat) : Int)) (fun w1 _ => by kernel_rfl) ?_
          simp only [Act.put, List.setIfInBounds_toArray, List.set_cons_succ, List.set_cons_zero]
          refine wpFreeD_indexW0 rfl rfl rfl (i := k + 1) rfl Try.underlying36 uinfoEventI hlt ?_
          simp only [Act.put, List.setIfInBounds_toArray, List.set_cons_succ, List.set_cons_zero]
          refine wpFreeD_one rfl (.pointer (some ⟨b8, o8 + (k + 1) * 6 + 2, none⟩)) (fun w1 _ => by kernel_rfl) ?_
          simp only [Act.put, List.setIfInBounds_toArray, List.set_cons_succ, List.set_cons_zero]
          refine wpFreeD_load1 rfl rfl rfl (p := ⟨b8, o8 + (k + 1) * 6 + 2, none⟩) (v := .int .i64 (evN x (k + 1))) (fun w1 h1 => D12.out w1 (le_trans G.out h1)) ukindInt64 ?_
          simp only [Act.put, List.setIfInBounds_toArray, List.set_cons_succ, List.set_cons_zero]
          refine wpFreeD_callB rfl rfl Try.func55 (by kernel_rfl) (by kernel_rfl) (args := #[.slice (some ⟨b8, o8, none⟩) j cap, .int .i64 (evN x (k + 1))]) (by simp [Act.eval]) (fun v w1 w2 hw hv => hv) (fun w1 hw1 _ => (HST1.out w1 (le_trans G.out hw1)).mono ?_) ?_
          · rintro e w2 ⟨rfl, hl⟩
            exact ⟨_, rfl, hl, fun _ => rfl, fun h => absurd h KN.out⟩
          rintro u ⟨_, _, _, hu, _⟩
          obtain rfl := hu rfl
          simp only [Act.put, List.setIfInBounds_toArray, List.set_cons_succ, List.set_cons_zero]
          refine wpFreeD_callB rfl rfl Try.func54 (by kernel_rfl) (by kernel_rfl) (args := #[.pointer (some ⟨b8, o8 + (k + 1) * 6, none⟩), .int .i64 (saE x j (evN x (k + 1)))]) (by simp [Act.eval]) (fun v w1 w2 hw hv => hv) (fun w1 hw1 _ => (HKY1.out w1 (le_trans G.out hw1)).mono ?_) ?_
          · rintro e w2 ⟨rfl, hl⟩
            exact ⟨_, rfl, hl, fun h => absurd h.symm KN.out, fun _ => rfl⟩
          rintro u ⟨_, _, _, _, hu⟩
          obtain rfl := hu rfl
          simp only [Act.put, List.setIfInBounds_toArray, List.set_cons_succ, List.set_cons_zero]
          refine wpFreeD_allocD rfl rfl #[.int .i64 0, .int .i64 0, .int .i64 0, .int .i64 0] (fun w => by go_simp) (fun b1 => ?_)
          simp only [Act.put, List.setIfInBounds_toArray, List.set_cons_succ, List.set_cons_zero]
          refine wpFreeD_nil (fun w3 hw3 hF => ?_)
          obtain ⟨lb1, rb⟩ := (hF 11).2 rfl
          clear hF
          have L5 := hid (le_trans G.out hw3)
          have g1 : w.heap.size ≤ b1 := Nat.le_trans G.out.size lb1
          have R0b := R0.out.le (le_trans (le_drewN w4 1) hw3)
          have hne : b0 ≠ b1 := by
            have h := R0.out.lt
            have h2 : w4.heap.size ≤ b1 := lb1
            omega
          clear G hw3
          show wpList _ _ _ _ _ _
          refine wpList_storeD rfl rfl rfl (cells := #[.int .i64 q0, .int .i64 q1, .int .i64 q2, .int .i64 q3]) rfl rb infoA4 rfl (by simp [Value.oneCell']) (fun w6 K => ?_)
          have R1 := hid K.row
          replace R0 := hid (K.other _ _ _ hne R0b)
          have L6 := hid (K.below _ _ L5.out g1)
          clear K rb L5 lb1 R0b hne L4
          have HLS := hid (fun (w' : World) => s_Less p0 p1 p2 p3 q0 q1 q2 q3 w')
          have F := Frg.nil w6
          rcases bool_ft (ltL [p0, p1, p2, p3] [q0, q1, q2, q3]) with h | h
          · have hb := hid (LT.out.trans h)
            rw [h] at HLS
            clear h LT
            go_wp2_with (first | ((with_reducible refine listN F ?_); clear F; intro wN F) | ((with_reducible refine at_load rfl ?_); first | (with_reducible refine wpList_loadWC rfl (p := ⟨b0, 0, none⟩) rfl [.int .i64 p0, .int .i64 p1, .int .i64 p2, .int .i64 p3] (by kernel_rfl) (Row.at_part (f := 0) (R0.out.le F.below) (fun j hj => by rw [Nat.zero_add]; simp)) Try.underlying103 rfl infoA4 rfl ?_) | (with_reducible refine wpList_loadWC rfl (p := ⟨b1, 0, none⟩) rfl [.int .i64 q0, .int .i64 q1, .int .i64 q2, .int .i64 q3] (by kernel_rfl) (Row.at_part (f := 0) (R1.out.le F.below) (fun j hj => by rw [Nat.zero_add]; simp)) Try.underlying103 rfl infoA4 rfl ?_)) | (go_at_call 56; ((with_reducible refine (HLS.out _).mono ?_); rintro e w7 ⟨rfl, hl⟩; replace F := F.le hl; clear hl)))
            go_ret
            exact ⟨ret_b (show false = okE (m : Int) (nI : Int) x j by rw [OK2.out]; exact (allB_no (i := k) (by omega) hb.out).symm), le_trans L6.out F.below⟩
          · have hb := hid (LT.out.trans h)
            rw [h] at HLS
            clear h LT
            go_wp2_with (first | ((with_reducible refine listN F ?_); clear F; intro wN F) | ((with_reducible refine at_load rfl ?_); first | (with_reducible refine wpList_loadWC rfl (p := ⟨b0, 0, none⟩) rfl [.int .i64 p0, .int .i64 p1, .int .i64 p2, .int .i64 p3] (by kernel_rfl) (Row.at_part (f := 0) (R0.out.le F.below) (fun j hj => by rw [Nat.zero_add]; simp)) Try.underlying103 rfl infoA4 rfl ?_) | (with_reducible refine wpList_loadWC rfl (p := ⟨b1, 0, none⟩) rfl [.int .i64 q0, .int .i64 q1, .int .i64 q2, .int .i64 q3] (by kernel_rfl) (Row.at_part (f := 0) (R1.out.le F.below) (fun j hj => by rw [Nat.zero_add]; simp)) Try.underlying103 rfl infoA4 rfl ?_)) | (go_at_call 56; ((with_reducible refine (HLS.out _).mono ?_); rintro e w7 ⟨rfl, hl⟩; replace F := F.le hl; clear hl)))
            go_roundw
            case rel => exact ⟨k + 1, .inl (by omega), by go_num, fun q hq => by rcases Nat.lt_or_ge q k with h | h; exact HK.out q h; rw [show q = k by omega]; exact hb.out, le_trans L6.out F.below⟩
            case measure => simp [intOf]; omega
        · have hkj : k = j - 1 ∨ j = 0 := by omega
          have hall := hid (show allB (fun i => ltL (keyJ x j i) (keyJ x j (i + 1))) (j - 1) = true from allB_yes (fun i hi => HK.out i (by omega)))
          go_wp2
          go_ret
          exact ⟨ret_b (show true = okE (m : Int) (nI : Int) x j by rw [OK2.out]; exact hall.out.symm), HL.out⟩
end Go.Proofs.Ytkcpdddmabkkgaa

/- 'ValidScore' of the model, and of both. -/
namespace Go.Proofs.Ytkcpdddmabkkgaa
open Go.RowKit Go.Fk
set_option maxRecDepth 100000 in
set_option maxHeartbeats 20000000 in
theorem s_l08Ok (g : Nat) (B : Nat) (sD : Value) (pI : Option Addr) (capI : Nat) (pE : Option Addr) (capE : Nat) (r b o : Nat) (xD : Nat → Nat) (nD : Nat) (xI : Nat → CD) (nI : Nat) (xE : Nat → CD) (nE : Nat) (w : World) (R : Row w g 38 #[.float .f32 r, .float .f32 b, .float .f32 o, sD, .slice pI nI capI, .slice pE nE capE]) (hD : (slT xD nD).RdN w B sD) (hI : (CD.sl 5 nI xI).RdN w B (.slice pI nI capI)) (hE : (CD.sl 6 nE xE).RdN w B (.slice pE nE capE)) (kI : InsOk xI nI) (kE : EvsOk xE nE) : Calls Try.prog 17 #[.pointer (some ⟨g, 0, none⟩)] w (Out_b (okSc r b o xD nD xI nI xE nE) w) := by
  have RS := hid (fun (w1 : World) (hl : le w w1) => R.le hl)
  have H1 := hid (fun (w1 : World) (hl : le w w1) => s_ValidTuning b o xD nD B sD w1 (hD.le hl))
  have H3 := hid (fun (w1 : World) (hl : le w w1) => s_l08Events B xE pE nE capE nI w1 (hE.le hl) kE ⟨(len_of hE).1, (len_of hI).1⟩)
  have HS := hid hI; have HX := hid kI
  have hfm := hid hI.form
  have hn : nI ≤ maxLen := (len_of hI).1
  unfold maxLen at hn
  have OK0 := hid (show okSc r b o xD nD xI nI xE nE = (withinB r 1065353216 1232348160 && okT b o xD nD && aiB xI nI && okE ((nE / 2 : Nat) : Int) (nI : Int) xE nE) from rfl)
  clear R hD hI hE kI kE
  have F := Frg.nil w
  cases e0 : (FloatKind.f32.format.order r 1065353216 == some .gt || FloatKind.f32.format.order r 1065353216 == some .eq)
  · have E := hid (show okSc r b o xD nD xI nI xE nE = false by rw [OK0.out]; unfold withinB; simp only [e0, Bool.false_and])
    clear OK0
    go_enter Try.func17, Try.ntmps17
    go_wp2_with (first | ((with_reducible refine listN F ?_); clear F; intro wN F) | ((with_reducible refine at_load rfl ?_); first | (with_reducible refine wpList_load1C rfl (g := g) (f := 0) rfl (v := .float .f32 r) (by kernel_rfl) (RS.out _ F.below) rfl ukindFloat32 ?_) | (with_reducible refine wpList_load1C rfl (g := g) (f := 4) rfl (v := .slice pI nI capI) (by kernel_rfl) (RS.out _ F.below) rfl ukindInstrumentSI ?_) | (with_reducible refine wpList_loadWC rfl (p := ⟨g, 1, none⟩) rfl [.float .f32 b, .float .f32 o, sD] (by kernel_rfl) (Row.at_part (RS.out _ F.below) (tunAtP r b o sD (.slice pI nI capI) (.slice pE nE capE))) Try.underlying34 rfl uinfoTuningI rfl ?_)) | (go_at_call 32; ((with_reducible refine (H1.out _ F.below).mono ?_); rintro e w1 ⟨rfl, hl⟩; replace F := F.le hl; clear hl)))
    go_ret
    exact ⟨ret_b E.out.symm, F.below⟩
  cases e1 : (FloatKind.f32.format.order r 1232348160 == some .lt || FloatKind.f32.format.order r 1232348160 == some .eq)
  · have E := hid (show okSc r b o xD nD xI nI xE nE = false by rw [OK0.out]; unfold withinB; simp only [e1, Bool.false_and, Bool.and_false])
    clear OK0
    go_enter Try.func17, Try.ntmps17
    go_wp2_with (first | ((with_reducible refine listN F ?_); clear F; intro wN F) | ((with_reducible refine at_load rfl ?_); first | (with_reducible refine wpList_load1C rfl (g := g) (f := 0) rfl (v := .float .f32 r) (by kernel_rfl) (RS.out _ F.below) rfl ukindFloat32 ?_) | (with_reducible refine wpList_load1C rfl (g := g) (f := 4) rfl (v := .slice pI nI capI) (by kernel_rfl) (RS.out _ F.below) rfl ukindInstrumentSI ?_) | (with_reducible refine wpList_loadWC rfl (p := ⟨g, 1, none⟩) rfl [.float .f32 b, .float .f32 o, sD] (by kernel_rfl) (Row.at_part (RS.out _ F.below) (tunAtP r b o sD (.slice pI nI capI) (.slice pE nE capE))) Try.underlying34 rfl uinfoTuningI rfl ?_)) | (go_at_call 32; ((with_reducible refine (H1.out _ F.below).mono ?_); rintro e w1 ⟨rfl, hl⟩; replace F := F.le hl; clear hl)))
    go_ret
    exact ⟨ret_b E.out.symm, F.below⟩
  have OK1 := hid (show okSc r b o xD nD xI nI xE nE = (okT b o xD nD && aiB xI nI && okE ((nE / 2 : Nat) : Int) (nI : Int) xE nE) by rw [OK0.out]; unfold withinB; simp only [e0, e1, Bool.true_and])
  clear OK0
  rcases bool_ft (okT b o xD nD) with h | h
  · have E := hid (show okSc r b o xD nD xI nI xE nE = false by rw [OK1.out, h]; simp only [Bool.false_and])
    rw [h] at H1
    clear h OK1
    go_enter Try.func17, Try.ntmps17
    go_wp2_with (first | ((with_reducible refine listN F ?_); clear F; intro wN F) | ((with_reducible refine at_load rfl ?_); first | (with_reducible refine wpList_load1C rfl (g := g) (f := 0) rfl (v := .float .f32 r) (by kernel_rfl) (RS.out _ F.below) rfl ukindFloat32 ?_) | (with_reducible refine wpList_load1C rfl (g := g) (f := 4) rfl (v := .slice pI nI capI) (by kernel_rfl) (RS.out _ F.below) rfl ukindInstrumentSI ?_) | (with_reducible refine wpList_loadWC rfl (p := ⟨g, 1, none⟩) rfl [.float .f32 b, .float .f32 o, sD] (by kernel_rfl) (Row.at_part (RS.out _ F.below) (tunAtP r b o sD (.slice pI nI capI) (.slice pE nE capE))) Try.underlying34 rfl uinfoTuningI rfl ?_)) | (go_at_call 32; ((with_reducible refine (H1.out _ F.below).mono ?_); rintro e w1 ⟨rfl, hl⟩; replace F := F.le hl; clear hl)))
    go_ret
    exact ⟨ret_b E.out.symm, F.below⟩
  rw [h] at H1
  have OK2 := hid (show okSc r b o xD nD xI nI xE nE = (aiB xI nI && okE ((nE / 2 : Nat) : Int) (nI : Int) xE nE) by rw [OK1.out, h]; simp only [Bool.true_and])
  have A0 := hid (show aiB xI nI = (decide (nI ≤ 6) && allB (fun i => okIn xI i && newN xI i) nI) from rfl)
  clear h OK1
  by_cases h6 : nI ≤ 6
  rotate_left
  · have E := hid (show okSc r b o xD nD xI nI xE nE = false by rw [OK2.out, A0.out, decide_eq_false h6]; simp only [Bool.false_and])
    have h6' : (6 : Int) < (nI : Int) := by omega
    clear OK2 A0
    go_enter Try.func17, Try.ntmps17
    go_wp2_with (first | ((with_reducible refine listN F ?_); clear F; intro wN F) | ((with_reducible refine at_load rfl ?_); first | (with_reducible refine wpList_load1C rfl (g := g) (f := 0) rfl (v := .float .f32 r) (by kernel_rfl) (RS.out _ F.below) rfl ukindFloat32 ?_) | (with_reducible refine wpList_load1C rfl (g := g) (f := 4) rfl (v := .slice pI nI capI) (by kernel_rfl) (RS.out _ F.below) rfl ukindInstrumentSI ?_) | (with_reducible refine wpList_loadWC rfl (p := ⟨g, 1, none⟩) rfl [.float .f32 b, .float .f32 o, sD] (by kernel_rfl) (Row.at_part (RS.out _ F.below) (tunAtP r b o sD (.slice pI nI capI) (.slice pE nE capE))) Try.underlying34 rfl uinfoTuningI rfl ?_)) | (go_at_call 32; ((with_reducible refine (H1.out _ F.below).mono ?_); rintro e w1 ⟨rfl, hl⟩; replace F := F.le hl; clear hl)))
    go_ret
    exact ⟨ret_b E.out.symm, F.below⟩
  have OK3 := hid (show okSc r b o xD nD xI nI xE nE = (allB (fun i => okIn xI i && newN xI i) nI && okE ((nE / 2 : Nat) : Int) (nI : Int) xE nE) by rw [OK2.out, A0.out, decide_eq_true h6, Bool.true_and])
  have h6' : ¬ (6 : Int) < (nI : Int) := by omega
  clear OK2 A0
  go_enter Try.func17, Try.ntmps17
  go_wp2_with (first | ((with_reducible refine listN F ?_); clear F; intro wN F) | ((with_reducible refine at_load rfl ?_); first | (with_reducible refine wpList_load1C rfl (g := g) (f := 0) rfl (v := .float .f32 r) (by kernel_rfl) (RS.out _ F.below) rfl ukindFloat32 ?_) | (with_reducible refine wpList_load1C rfl (g := g) (f := 4) rfl (v := .slice pI nI capI) (by kernel_rfl) (RS.out _ F.below) rfl ukindInstrumentSI ?_) | (with_reducible refine wpList_loadWC rfl (p := ⟨g, 1, none⟩) rfl [.float .f32 b, .float .f32 o, sD] (by kernel_rfl) (Row.at_part (RS.out _ F.below) (tunAtP r b o sD (.slice pI nI capI) (.slice pE nE capE))) Try.underlying34 rfl uinfoTuningI rfl ?_)) | (go_at_call 32; ((with_reducible refine (H1.out _ F.below).mono ?_); rintro e w1 ⟨rfl, hl⟩; replace F := F.le hl; clear hl)))
  have L0 := hid F.below
  clear F H1 e0 e1
  go_loopw [3] (fun i wr => ∃ j : Nat, j ≤ nI ∧ i = .int .i64 j ∧ Hid (∀ i, i < j → (okIn xI i && newN xI i) = true) ∧ Hid (le w wr)) (fun i _ => nI - (intOf i).toNat)
  case atStart => exact ⟨0, by omega, rfl, fun i hi => absurd hi (by omega), L0.out⟩
  case round =>
    clear L0
    obtain ⟨j, hj, rfl, HJ, HL⟩ := hrel
    rename_i wr _
    by_cases hlt : j < nI
    · have hf2 := hfm.out
      rcases hf2 with ⟨_, e0⟩ | ⟨b8, o8, cap8, e8, hc8, hm8⟩
      · omega
      simp only [Value.slice.injEq] at e8
      obtain ⟨rfl, _, rfl⟩ := e8
      obtain ⟨a1, b1, c1, hfit, ⟨ga, gb, gc⟩, ht, cu⟩ := HX.out.vals HS.out hlt
      have HV := hid (fun (w' : World) (hl : le w w') => s_l08InstrumentC (inT xI j) (inK xI j) a1 b1 c1 b8 (o8 + j * 5) w' (fun q v hv => (Below.cell hl (cell_lt' (cu q v hv))).trans (cu q v hv)) ht hfit)
      rw [show okI (inT xI j) (inK xI j) a1 b1 c1 = okIn xI j from okI_can ga gb gc] at HV
      have CJ := hid (fun (w' : World) (hl : le w w') => show w'.cell? ⟨b8, o8 + j * 5, none⟩ = some (.string (inT xI j)) by have h := cu 0 _ rfl; rw [add_none] at h; exact (Below.cell hl (cell_lt' h)).trans h)
      have CK := hid (fun (k : Nat) (hk : k < nI) (w' : World) (hl : le w w') => show w'.cell? ⟨b8, o8 + k * 5, none⟩ = some (.string (inT xI k)) by
        obtain ⟨_, _, _, _, _, _, h⟩ := HX.out.vals HS.out hk
        have h := h 0 _ rfl; rw [add_none] at h; exact (Below.cell hl (cell_lt' h)).trans h)
      clear cu ht hfit ga gb gc HS HX
      have F : Frg w wr [] := ⟨HL.out, fun e he => absurd he (by simp), List.Pairwise.nil⟩
      rcases bool_ft (okIn xI j) with hp | hp
      · have hb := hid (show (okIn xI j && newN xI j) = false by rw [hp]; rfl)
        rw [hp] at HV
        clear hp
        go_wp2_with (first | ((with_reducible refine listN F ?_); clear F; intro wN F) | ((with_reducible refine at_load rfl ?_); first | (with_reducible refine wpList_load1C rfl (g := g) (f := 4) rfl (v := .slice _ nI capI) (by kernel_rfl) (RS.out _ F.below) rfl ukindInstrumentSI ?_)) | (with_reducible refine wpList_indexW0 rfl rfl rfl rfl Try.underlying35 uinfoInstrumentI hlt ?_) | (go_at_call 33; ((with_reducible refine (HV.out _ F.below).mono ?_); rintro e w1 ⟨rfl, hl⟩; replace F := F.le hl; clear hl)))
        go_ret
        exact ⟨ret_b (show false = okSc r b o xD nD xI nI xE nE by rw [OK3.out, allB_no hlt hb.out]; rfl), F.below⟩
      rw [hp] at HV
      have hp' := hid hp
      clear hp
      go_wp2_with (first | ((with_reducible refine listN F ?_); clear F; intro wN F) | ((with_reducible refine at_load rfl ?_); first | (with_reducible refine wpList_load1C rfl (g := g) (f := 4) rfl (v := .slice _ nI capI) (by kernel_rfl) (RS.out _ F.below) rfl ukindInstrumentSI ?_)) | (with_reducible refine wpList_indexW0 rfl rfl rfl rfl Try.underlying35 uinfoInstrumentI hlt ?_) | (go_at_call 33; ((with_reducible refine (HV.out _ F.below).mono ?_); rintro e w1 ⟨rfl, hl⟩; replace F := F.le hl; clear hl)))
      have L1 := hid F.below
      clear F HV
      go_loopw [4] (fun i wq => ∃ k : Nat, k ≤ j ∧ i = .int .i64 k ∧ Hid (∀ q, q < k → (!eqT (inT xI q) (inT xI j)) = true) ∧ Hid (le w wq)) (fun i _ => j - (intOf i).toNat)
      case atStart => exact ⟨0, Nat.zero_le _, rfl, fun q hq => absurd hq (by omega), L1.out⟩
      case round =>
        clear L1
        obtain ⟨k, hk, rfl, HK, HLq⟩ := hrel
        by_cases hkj : k < j
        · have hkn : k < nI := by omega
          have CKK := hid (CK.out k hkn)
          clear CK
          have G := hid (le_trans HLq.out (le_drewN _ 1))
          go_wp2_with fail
          refine region_freeD (E := leX) (fun _ _ _ _ => True) (by kernel_rfl) (by kernel_rfl) ?_
          refine wpFreeD_one rfl (.pointer (some ⟨g, 0, none⟩)) (fun w1 _ => by kernel_rfl) ?_
          simp only [Act.put, List.setIfInBounds_toArray, List.set_cons_succ, List.set_cons_zero]
          refine wpFreeD_one rfl (.pointer (some ⟨g, 0, none⟩)) (fun w1 _ => by kernel_rfl) ?_
          simp only [Act.put, List.setIfInBounds_toArray, List.set_cons_succ, List.set_cons_zero]
          refine wpFreeD_one rfl (.pointer (some ⟨g, 4, none⟩)) (fun w1 _ => by kernel_rfl) ?_
          simp only [Act.put, List.setIfInBounds_toArray, List.set_cons_succ, List.set_cons_zero]
          refine wpFreeD_load1 rfl rfl rfl (p := ⟨g, 4, none⟩) (v := .slice (some ⟨b8, o8, none⟩) nI capI) (fun w1 h1 => (RS.out w1 (le_trans G.out h1)).cell? 4) ukindInstrumentSI ?_
          simp only [Act.put, List.setIfInBounds_toArray, List.set_cons_succ, List.set_cons_zero]
          refine wpFreeD_one rfl (.int .i64 (k : Nat)) (fun w1 _ => by kernel_rfl) ?_
          simp only [Act.put, List.setIfInBounds_toArray, List.set_cons_succ, List.set_cons_zero]
          refine wpFreeD_indexW0 rfl rfl rfl rfl Try.underlying35 uinfoInstrumentI hkn ?_
          simp only [Act.put, List.setIfInBounds_toArray, List.set_cons_succ, List.set_cons_zero]
          refine wpFreeD_one rfl (.pointer (some ⟨b8, o8 + k * 5, none⟩)) (fun w1 _ => by kernel_rfl) ?_
          simp only [Act.put, List.setIfInBounds_toArray, List.set_cons_succ, List.set_cons_zero]
          refine wpFreeD_load1 rfl rfl rfl (p := ⟨b8, o8 + k * 5, none⟩) (v := .string (inT xI k)) (fun w1 h1 => CKK.out w1 (le_trans G.out h1)) ukindString ?_
          simp only [Act.put, List.setIfInBounds_toArray, List.set_cons_succ, List.set_cons_zero]
          refine wpFreeD_one rfl (.pointer (some ⟨g, 0, none⟩)) (fun w1 _ => by kernel_rfl) ?_
          simp only [Act.put, List.setIfInBounds_toArray, List.set_cons_succ, List.set_cons_zero]
          refine wpFreeD_one rfl (.pointer (some ⟨g, 0, none⟩)) (fun w1 _ => by kernel_rfl) ?_
          simp only [Act.put, List.setIfInBounds_toArray, List.set_cons_succ, List.set_cons_zero]
          refine wpFreeD_one rfl (.pointer (some ⟨g, 4, none⟩)) (fun w1 _ => by kernel_rfl) ?_
          simp only [Act.put, List.setIfInBounds_toArray, List.set_cons_succ, List.set_cons_zero]
          refine wpFreeD_load1 rfl rfl rfl (p := ⟨g, 4, none⟩) (v := .slice (some ⟨b8, o8, none⟩) nI capI) (fun w1 h1 => (RS.out w1 (le_trans G.out h1)).cell? 4) ukindInstrumentSI ?_
          simp only [Act.put, List.setIfInBounds_toArray, List.set_cons_succ, List.set_cons_zero]
          refine wpFreeD_one rfl (.int .i64 (j : Nat)) (fun w1 _ => by kernel_rfl) ?_
          simp only [Act.put, List.setIfInBounds_toArray, List.set_cons_succ, List.set_cons_zero]
          refine wpFreeD_indexW0 rfl rfl rfl rfl Try.underlying35 uinfoInstrumentI hlt ?_
          simp only [Act.put, List.setIfInBounds_toArray, List.set_cons_succ, List.set_cons_zero]
          refine wpFreeD_one rfl (.pointer (some ⟨b8, o8 + j * 5, none⟩)) (fun w1 _ => by kernel_rfl) ?_
          simp only [Act.put, List.setIfInBounds_toArray, List.set_cons_succ, List.set_cons_zero]
          refine wpFreeD_load1 rfl rfl rfl (p := ⟨b8, o8 + j * 5, none⟩) (v := .string (inT xI j)) (fun w1 h1 => CJ.out w1 (le_trans G.out h1)) ukindString ?_
          simp only [Act.put, List.setIfInBounds_toArray, List.set_cons_succ, List.set_cons_zero]
          refine wpFreeD_one rfl (.bool (eqT (inT xI k) (inT xI j))) (fun w1 _ => by kernel_rfl) ?_
          simp only [Act.put, List.setIfInBounds_toArray, List.set_cons_succ, List.set_cons_zero]
          refine wpFreeD_nil (fun wR hwR _ => ?_)
          have L2 := hid (le_trans G.out hwR)
          clear hwR G
          rcases bool_ft (eqT (inT xI k) (inT xI j)) with h1 | h1
          · have hb := hid (show (!eqT (inT xI k) (inT xI j)) = true by rw [h1]; rfl)
            rw [h1]
            clear h1
            go_wp2
            go_roundw
            case rel => exact ⟨k + 1, by omega, by go_num, fun q hq => by rcases Nat.lt_or_ge q k with h | h; exact HK.out q h; rw [show q = k by omega]; exact hb.out, L2.out⟩
            case measure => simp [intOf]; omega
          · have hb := hid (show (okIn xI j && newN xI j) = false by
              have e : newN xI j = false := allB_no (i := k) hkj (by rw [h1]; rfl)
              rw [e, Bool.and_false])
            rw [h1]
            clear h1
            go_wp2
            go_ret
            exact ⟨ret_b (show false = okSc r b o xD nD xI nI xE nE by rw [OK3.out, allB_no hlt hb.out]; rfl), L2.out⟩
        · obtain rfl : k = j := by omega
          have hb := hid (show (okIn xI k && newN xI k) = true by
            have e : newN xI k = true := allB_yes HK.out
            rw [e, hp'.out]; rfl)
          go_wp2
          go_roundw
          case rel => exact ⟨k + 1, by omega, by go_num, fun i hi => by rcases Nat.lt_or_ge i k with h | h; exact HJ.out i h; rw [show i = k by omega]; exact hb.out, HLq.out⟩
          case measure => simp [intOf]; omega
    · obtain rfl : j = nI := by omega
      have OK4 := hid (show okSc r b o xD nD xI j xE nE = okE ((nE / 2 : Nat) : Int) (j : Int) xE nE by rw [OK3.out, allB_yes HJ.out, Bool.true_and])
      clear OK3 HJ HX HS hfm
      have F : Frg w wr [] := ⟨HL.out, fun e he => absurd he (by simp), List.Pairwise.nil⟩
      go_wp2_with (first | ((with_reducible refine listN F ?_); clear F; intro wN F) | ((with_reducible refine at_load rfl ?_); first | (with_reducible refine wpList_load1C rfl (g := g) (f := 4) rfl (v := .slice pI j capI) (by kernel_rfl) (RS.out _ F.below) rfl ukindInstrumentSI ?_)))
      have G := hid (le_trans F.below (le_drewN _ 1))
      refine region_freeD (E := leX) (fun _ _ _ u => u = .bool (okE ((nE / 2 : Nat) : Int) (j : Int) xE nE)) (by kernel_rfl) (by kernel_rfl) ?_
      refine wpFreeD_one rfl (.pointer (some ⟨g, 0, none⟩)) (fun w1 _ => by kernel_rfl) ?_
      simp only [Act.put, List.setIfInBounds_toArray, List.set_cons_succ, List.set_cons_zero]
      refine wpFreeD_one rfl (.pointer (some ⟨g, 0, none⟩)) (fun w1 _ => by kernel_rfl) ?_
      simp only [Act.put, List.setIfInBounds_toArray, List.set_cons_succ, List.set_cons_zero]
      refine wpFreeD_one rfl (.pointer (some ⟨g, 5, none⟩)) (fun w1 _ => by kernel_rfl) ?_
      simp only [Act.put, List.setIfInBounds_toArray, List.set_cons_succ, List.set_cons_zero]
      refine wpFreeD_load1 rfl rfl rfl (p := ⟨g, 5, none⟩) (v := .slice pE nE capE) (fun w1 h1 => (RS.out w1 (le_trans G.out h1)).cell? 5) ukindEventSI ?_
      simp only [Act.put, List.setIfInBounds_toArray, List.set_cons_succ, List.set_cons_zero]
      refine wpFreeD_one rfl (.pointer (some ⟨g, 0, none⟩)) (fun w1 _ => by kernel_rfl) ?_
      simp only [Act.put, List.setIfInBounds_toArray, List.set_cons_succ, List.set_cons_zero]
      refine wpFreeD_one rfl (.pointer (some ⟨g, 0, none⟩)) (fun w1 _ => by kernel_rfl) ?_
      simp only [Act.put, List.setIfInBounds_toArray, List.set_cons_succ, List.set_cons_zero]
      refine wpFreeD_one rfl (.pointer (some ⟨g, 4, none⟩)) (fun w1 _ => by kernel_rfl) ?_
      simp only [Act.put, List.setIfInBounds_toArray, List.set_cons_succ, List.set_cons_zero]
      refine wpFreeD_load1 rfl rfl rfl (p := ⟨g, 4, none⟩) (v := .slice pI j capI) (fun w1 h1 => (RS.out w1 (le_trans G.out h1)).cell? 4) ukindInstrumentSI ?_
      simp only [Act.put, List.setIfInBounds_toArray, List.set_cons_succ, List.set_cons_zero]
      refine wpFreeD_one rfl (.int .i64 (j : Nat)) (fun w1 _ => by kernel_rfl) ?_
      simp only [Act.put, List.setIfInBounds_toArray, List.set_cons_succ, List.set_cons_zero]
      refine wpFreeD_callB rfl rfl Try.func34 (by kernel_rfl) (by kernel_rfl) (args := #[.slice pE nE capE, .int .i64 (j : Nat)]) (by simp [Act.eval]) (fun v w1 w2 hw hv => hv) (fun w1 hw1 _ => (H3.out w1 (le_trans G.out hw1)).mono ?_) ?_
      · rintro e w2 ⟨rfl, hl⟩
        exact ⟨_, rfl, hl, rfl⟩
      rintro u ⟨_, _, _, rfl⟩
      simp only [Act.put, List.setIfInBounds_toArray, List.set_cons_succ, List.set_cons_zero]
      refine wpFreeD_one rfl (.bool (okE ((nE / 2 : Nat) : Int) (j : Int) xE nE)) (fun w1 _ => by kernel_rfl) ?_
      simp only [Act.put, List.setIfInBounds_toArray, List.set_cons_succ, List.set_cons_zero]
      refine wpFreeD_nil (fun wR hwR _ => ?_)
      have L2 := hid (le_trans G.out hwR)
      clear hwR G
      go_wp2
      go_ret
      exact ⟨ret_b OK4.out.symm, L2.out⟩
end Go.Proofs.Ytkcpdddmabkkgaa

/- The model's 'l08Ok' of a score within a stage. -/
namespace Go.Proofs.Ytkcpdddmabkkgaa
open Go.RowKit Go.Fk
theorem tunAtG (r b o : Nat) (sD sI sE a1 a2 a3 : Value) : ∀ j, j < [Value.float .f32 b, .float .f32 o, sD].length → (#[Value.float .f32 r, .float .f32 b, .float .f32 o, sD, sI, sE, a1, a2, a3] : Array Value)[1 + j]? = [Value.float .f32 b, .float .f32 o, sD][j]? := fun j hj => by match j, hj with | 0, _ => rfl | 1, _ => rfl | 2, _ => rfl
set_option maxRecDepth 100000 in
set_option maxHeartbeats 20000000 in
theorem s_l08OkG (g : Nat) (B : Nat) (sD : Value) (pI : Option Addr) (capI : Nat) (pE : Option Addr) (capE : Nat) (r b o : Nat) (xD : Nat → Nat) (nD : Nat) (xI : Nat → CD) (nI : Nat) (xE : Nat → CD) (nE : Nat) (w : World) (z1 z2 z3 : Int) (R : Row w g 40 #[.float .f32 r, .float .f32 b, .float .f32 o, sD, .slice pI nI capI, .slice pE nE capE, .int .i64 z1, .int .i64 z2, .int .i64 z3]) (hD : (slT xD nD).RdN w B sD) (hI : (CD.sl 5 nI xI).RdN w B (.slice pI nI capI)) (hE : (CD.sl 6 nE xE).RdN w B (.slice pE nE capE)) (kI : InsOk xI nI) (kE : EvsOk xE nE) : Calls Try.prog 17 #[.pointer (some ⟨g, 0, none⟩)] w (Out_b (okSc r b o xD nD xI nI xE nE) w) := by
  have RS := hid (fun (w1 : World) (hl : le w w1) => R.le hl)
  have H1 := hid (fun (w1 : World) (hl : le w w1) => s_ValidTuning b o xD nD B sD w1 (hD.le hl))
  have H3 := hid (fun (w1 : World) (hl : le w w1) => s_l08Events B xE pE nE capE nI w1 (hE.le hl) kE ⟨(len_of hE).1, (len_of hI).1⟩)
  have HS := hid hI; have HX := hid kI
  have hfm := hid hI.form
  have hn : nI ≤ maxLen := (len_of hI).1
  unfold maxLen at hn
  have OK0 := hid (show okSc r b o xD nD xI nI xE nE = (withinB r 1065353216 1232348160 && okT b o xD nD && aiB xI nI && okE ((nE / 2 : Nat) : Int) (nI : Int) xE nE) from rfl)
  clear R hD hI hE kI kE
  have F := Frg.nil w
  cases e0 : (FloatKind.f32.format.order r 1065353216 == some .gt || FloatKind.f32.format.order r 1065353216 == some .eq)
  · have E := hid (show okSc r b o xD nD xI nI xE nE = false by rw [OK0.out]; unfold withinB; simp only [e0, Bool.false_and])
    clear OK0
    go_enter Try.func17, Try.ntmps17
    go_wp2_with (first | ((with_reducible refine listN F ?_); clear F; intro wN F) | ((with_reducible refine at_load rfl ?_); first | (with_reducible refine wpList_load1C rfl (g := g) (f := 0) rfl (v := .float .f32 r) (by kernel_rfl) (RS.out _ F.below) rfl ukindFloat32 ?_) | (with_reducible refine wpList_load1C rfl (g := g) (f := 4) rfl (v := .slice pI nI capI) (by kernel_rfl) (RS.out _ F.below) rfl ukindInstrumentSI ?_) | (with_reducible refine wpList_loadWC rfl (p := ⟨g, 1, none⟩) rfl [.float .f32 b, .float .f32 o, sD] (by kernel_rfl) (Row.at_part (RS.out _ F.below) (tunAtG r b o sD (.slice pI nI capI) (.slice pE nE capE) (.int .i64 z1) (.int .i64 z2) (.int .i64 z3))) Try.underlying34 rfl uinfoTuningI rfl ?_)) | (go_at_call 32; ((with_reducible refine (H1.out _ F.below).mono ?_); rintro e w1 ⟨rfl, hl⟩; replace F := F.le hl; clear hl)))
    go_ret
    exact ⟨ret_b E.out.symm, F.below⟩
  cases e1 : (FloatKind.f32.format.order r 1232348160 == some .lt || FloatKind.f32.format.order r 1232348160 == some .eq)
  · have E := hid (show okSc r b o xD nD xI nI xE nE = false by rw [OK0.out]; unfold withinB; simp only [e1, Bool.false_and, Bool.and_false])
    clear OK0
    go_enter Try.func17, Try.ntmps17
    go_wp2_with (first | ((with_reducible refine listN F ?_); clear F; intro wN F) | ((with_reducible refine at_load rfl ?_); first | (with_reducible refine wpList_load1C rfl (g := g) (f := 0) rfl (v := .float .f32 r) (by kernel_rfl) (RS.out _ F.below) rfl ukindFloat32 ?_) | (with_reducible refine wpList_load1C rfl (g := g) (f := 4) rfl (v := .slice pI nI capI) (by kernel_rfl) (RS.out _ F.below) rfl ukindInstrumentSI ?_) | (with_reducible refine wpList_loadWC rfl (p := ⟨g, 1, none⟩) rfl [.float .f32 b, .float .f32 o, sD] (by kernel_rfl) (Row.at_part (RS.out _ F.below) (tunAtG r b o sD (.slice pI nI capI) (.slice pE nE capE) (.int .i64 z1) (.int .i64 z2) (.int .i64 z3))) Try.underlying34 rfl uinfoTuningI rfl ?_)) | (go_at_call 32; ((with_reducible refine (H1.out _ F.below).mono ?_); rintro e w1 ⟨rfl, hl⟩; replace F := F.le hl; clear hl)))
    go_ret
    exact ⟨ret_b E.out.symm, F.below⟩
  have OK1 := hid (show okSc r b o xD nD xI nI xE nE = (okT b o xD nD && aiB xI nI && okE ((nE / 2 : Nat) : Int) (nI : Int) xE nE) by rw [OK0.out]; unfold withinB; simp only [e0, e1, Bool.true_and])
  clear OK0
  rcases bool_ft (okT b o xD nD) with h | h
  · have E := hid (show okSc r b o xD nD xI nI xE nE = false by rw [OK1.out, h]; simp only [Bool.false_and])
    rw [h] at H1
    clear h OK1
    go_enter Try.func17, Try.ntmps17
    go_wp2_with (first | ((with_reducible refine listN F ?_); clear F; intro wN F) | ((with_reducible refine at_load rfl ?_); first | (with_reducible refine wpList_load1C rfl (g := g) (f := 0) rfl (v := .float .f32 r) (by kernel_rfl) (RS.out _ F.below) rfl ukindFloat32 ?_) | (with_reducible refine wpList_load1C rfl (g := g) (f := 4) rfl (v := .slice pI nI capI) (by kernel_rfl) (RS.out _ F.below) rfl ukindInstrumentSI ?_) | (with_reducible refine wpList_loadWC rfl (p := ⟨g, 1, none⟩) rfl [.float .f32 b, .float .f32 o, sD] (by kernel_rfl) (Row.at_part (RS.out _ F.below) (tunAtG r b o sD (.slice pI nI capI) (.slice pE nE capE) (.int .i64 z1) (.int .i64 z2) (.int .i64 z3))) Try.underlying34 rfl uinfoTuningI rfl ?_)) | (go_at_call 32; ((with_reducible refine (H1.out _ F.below).mono ?_); rintro e w1 ⟨rfl, hl⟩; replace F := F.le hl; clear hl)))
    go_ret
    exact ⟨ret_b E.out.symm, F.below⟩
  rw [h] at H1
  have OK2 := hid (show okSc r b o xD nD xI nI xE nE = (aiB xI nI && okE ((nE / 2 : Nat) : Int) (nI : Int) xE nE) by rw [OK1.out, h]; simp only [Bool.true_and])
  have A0 := hid (show aiB xI nI = (decide (nI ≤ 6) && allB (fun i => okIn xI i && newN xI i) nI) from rfl)
  clear h OK1
  by_cases h6 : nI ≤ 6
  rotate_left
  · have E := hid (show okSc r b o xD nD xI nI xE nE = false by rw [OK2.out, A0.out, decide_eq_false h6]; simp only [Bool.false_and])
    have h6' : (6 : Int) < (nI : Int) := by omega
    clear OK2 A0
    go_enter Try.func17, Try.ntmps17
    go_wp2_with (first | ((with_reducible refine listN F ?_); clear F; intro wN F) | ((with_reducible refine at_load rfl ?_); first | (with_reducible refine wpList_load1C rfl (g := g) (f := 0) rfl (v := .float .f32 r) (by kernel_rfl) (RS.out _ F.below) rfl ukindFloat32 ?_) | (with_reducible refine wpList_load1C rfl (g := g) (f := 4) rfl (v := .slice pI nI capI) (by kernel_rfl) (RS.out _ F.below) rfl ukindInstrumentSI ?_) | (with_reducible refine wpList_loadWC rfl (p := ⟨g, 1, none⟩) rfl [.float .f32 b, .float .f32 o, sD] (by kernel_rfl) (Row.at_part (RS.out _ F.below) (tunAtG r b o sD (.slice pI nI capI) (.slice pE nE capE) (.int .i64 z1) (.int .i64 z2) (.int .i64 z3))) Try.underlying34 rfl uinfoTuningI rfl ?_)) | (go_at_call 32; ((with_reducible refine (H1.out _ F.below).mono ?_); rintro e w1 ⟨rfl, hl⟩; replace F := F.le hl; clear hl)))
    go_ret
    exact ⟨ret_b E.out.symm, F.below⟩
  have OK3 := hid (show okSc r b o xD nD xI nI xE nE = (allB (fun i => okIn xI i && newN xI i) nI && okE ((nE / 2 : Nat) : Int) (nI : Int) xE nE) by rw [OK2.out, A0.out, decide_eq_true h6, Bool.true_and])
  have h6' : ¬ (6 : Int) < (nI : Int) := by omega
  clear OK2 A0
  go_enter Try.func17, Try.ntmps17
  go_wp2_with (first | ((with_reducible refine listN F ?_); clear F; intro wN F) | ((with_reducible refine at_load rfl ?_); first | (with_reducible refine wpList_load1C rfl (g := g) (f := 0) rfl (v := .float .f32 r) (by kernel_rfl) (RS.out _ F.below) rfl ukindFloat32 ?_) | (with_reducible refine wpList_load1C rfl (g := g) (f := 4) rfl (v := .slice pI nI capI) (by kernel_rfl) (RS.out _ F.below) rfl ukindInstrumentSI ?_) | (with_reducible refine wpList_loadWC rfl (p := ⟨g, 1, none⟩) rfl [.float .f32 b, .float .f32 o, sD] (by kernel_rfl) (Row.at_part (RS.out _ F.below) (tunAtG r b o sD (.slice pI nI capI) (.slice pE nE capE) (.int .i64 z1) (.int .i64 z2) (.int .i64 z3))) Try.underlying34 rfl uinfoTuningI rfl ?_)) | (go_at_call 32; ((with_reducible refine (H1.out _ F.below).mono ?_); rintro e w1 ⟨rfl, hl⟩; replace F := F.le hl; clear hl)))
  have L0 := hid F.below
  clear F H1 e0 e1
  go_loopw [3] (fun i wr => ∃ j : Nat, j ≤ nI ∧ i = .int .i64 j ∧ Hid (∀ i, i < j → (okIn xI i && newN xI i) = true) ∧ Hid (le w wr)) (fun i _ => nI - (intOf i).toNat)
  case atStart => exact ⟨0, by omega, rfl, fun i hi => absurd hi (by omega), L0.out⟩
  case round =>
    clear L0
    obtain ⟨j, hj, rfl, HJ, HL⟩ := hrel
    rename_i wr _
    by_cases hlt : j < nI
    · have hf2 := hfm.out
      rcases hf2 with ⟨_, e0⟩ | ⟨b8, o8, cap8, e8, hc8, hm8⟩
      · omega
      simp only [Value.slice.injEq] at e8
      obtain ⟨rfl, _, rfl⟩ := e8
      obtain ⟨a1, b1, c1, hfit, ⟨ga, gb, gc⟩, ht, cu⟩ := HX.out.vals HS.out hlt
      have HV := hid (fun (w' : World) (hl : le w w') => s_l08InstrumentC (inT xI j) (inK xI j) a1 b1 c1 b8 (o8 + j * 5) w' (fun q v hv => (Below.cell hl (cell_lt' (cu q v hv))).trans (cu q v hv)) ht hfit)
      rw [show okI (inT xI j) (inK xI j) a1 b1 c1 = okIn xI j from okI_can ga gb gc] at HV
      have CJ := hid (fun (w' : World) (hl : le w w') => show w'.cell? ⟨b8, o8 + j * 5, none⟩ = some (.string (inT xI j)) by have h := cu 0 _ rfl; rw [add_none] at h; exact (Below.cell hl (cell_lt' h)).trans h)
      have CK := hid (fun (k : Nat) (hk : k < nI) (w' : World) (hl : le w w') => show w'.cell? ⟨b8, o8 + k * 5, none⟩ = some (.string (inT xI k)) by
        obtain ⟨_, _, _, _, _, _, h⟩ := HX.out.vals HS.out hk
        have h := h 0 _ rfl; rw [add_none] at h; exact (Below.cell hl (cell_lt' h)).trans h)
      clear cu ht hfit ga gb gc HS HX
      have F : Frg w wr [] := ⟨HL.out, fun e he => absurd he (by simp), List.Pairwise.nil⟩
      rcases bool_ft (okIn xI j) with hp | hp
      · have hb := hid (show (okIn xI j && newN xI j) = false by rw [hp]; rfl)
        rw [hp] at HV
        clear hp
        go_wp2_with (first | ((with_reducible refine listN F ?_); clear F; intro wN F) | ((with_reducible refine at_load rfl ?_); first | (with_reducible refine wpList_load1C rfl (g := g) (f := 4) rfl (v := .slice _ nI capI) (by kernel_rfl) (RS.out _ F.below) rfl ukindInstrumentSI ?_)) | (with_reducible refine wpList_indexW0 rfl rfl rfl rfl Try.underlying35 uinfoInstrumentI hlt ?_) | (go_at_call 33; ((with_reducible refine (HV.out _ F.below).mono ?_); rintro e w1 ⟨rfl, hl⟩; replace F := F.le hl; clear hl)))
        go_ret
        exact ⟨ret_b (show false = okSc r b o xD nD xI nI xE nE by rw [OK3.out, allB_no hlt hb.out]; rfl), F.below⟩
      rw [hp] at HV
      have hp' := hid hp
      clear hp
      go_wp2_with (first | ((with_reducible refine listN F ?_); clear F; intro wN F) | ((with_reducible refine at_load rfl ?_); first | (with_reducible refine wpList_load1C rfl (g := g) (f := 4) rfl (v := .slice _ nI capI) (by kernel_rfl) (RS.out _ F.below) rfl ukindInstrumentSI ?_)) | (with_reducible refine wpList_indexW0 rfl rfl rfl rfl Try.underlying35 uinfoInstrumentI hlt ?_) | (go_at_call 33; ((with_reducible refine (HV.out _ F.below).mono ?_); rintro e w1 ⟨rfl, hl⟩; replace F := F.le hl; clear hl)))
      have L1 := hid F.below
      clear F HV
      go_loopw [4] (fun i wq => ∃ k : Nat, k ≤ j ∧ i = .int .i64 k ∧ Hid (∀ q, q < k → (!eqT (inT xI q) (inT xI j)) = true) ∧ Hid (le w wq)) (fun i _ => j - (intOf i).toNat)
      case atStart => exact ⟨0, Nat.zero_le _, rfl, fun q hq => absurd hq (by omega), L1.out⟩
      case round =>
        clear L1
        obtain ⟨k, hk, rfl, HK, HLq⟩ := hrel
        by_cases hkj : k < j
        · have hkn : k < nI := by omega
          have CKK := hid (CK.out k hkn)
          clear CK
          have G := hid (le_trans HLq.out (le_drewN _ 1))
          go_wp2_with fail
          refine region_freeD (E := leX) (fun _ _ _ _ => True) (by kernel_rfl) (by kernel_rfl) ?_
          refine wpFreeD_one rfl (.pointer (some ⟨g, 0, none⟩)) (fun w1 _ => by kernel_rfl) ?_
          simp only [Act.put, List.setIfInBounds_toArray, List.set_cons_succ, List.set_cons_zero]
          refine wpFreeD_one rfl (.pointer (some ⟨g, 0, none⟩)) (fun w1 _ => by kernel_rfl) ?_
          simp only [Act.put, List.setIfInBounds_toArray, List.set_cons_succ, List.set_cons_zero]
          refine wpFreeD_one rfl (.pointer (some ⟨g, 4, none⟩)) (fun w1 _ => by kernel_rfl) ?_
          simp only [Act.put, List.setIfInBounds_toArray, List.set_cons_succ, List.set_cons_zero]
          refine wpFreeD_load1 rfl rfl rfl (p := ⟨g, 4, none⟩) (v := .slice (some ⟨b8, o8, none⟩) nI capI) (fun w1 h1 => (RS.out w1 (le_trans G.out h1)).cell? 4) ukindInstrumentSI ?_
          simp only [Act.put, List.setIfInBounds_toArray, List.set_cons_succ, List.set_cons_zero]
          refine wpFreeD_one rfl (.int .i64 (k : Nat)) (fun w1 _ => by kernel_rfl) ?_
          simp only [Act.put, List.setIfInBounds_toArray, List.set_cons_succ, List.set_cons_zero]
          refine wpFreeD_indexW0 rfl rfl rfl rfl Try.underlying35 uinfoInstrumentI hkn ?_
          simp only [Act.put, List.setIfInBounds_toArray, List.set_cons_succ, List.set_cons_zero]
          refine wpFreeD_one rfl (.pointer (some ⟨b8, o8 + k * 5, none⟩)) (fun w1 _ => by kernel_rfl) ?_
          simp only [Act.put, List.setIfInBounds_toArray, List.set_cons_succ, List.set_cons_zero]
          refine wpFreeD_load1 rfl rfl rfl (p := ⟨b8, o8 + k * 5, none⟩) (v := .string (inT xI k)) (fun w1 h1 => CKK.out w1 (le_trans G.out h1)) ukindString ?_
          simp only [Act.put, List.setIfInBounds_toArray, List.set_cons_succ, List.set_cons_zero]
          refine wpFreeD_one rfl (.pointer (some ⟨g, 0, none⟩)) (fun w1 _ => by kernel_rfl) ?_
          simp only [Act.put, List.setIfInBounds_toArray, List.set_cons_succ, List.set_cons_zero]
          refine wpFreeD_one rfl (.pointer (some ⟨g, 0, none⟩)) (fun w1 _ => by kernel_rfl) ?_
          simp only [Act.put, List.setIfInBounds_toArray, List.set_cons_succ, List.set_cons_zero]
          refine wpFreeD_one rfl (.pointer (some ⟨g, 4, none⟩)) (fun w1 _ => by kernel_rfl) ?_
          simp only [Act.put, List.setIfInBounds_toArray, List.set_cons_succ, List.set_cons_zero]
          refine wpFreeD_load1 rfl rfl rfl (p := ⟨g, 4, none⟩) (v := .slice (some ⟨b8, o8, none⟩) nI capI) (fun w1 h1 => (RS.out w1 (le_trans G.out h1)).cell? 4) ukindInstrumentSI ?_
          simp only [Act.put, List.setIfInBounds_toArray, List.set_cons_succ, List.set_cons_zero]
          refine wpFreeD_one rfl (.int .i64 (j : Nat)) (fun w1 _ => by kernel_rfl) ?_
          simp only [Act.put, List.setIfInBounds_toArray, List.set_cons_succ, List.set_cons_zero]
          refine wpFreeD_indexW0 rfl rfl rfl rfl Try.underlying35 uinfoInstrumentI hlt ?_
          simp only [Act.put, List.setIfInBounds_toArray, List.set_cons_succ, List.set_cons_zero]
          refine wpFreeD_one rfl (.pointer (some ⟨b8, o8 + j * 5, none⟩)) (fun w1 _ => by kernel_rfl) ?_
          simp only [Act.put, List.setIfInBounds_toArray, List.set_cons_succ, List.set_cons_zero]
          refine wpFreeD_load1 rfl rfl rfl (p := ⟨b8, o8 + j * 5, none⟩) (v := .string (inT xI j)) (fun w1 h1 => CJ.out w1 (le_trans G.out h1)) ukindString ?_
          simp only [Act.put, List.setIfInBounds_toArray, List.set_cons_succ, List.set_cons_zero]
          refine wpFreeD_one rfl (.bool (eqT (inT xI k) (inT xI j))) (fun w1 _ => by kernel_rfl) ?_
          simp only [Act.put, List.setIfInBounds_toArray, List.set_cons_succ, List.set_cons_zero]
          refine wpFreeD_nil (fun wR hwR _ => ?_)
          have L2 := hid (le_trans G.out hwR)
          clear hwR G
          rcases bool_ft (eqT (inT xI k) (inT xI j)) with h1 | h1
          · have hb := hid (show (!eqT (inT xI k) (inT xI j)) = true by rw [h1]; rfl)
            rw [h1]
            clear h1
            go_wp2
            go_roundw
            case rel => exact ⟨k + 1, by omega, by go_num, fun q hq => by rcases Nat.lt_or_ge q k with h | h; exact HK.out q h; rw [show q = k by omega]; exact hb.out, L2.out⟩
            case measure => simp [intOf]; omega
          · have hb := hid (show (okIn xI j && newN xI j) = false by
              have e : newN xI j = false := allB_no (i := k) hkj (by rw [h1]; rfl)
              rw [e, Bool.and_false])
            rw [h1]
            clear h1
            go_wp2
            go_ret
            exact ⟨ret_b (show false = okSc r b o xD nD xI nI xE nE by rw [OK3.out, allB_no hlt hb.out]; rfl), L2.out⟩
        · obtain rfl : k = j := by omega
          have hb := hid (show (okIn xI k && newN xI k) = true by
            have e : newN xI k = true := allB_yes HK.out
            rw [e, hp'.out]; rfl)
          go_wp2
          go_roundw
          case rel => exact ⟨k + 1, by omega, by go_num, fun i hi => by rcases Nat.lt_or_ge i k with h | h; exact HJ.out i h; rw [show i = k by omega]; exact hb.out, HLq.out⟩
          case measure => simp [intOf]; omega
    · obtain rfl : j = nI := by omega
      have OK4 := hid (show okSc r b o xD nD xI j xE nE = okE ((nE / 2 : Nat) : Int) (j : Int) xE nE by rw [OK3.out, allB_yes HJ.out, Bool.true_and])
      clear OK3 HJ HX HS hfm
      have F : Frg w wr [] := ⟨HL.out, fun e he => absurd he (by simp), List.Pairwise.nil⟩
      go_wp2_with (first | ((with_reducible refine listN F ?_); clear F; intro wN F) | ((with_reducible refine at_load rfl ?_); first | (with_reducible refine wpList_load1C rfl (g := g) (f := 4) rfl (v := .slice pI j capI) (by kernel_rfl) (RS.out _ F.below) rfl ukindInstrumentSI ?_)))
      have G := hid (le_trans F.below (le_drewN _ 1))
      refine region_freeD (E := leX) (fun _ _ _ u => u = .bool (okE ((nE / 2 : Nat) : Int) (j : Int) xE nE)) (by kernel_rfl) (by kernel_rfl) ?_
      refine wpFreeD_one rfl (.pointer (some ⟨g, 0, none⟩)) (fun w1 _ => by kernel_rfl) ?_
      simp only [Act.put, List.setIfInBounds_toArray, List.set_cons_succ, List.set_cons_zero]
      refine wpFreeD_one rfl (.pointer (some ⟨g, 0, none⟩)) (fun w1 _ => by kernel_rfl) ?_
      simp only [Act.put, List.setIfInBounds_toArray, List.set_cons_succ, List.set_cons_zero]
      refine wpFreeD_one rfl (.pointer (some ⟨g, 5, none⟩)) (fun w1 _ => by kernel_rfl) ?_
      simp only [Act.put, List.setIfInBounds_toArray, List.set_cons_succ, List.set_cons_zero]
      refine wpFreeD_load1 rfl rfl rfl (p := ⟨g, 5, none⟩) (v := .slice pE nE capE) (fun w1 h1 => (RS.out w1 (le_trans G.out h1)).cell? 5) ukindEventSI ?_
      simp only [Act.put, List.setIfInBounds_toArray, List.set_cons_succ, List.set_cons_zero]
      refine wpFreeD_one rfl (.pointer (some ⟨g, 0, none⟩)) (fun w1 _ => by kernel_rfl) ?_
      simp only [Act.put, List.setIfInBounds_toArray, List.set_cons_succ, List.set_cons_zero]
      refine wpFreeD_one rfl (.pointer (some ⟨g, 0, none⟩)) (fun w1 _ => by kernel_rfl) ?_
      simp only [Act.put, List.setIfInBounds_toArray, List.set_cons_succ, List.set_cons_zero]
      refine wpFreeD_one rfl (.pointer (some ⟨g, 4, none⟩)) (fun w1 _ => by kernel_rfl) ?_
      simp only [Act.put, List.setIfInBounds_toArray, List.set_cons_succ, List.set_cons_zero]
      refine wpFreeD_load1 rfl rfl rfl (p := ⟨g, 4, none⟩) (v := .slice pI j capI) (fun w1 h1 => (RS.out w1 (le_trans G.out h1)).cell? 4) ukindInstrumentSI ?_
      simp only [Act.put, List.setIfInBounds_toArray, List.set_cons_succ, List.set_cons_zero]
      refine wpFreeD_one rfl (.int .i64 (j : Nat)) (fun w1 _ => by kernel_rfl) ?_
      simp only [Act.put, List.setIfInBounds_toArray, List.set_cons_succ, List.set_cons_zero]
      refine wpFreeD_callB rfl rfl Try.func34 (by kernel_rfl) (by kernel_rfl) (args := #[.slice pE nE capE, .int .i64 (j : Nat)]) (by simp [Act.eval]) (fun v w1 w2 hw hv => hv) (fun w1 hw1 _ => (H3.out w1 (le_trans G.out hw1)).mono ?_) ?_
      · rintro e w2 ⟨rfl, hl⟩
        exact ⟨_, rfl, hl, rfl⟩
      rintro u ⟨_, _, _, rfl⟩
      simp only [Act.put, List.setIfInBounds_toArray, List.set_cons_succ, List.set_cons_zero]
      refine wpFreeD_one rfl (.bool (okE ((nE / 2 : Nat) : Int) (j : Int) xE nE)) (fun w1 _ => by kernel_rfl) ?_
      simp only [Act.put, List.setIfInBounds_toArray, List.set_cons_succ, List.set_cons_zero]
      refine wpFreeD_nil (fun wR hwR _ => ?_)
      have L2 := hid (le_trans G.out hwR)
      clear hwR G
      go_wp2
      go_ret
      exact ⟨ret_b OK4.out.symm, L2.out⟩
end Go.Proofs.Ytkcpdddmabkkgaa

/- Scores as trees. -/
namespace Go.Proofs.Ytkcpdddmabkkgaa
open Go.RowKit Go.Fk
theorem score_data {cs : List CD} (h : HasShL shScore cs) : ∃ (r b o : Nat) (xD : Nat → CD) (nD : Nat) (xI : Nat → CD) (nI : Nat) (xE : Nat → CD) (nE : Nat), cs = [.flt .f32 r, .flt .f32 b, .flt .f32 o, .sl 1 nD xD, .sl 5 nI xI, .sl 6 nE xE] ∧ (∀ i, i < nD → (xD i).flk = some .f32) ∧ InsOk (fun i => (xI i).cn) nI ∧ EvsOk (fun i => (xE i).cn) nE := by
  obtain ⟨c0, cs, rfl, q0, h⟩ := h.inv
  obtain ⟨c1, cs, rfl, q1, h⟩ := h.inv
  obtain ⟨c2, cs, rfl, q2, h⟩ := h.inv
  obtain ⟨c3, cs, rfl, q3, h⟩ := h.inv
  obtain ⟨c4, cs, rfl, q4, h⟩ := h.inv
  obtain ⟨c5, cs, rfl, q5, h⟩ := h.inv
  obtain rfl := h.inv0
  obtain ⟨r, rfl⟩ := q0
  obtain ⟨b, rfl⟩ := q1
  obtain ⟨o, rfl⟩ := q2
  obtain ⟨nD, xD, rfl, r0⟩ := q3
  obtain ⟨nI, xI, rfl, r1⟩ := q4
  obtain ⟨nE, xE, rfl, r2⟩ := q5
  refine ⟨r, b, o, xD, nD, xI, nI, xE, nE, rfl, fun i hi => ShOk.flts (fun i hi j hj => (r0 i hi j hj).ok) rfl i hi, ?_, ?_⟩
  · exact ins_ok (x := fun i => (xI i).cn) (fun i hi j hj => ((r1 i hi j hj).ok).cn) rfl rfl rfl rfl rfl
  · exact evs_ok (x := fun i => (xE i).cn) (fun i hi j hj => ((r2 i hi j hj).ok).cn) rfl rfl rfl rfl rfl rfl
theorem score_open {r b o nD nI nE : Nat} {xD xI xE : Nat → CD} {w : World} {B : Nat} {u : List Value} (h : RdLN w B (([.flt .f32 r, .flt .f32 b, .flt .f32 o, .sl 1 nD xD, .sl 5 nI xI, .sl 6 nE xE] : List CD).map CD.cp) u) (hx : ∀ i, i < nD → (xD i).flk = some .f32) : ∃ sD sI sE : Value, u = [.float .f32 r, .float .f32 b, .float .f32 o, sD, sI, sE] ∧ (slT (fun i => (xD i).fx) nD).RdN w B sD ∧ (CD.sl 5 nI (fun i => (xI i).cn)).RdN w B sI ∧ (CD.sl 6 nE (fun i => (xE i).cn)).RdN w B sE ∧ fits .f32 r ∧ fits .f32 b ∧ fits .f32 o := by
  simp only [List.map_cons, List.map_nil] at h
  obtain ⟨v0, u0, rfl, q0, hh0⟩ := h.inv
  obtain ⟨v1, u1, rfl, q1, hh1⟩ := hh0.inv
  obtain ⟨v2, u2, rfl, q2, hh2⟩ := hh1.inv
  obtain ⟨v3, u3, rfl, q3, hh3⟩ := hh2.inv
  obtain ⟨v4, u4, rfl, q4, hh4⟩ := hh3.inv
  obtain ⟨v5, u5, rfl, q5, hh5⟩ := hh4.inv
  obtain rfl := hh5.inv0
  obtain ⟨rfl, f0⟩ := q0
  obtain ⟨rfl, f1⟩ := q1
  obtain ⟨rfl, f2⟩ := q2
  exact ⟨v3, v4, v5, rfl, q3.congr (slT_cp hx), q4, q5, f0, f1, f2⟩
end Go.Proofs.Ytkcpdddmabkkgaa

/- 'ValidScore' of both over trees. -/
namespace Go.Proofs.Ytkcpdddmabkkgaa
open Go.RowKit Go.Fk
/-- A score's cells as values, its lists told by their pieces. -/
theorem score_parts {r b o nD nI nE : Nat} {xD xI xE : Nat → CD} {w : World} {B : Nat} {u : List Value} (h : RdLN w B (([.flt .f32 r, .flt .f32 b, .flt .f32 o, .sl 1 nD xD, .sl 5 nI xI, .sl 6 nE xE] : List CD).map CD.cp) u) (hx : ∀ i, i < nD → (xD i).flk = some .f32) : ∃ (sD : Value) (pI : Option Addr) (capI : Nat) (pE : Option Addr) (capE : Nat), u = [.float .f32 r, .float .f32 b, .float .f32 o, sD, .slice pI nI capI, .slice pE nE capE] ∧ (slT (fun i => (xD i).fx) nD).RdN w B sD ∧ (CD.sl 5 nI (fun i => (xI i).cn)).RdN w B (.slice pI nI capI) ∧ (CD.sl 6 nE (fun i => (xE i).cn)).RdN w B (.slice pE nE capE) := by
  obtain ⟨sD, sI, sE, rfl, hD, hI, hE, _⟩ := score_open h hx
  obtain ⟨_, pI, cI, rfl⟩ := len_of hI
  obtain ⟨_, pE, cE, rfl⟩ := len_of hE
  exact ⟨sD, pI, cI, pE, cE, rfl, hD, hI, hE⟩
end Go.Proofs.Ytkcpdddmabkkgaa
