/- Texts of the walk, laid in one file. -/
import Derived.Test.YtgjdmoenobacgaaMf
set_option linter.unusedVariables false
set_option linter.unusedSimpArgs false
/- 'NewJet' of both. -/
namespace Go.Fk
open Go Go.RowKit
def partB (a : Nat) : Bool := (FloatKind.f32.format.order a 0 == some .gt || FloatKind.f32.format.order a 0 == some .eq) && (FloatKind.f32.format.order a 1065353216 == some .lt)
def okNJ (a b : Int) (kp nr fr : Nat) : Bool := (decide (1 ≤ a) && decide (a ≤ 1024)) && (decide (1 ≤ b) && decide (b ≤ 1024)) && partB kp && withinB nr 3212836864 1065353216 && withinB fr 3212836864 1065353216
/-- A fresh filter. -/
def FilV (k : Int) (A B : Nat) (v : Value) : Prop := ∃ a b c x y, v = .agg #[.int .i64 k, .float .f32 a, .float .f32 b, .float .f32 c, .float .f32 x, .float .f32 y] ∧ (can .f32 a = A ∧ can .f32 b = B ∧ can .f32 c = 0 ∧ can .f32 x = 0 ∧ can .f32 y = 0) ∧ (fits .f32 a ∧ fits .f32 b ∧ fits .f32 c ∧ fits .f32 x ∧ fits .f32 y)
def cdNJ (nx ny kp nr fr : Nat) : List CD := [.sl 1 nx (fun _ => .fcn .f32 0), .int .i64 0, .sl 1 ny (fun _ => .fcn .f32 0), .int .i64 0, .int .i64 1, .fcn .f32 (fop .sub .f32 1065353216 kp), .fcn .f32 (can .f32 kp), .fcn .f32 0, .fcn .f32 0, .fcn .f32 0, .int .i64 5, .fcn .f32 (can .f32 1065269330), .fcn .f32 0, .fcn .f32 0, .fcn .f32 0, .fcn .f32 0, .flt .f32 nr, .flt .f32 fr]
theorem zero_f : fits .f32 0 := by simp [fits, Lit.wf]
section
variable {P : Program} {ops : Array Oper} {W : World} {K : FuncId → Array Value → Nat → World → Value → Prop} {Q : Act → World → Prop} {F : FactsZ} {k : Nat} {o : Oper} {rest : List Oper} {a : Act}
/-- A slice is made. -/
theorem wpFreeZ_made (hg : o.guard = none) {ty : TypeId} {x y : Operand} (hop : o.op = .makeSlice ty x y) {u v : Value} (hx : a.eval x = u) (hy : a.eval y = v) {n : Nat} {t : TypeId} {cs : Array Value} (hr : ∀ w, (Instr.makeSlice ty u v).run P w = .ok (.slice (some ⟨w.heap.size, 0, none⟩) n n) (w.alloc (.cells cs t)))
    (h : ∀ b, wpFreeZ leX P ops .any W K Q rest (k + 1) (a.put o.dst (.slice (some ⟨b, 0, none⟩) n n)) (F.with k (fun z w => b = z ∧ W.heap.size ≤ z ∧ Row w z t cs))) : wpFreeZ leX P ops .any W K Q (o :: rest) k a F := by
  refine ⟨fun z w u => u = .slice (some ⟨z, 0, none⟩) n n ∧ W.heap.size ≤ z ∧ Row w z t cs, ⟨fun z v w w' hw hv => ⟨hv.1, hv.2.1, hv.2.2.le hw⟩, .inl ⟨by simp [Region.wanted, hg], fun w hw _ => ?_⟩⟩, fun u hu => ?_⟩
  · have : (execOp a.eval o).run P w = .ok (.value (.slice (some ⟨w.heap.size, 0, none⟩) n n)) (w.alloc (.cells cs t)) := by
      simp [execOp, hop, hx, hy, hr, Result.andThen]
    rw [this]
    exact ⟨le_alloc w _, rfl, hw.size, Row.new w t cs⟩
  · obtain ⟨z, w, _, rfl, _⟩ := hu.has
    exact wpFreeZ_weaken _ _ _ _ _ (fun e z' w h => ⟨h.1, fun he => ⟨by have := (h.2 he).1; simpa using this, (h.2 he).2⟩⟩) (h z)
end
end Go.Fk
namespace Go.Proofs.Ytgjdmoenobacgaa
open Go.RowKit Go.Fk
theorem cdNJ_sh (nx ny kp nr fr : Nat) : ShOkL shJet (cdNJ nx ny kp nr fr) :=
  (ShOkL.cons ⟨_, _, rfl, fun i hi j hj => by obtain rfl : j = 0 := (by omega); rfl⟩ (ShOkL.cons ⟨_, rfl⟩ (ShOkL.cons ⟨_, _, rfl, fun i hi j hj => by obtain rfl : j = 0 := (by omega); rfl⟩ (ShOkL.cons ⟨_, rfl⟩ (ShOkL.cons ⟨_, rfl⟩ (ShOkL.cons rfl (ShOkL.cons rfl (ShOkL.cons rfl (ShOkL.cons rfl (ShOkL.cons rfl (ShOkL.cons ⟨_, rfl⟩ (ShOkL.cons rfl (ShOkL.cons rfl (ShOkL.cons rfl (ShOkL.cons rfl (ShOkL.cons rfl (ShOkL.cons rfl (ShOkL.cons rfl ShOkL.nil))))))))))))))))))
theorem cdNJ_sz (nx ny kp nr fr : Nat) : szL (cdNJ nx ny kp nr fr) = nx + ny := by
  have e1 := CD.sz_flts (n := nx) (x := fun _ => CD.fcn .f32 0) (fun i _ => rfl)
  have e2 := CD.sz_flts (n := ny) (x := fun _ => CD.fcn .f32 0) (fun i _ => rfl)
  simp only [cdNJ, szL, List.map_cons, List.map_nil, List.sum_cons, List.sum_nil, e1, e2]
  simp [CD.sz]
theorem layNJ (nx ny kp nr fr : Nat) {p0 p1 p2 p3 p4 p5 p6 p7 p8 p9 : Nat} {lo : Nat} {s t : Value} {w : World} (h : Two lo (fun _ => 0) nx (fun _ => 0) ny s t w) (C1 : can .f32 p0 = fop .sub .f32 1065353216 kp ∧ can .f32 p1 = can .f32 kp ∧ can .f32 p2 = 0 ∧ can .f32 p3 = 0 ∧ can .f32 p4 = 0) (F1 : fits .f32 p0 ∧ fits .f32 p1 ∧ fits .f32 p2 ∧ fits .f32 p3 ∧ fits .f32 p4) (C2 : can .f32 p5 = can .f32 1065269330 ∧ can .f32 p6 = 0 ∧ can .f32 p7 = 0 ∧ can .f32 p8 = 0 ∧ can .f32 p9 = 0) (F2 : fits .f32 p5 ∧ fits .f32 p6 ∧ fits .f32 p7 ∧ fits .f32 p8 ∧ fits .f32 p9) (hnr : fits .f32 nr) (hfr : fits .f32 fr) : LayL w (rng lo w.heap.size) (cdNJ nx ny kp nr fr) [s, .int .i64 0, t, .int .i64 0, .int .i64 1, .float .f32 p0, .float .f32 p1, .float .f32 p2, .float .f32 p3, .float .f32 p4, .int .i64 5, .float .f32 p5, .float .f32 p6, .float .f32 p7, .float .f32 p8, .float .f32 p9, .float .f32 nr, .float .f32 fr] := by
  obtain ⟨k0, k1, k2, k3, k4⟩ := C1
  obtain ⟨f0, f1, f2, f3, f4⟩ := F1
  obtain ⟨k5, k6, k7, k8, k9⟩ := C2
  obtain ⟨f5, f6, f7, f8, f9⟩ := F2
  obtain ⟨bq, dq, h1, h2, h3, h4, h5, h6, h7⟩ := h
  have e1 : LayL w (rng dq (dq + 1)) ([.sl 1 ny (fun _ => .fcn .f32 0), .int .i64 0, .int .i64 1, .fcn .f32 (fop .sub .f32 1065353216 kp), .fcn .f32 (can .f32 kp), .fcn .f32 0, .fcn .f32 0, .fcn .f32 0, .int .i64 5, .fcn .f32 (can .f32 1065269330), .fcn .f32 0, .fcn .f32 0, .fcn .f32 0, .fcn .f32 0, .flt .f32 nr, .flt .f32 fr] : List CD) [t, .int .i64 0, .int .i64 1, .float .f32 p0, .float .f32 p1, .float .f32 p2, .float .f32 p3, .float .f32 p4, .int .i64 5, .float .f32 p5, .float .f32 p6, .float .f32 p7, .float .f32 p8, .float .f32 p9, .float .f32 nr, .float .f32 fr] := LayL.cons h2.lay (LayL.leaf ⟨rfl, by decide⟩ (LayL.leaf ⟨rfl, by decide⟩ (LayL.leaf ⟨_, rfl, f0, k0⟩ (LayL.leaf ⟨_, rfl, f1, k1⟩ (LayL.leaf ⟨_, rfl, f2, k2⟩ (LayL.leaf ⟨_, rfl, f3, k3⟩ (LayL.leaf ⟨_, rfl, f4, k4⟩ (LayL.leaf ⟨rfl, by decide⟩ (LayL.leaf ⟨_, rfl, f5, k5⟩ (LayL.leaf ⟨_, rfl, f6, k6⟩ (LayL.leaf ⟨_, rfl, f7, k7⟩ (LayL.leaf ⟨_, rfl, f8, k8⟩ (LayL.leaf ⟨_, rfl, f9, k9⟩ (LayL.leaf ⟨rfl, hnr⟩ (LayL.leaf ⟨rfl, hfr⟩ (LayL.nil _ (fun _ => False))))))))))))))))) (fun _ h => h) (fun _ h => h.elim) (fun _ _ h => h)
  exact LayL.cons (S1 := rng bq (bq + 1)) (S2 := rng dq (dq + 1)) h1.lay (LayL.leaf ⟨rfl, by decide⟩ e1) (fun j h => ⟨Nat.le_trans h4 h.1, by have := h.2; omega⟩) (fun j h => ⟨Nat.le_trans h6 h.1, by have := h.2; omega⟩) (fun j h h2 => by have a1 := h.1; have a2 := h.2; have b1 := h2.1; have b2 := h2.2; omega)
theorem i_isPart (a : Nat) (w : World) : Calls Try.prog 63 #[.float .f32 a] w fun e w' => e = .returned (.bool (partB a)) ∧ w = w' := by
  rcases h0 : FloatKind.f32.format.order a 0 with _ | (_ | _ | _) <;> rcases h1 : FloatKind.f32.format.order a 1065353216 with _ | (_ | _ | _)
  all_goals
    go_enter Try.func63, Try.ntmps63
    go_wp2
    go_ret
    exact ⟨ret_b (by unfold partB; rw [h0, h1]; rfl), rfl⟩
theorem i_OnePoleV (q : Nat) (hq : fits .f32 q) (w : World) : Calls Try.prog 66 #[.float .f32 q] w fun e w' => ∃ v, e = .returned v ∧ FilV 1 (fop .sub .f32 1065353216 q) (can .f32 q) v ∧ Below w.heap.size w w' := by
  go_enter Try.func66, Try.ntmps66
  go_wp2_with (with_reducible refine wpList_farith rfl rfl rfl rfl rfl ?_; intro r n hr hf)
  exact bodyPost_ret (results_row1 rfl _ _ _ _ _ rfl (Row.store6 ((Row.new w _ _).drewN _)) Try.underlying29 rfl infoFil) rfl ⟨_, rfl, ⟨_, _, _, _, _, rfl, ⟨hr.out, rfl, can_zero, can_zero, can_zero⟩, ⟨hf.out, hq, zero_f, zero_f, zero_f⟩⟩, by repeat' (first | (with_reducible exact Below.refl _ _) | (with_reducible assumption) | (with_reducible refine below_drewN ?_ _) | (with_reducible refine Below.alloc ?_ ?_ _) | (with_reducible refine Below.drew ?_) | (with_reducible refine Below.setCell ?_ ?_ _) | go_size)⟩
theorem i_BlockDcV (q : Nat) (hq : fits .f32 q) (w : World) : Calls Try.prog 93 #[.float .f32 q] w fun e w' => ∃ v, e = .returned v ∧ FilV 5 (can .f32 q) 0 v ∧ Below w.heap.size w w' := by
  go_enter Try.func93, Try.ntmps93
  go_wp2_with (with_reducible refine wpList_farith rfl rfl rfl rfl rfl ?_; intro r n hr hf)
  exact bodyPost_ret (results_row1 rfl _ _ _ _ _ rfl (Row.new w _ _) Try.underlying29 rfl infoFil) rfl ⟨_, rfl, ⟨_, _, _, _, _, rfl, ⟨rfl, can_zero, can_zero, can_zero, can_zero⟩, ⟨hq, zero_f, zero_f, zero_f, zero_f⟩⟩, by repeat' (first | (with_reducible exact Below.refl _ _) | (with_reducible assumption) | (with_reducible refine below_drewN ?_ _) | (with_reducible refine Below.alloc ?_ ?_ _) | (with_reducible refine Below.drew ?_) | (with_reducible refine Below.setCell ?_ ?_ _) | go_size)⟩
theorem s_OnePoleV (q : Nat) (hq : fits .f32 q) (w : World) : Calls Try.prog 61 #[.float .f32 q] w fun e w' => ∃ v, e = .returned v ∧ FilV 1 (fop .sub .f32 1065353216 q) (can .f32 q) v ∧ Below w.heap.size w w' := by
  go_enter Try.func61, Try.ntmps61
  go_wp2_with (with_reducible refine wpList_farith rfl rfl rfl rfl rfl ?_; intro r n hr hf)
  exact bodyPost_ret (results_row1 rfl _ _ _ _ _ rfl (Row.store6 ((Row.new w _ _).drewN _)) Try.underlying29 rfl infoFil) rfl ⟨_, rfl, ⟨_, _, _, _, _, rfl, ⟨hr.out, rfl, can_zero, can_zero, can_zero⟩, ⟨hf.out, hq, zero_f, zero_f, zero_f⟩⟩, by repeat' (first | (with_reducible exact Below.refl _ _) | (with_reducible assumption) | (with_reducible refine below_drewN ?_ _) | (with_reducible refine Below.alloc ?_ ?_ _) | (with_reducible refine Below.drew ?_) | (with_reducible refine Below.setCell ?_ ?_ _) | go_size)⟩
theorem s_BlockDcV (q : Nat) (hq : fits .f32 q) (w : World) : Calls Try.prog 92 #[.float .f32 q] w fun e w' => ∃ v, e = .returned v ∧ FilV 5 (can .f32 q) 0 v ∧ Below w.heap.size w w' := by
  go_enter Try.func92, Try.ntmps92
  go_wp2_with (with_reducible refine wpList_farith rfl rfl rfl rfl rfl ?_; intro r n hr hf)
  exact bodyPost_ret (results_row1 rfl _ _ _ _ _ rfl (Row.new w _ _) Try.underlying29 rfl infoFil) rfl ⟨_, rfl, ⟨_, _, _, _, _, rfl, ⟨rfl, can_zero, can_zero, can_zero, can_zero⟩, ⟨hq, zero_f, zero_f, zero_f, zero_f⟩⟩, by repeat' (first | (with_reducible exact Below.refl _ _) | (with_reducible assumption) | (with_reducible refine below_drewN ?_ _) | (with_reducible refine Below.alloc ?_ ?_ _) | (with_reducible refine Below.drew ?_) | (with_reducible refine Below.setCell ?_ ?_ _) | go_size)⟩
set_option maxRecDepth 100000 in
set_option maxHeartbeats 4000000 in
theorem i_NewJet_no (a b : Int) (kp nr fr : Nat) (w : World) (h : okNJ a b kp nr fr = false) : Calls Try.prog 42 #[.int .i64 a, .int .i64 b, .float .f32 kp, .float .f32 nr, .float .f32 fr] w (OutV_Ti (cdJet (fun _ => 0) (fun _ => 0) 0 0 0 0 0 0 0 0 0 0 0 0 0 0 0 0 0 0) 2 w) := by
  have F := (Frg.nil w).box 67 #[.slice none 0 0, .int .i64 0, .slice none 0 0, .int .i64 0, .int .i64 0, .float .f32 0, .float .f32 0, .float .f32 0, .float .f32 0, .float .f32 0, .int .i64 0, .float .f32 0, .float .f32 0, .float .f32 0, .float .f32 0, .float .f32 0, .float .f32 0, .float .f32 0]
  have HP := hid (fun w' => i_isPart kp w')
  have H1 := hid (fun w' => i_isWithin nr 3212836864 1065353216 w')
  have H2 := hid (fun w' => i_isWithin fr 3212836864 1065353216 w')
  cases e3 : partB kp
  · rw [e3] at HP; clear h e3
    go_enter Try.func42, Try.ntmps42
    go_wp2_with (first | (go_at_call 63; ((with_reducible refine (HP.out _).mono ?_); rintro e w5 ⟨rfl, rfl⟩)) | (go_at_call 62; first | ((with_reducible refine (H1.out _).mono ?_); rintro e w5 ⟨rfl, rfl⟩) | ((with_reducible refine (H2.out _).mono ?_); rintro e w5 ⟨rfl, rfl⟩)) | (with_reducible refine stop_store (ty := 67) rfl ?_))
    show wpList _ _ _ _ _ _
    refine wpList_storeD rfl rfl rfl (cells := #[.slice none 0 0, .int .i64 0, .slice none 0 0, .int .i64 0, .int .i64 0, .float .f32 0, .float .f32 0, .float .f32 0, .float .f32 0, .float .f32 0, .int .i64 0, .float .f32 0, .float .f32 0, .float .f32 0, .float .f32 0, .float .f32 0, .float .f32 0, .float .f32 0]) rfl (F.row m0) uinfoJetI rfl (by simp [Value.oneCell']) (fun w4 K => ?_)
    have R := hid K.row
    have L := hid (F.wr0 K).below
    clear K F
    go_wp2
    exact bodyPost_ret (results_row2 rfl _ _ _ _ _ rfl R.out Try.underlying67 rfl uinfoJetI) rfl ⟨[.slice none 0 0, .int .i64 0, .slice none 0 0, .int .i64 0, .int .i64 0, .float .f32 0, .float .f32 0, .float .f32 0, .float .f32 0, .float .f32 0, .int .i64 0, .float .f32 0, .float .f32 0, .float .f32 0, .float .f32 0, .float .f32 0, .float .f32 0, .float .f32 0], rfl, layJet0 _ _, L.out⟩
  rw [e3] at HP
  cases e4 : withinB nr 3212836864 1065353216
  · rw [e4] at H1; clear h e3 e4
    go_enter Try.func42, Try.ntmps42
    go_wp2_with (first | (go_at_call 63; ((with_reducible refine (HP.out _).mono ?_); rintro e w5 ⟨rfl, rfl⟩)) | (go_at_call 62; first | ((with_reducible refine (H1.out _).mono ?_); rintro e w5 ⟨rfl, rfl⟩) | ((with_reducible refine (H2.out _).mono ?_); rintro e w5 ⟨rfl, rfl⟩)) | (with_reducible refine stop_store (ty := 67) rfl ?_))
    show wpList _ _ _ _ _ _
    refine wpList_storeD rfl rfl rfl (cells := #[.slice none 0 0, .int .i64 0, .slice none 0 0, .int .i64 0, .int .i64 0, .float .f32 0, .float .f32 0, .float .f32 0, .float .f32 0, .float .f32 0, .int .i64 0, .float .f32 0, .float .f32 0, .float .f32 0, .float .f32 0, .float .f32 0, .float .f32 0, .float .f32 0]) rfl (F.row m0) uinfoJetI rfl (by simp [Value.oneCell']) (fun w4 K => ?_)
    have R := hid K.row
    have L := hid (F.wr0 K).below
    clear K F
    go_wp2
    exact bodyPost_ret (results_row2 rfl _ _ _ _ _ rfl R.out Try.underlying67 rfl uinfoJetI) rfl ⟨[.slice none 0 0, .int .i64 0, .slice none 0 0, .int .i64 0, .int .i64 0, .float .f32 0, .float .f32 0, .float .f32 0, .float .f32 0, .float .f32 0, .int .i64 0, .float .f32 0, .float .f32 0, .float .f32 0, .float .f32 0, .float .f32 0, .float .f32 0, .float .f32 0], rfl, layJet0 _ _, L.out⟩
  rw [e4] at H1
  cases e5 : withinB fr 3212836864 1065353216
  · rw [e5] at H2; clear h e3 e4 e5
    go_enter Try.func42, Try.ntmps42
    go_wp2_with (first | (go_at_call 63; ((with_reducible refine (HP.out _).mono ?_); rintro e w5 ⟨rfl, rfl⟩)) | (go_at_call 62; first | ((with_reducible refine (H1.out _).mono ?_); rintro e w5 ⟨rfl, rfl⟩) | ((with_reducible refine (H2.out _).mono ?_); rintro e w5 ⟨rfl, rfl⟩)) | (with_reducible refine stop_store (ty := 67) rfl ?_))
    show wpList _ _ _ _ _ _
    refine wpList_storeD rfl rfl rfl (cells := #[.slice none 0 0, .int .i64 0, .slice none 0 0, .int .i64 0, .int .i64 0, .float .f32 0, .float .f32 0, .float .f32 0, .float .f32 0, .float .f32 0, .int .i64 0, .float .f32 0, .float .f32 0, .float .f32 0, .float .f32 0, .float .f32 0, .float .f32 0, .float .f32 0]) rfl (F.row m0) uinfoJetI rfl (by simp [Value.oneCell']) (fun w4 K => ?_)
    have R := hid K.row
    have L := hid (F.wr0 K).below
    clear K F
    go_wp2
    exact bodyPost_ret (results_row2 rfl _ _ _ _ _ rfl R.out Try.underlying67 rfl uinfoJetI) rfl ⟨[.slice none 0 0, .int .i64 0, .slice none 0 0, .int .i64 0, .int .i64 0, .float .f32 0, .float .f32 0, .float .f32 0, .float .f32 0, .float .f32 0, .int .i64 0, .float .f32 0, .float .f32 0, .float .f32 0, .float .f32 0, .float .f32 0, .float .f32 0, .float .f32 0], rfl, layJet0 _ _, L.out⟩
  rw [e5] at H2
  by_cases h1 : 1 ≤ a ∧ a ≤ 1024
  · obtain ⟨nx, rfl⟩ : ∃ n : Nat, a = n := ⟨a.toNat, by omega⟩
    have HR1 := hid (fun w' => i_NewRing nx w' (by omega) (by omega))
    by_cases h2 : 1 ≤ b ∧ b ≤ 1024
    · exfalso
      simp [okNJ, e3, e4, e5] at h
      omega
    · have HR2 := hid (fun w' => i_NewRing_no b w' h2)
      clear h e3 e4 e5 h1 h2
      go_enter Try.func42, Try.ntmps42
      go_wp2_with (first | (go_at_call 63; ((with_reducible refine (HP.out _).mono ?_); rintro e w5 ⟨rfl, rfl⟩)) | (go_at_call 62; first | ((with_reducible refine (H1.out _).mono ?_); rintro e w5 ⟨rfl, rfl⟩) | ((with_reducible refine (H2.out _).mono ?_); rintro e w5 ⟨rfl, rfl⟩)) | (go_at_call 65; first | ((with_reducible refine (HR1.out _).mono ?_); rintro e w1 ⟨b1, rfl, hb1, hl, hr⟩; have hbz1 := hb1; simp only [World.size_alloc] at hbz1; replace F := F.rowS hl hb1 hr; replace F := F.box 25 #[.slice (some ⟨b1, 0, none⟩) nx nx, .int .i64 0]; clear hl hr hb1) | ((with_reducible refine (HR2.out _).mono ?_); rintro e w2 ⟨rfl, hl⟩; replace F := (F.le hl).box 25 #[.slice none 0 0, .int .i64 0]; clear hl)) | (with_reducible refine stop_store (ty := 67) rfl ?_))
      show wpList _ _ _ _ _ _
      refine wpList_storeD rfl rfl rfl (cells := #[.slice none 0 0, .int .i64 0, .slice none 0 0, .int .i64 0, .int .i64 0, .float .f32 0, .float .f32 0, .float .f32 0, .float .f32 0, .float .f32 0, .int .i64 0, .float .f32 0, .float .f32 0, .float .f32 0, .float .f32 0, .float .f32 0, .float .f32 0, .float .f32 0]) rfl (F.row m3) uinfoJetI rfl (by simp [Value.oneCell']) (fun w4 K => ?_)
      have R := hid K.row
      have L := hid (F.wr3 K).below
      clear K F
      go_wp2
      exact bodyPost_ret (results_row2 rfl _ _ _ _ _ rfl R.out Try.underlying67 rfl uinfoJetI) rfl ⟨[.slice none 0 0, .int .i64 0, .slice none 0 0, .int .i64 0, .int .i64 0, .float .f32 0, .float .f32 0, .float .f32 0, .float .f32 0, .float .f32 0, .int .i64 0, .float .f32 0, .float .f32 0, .float .f32 0, .float .f32 0, .float .f32 0, .float .f32 0, .float .f32 0], rfl, layJet0 _ _, L.out⟩
  · have HR1 := hid (fun w' => i_NewRing_no a w' h1)
    by_cases h2 : 1 ≤ b ∧ b ≤ 1024
    · obtain ⟨ny, rfl⟩ : ∃ n : Nat, b = n := ⟨b.toNat, by omega⟩
      have HR2 := hid (fun w' => i_NewRing ny w' (by omega) (by omega))
      clear h e3 e4 e5 h1 h2
      go_enter Try.func42, Try.ntmps42
      go_wp2_with (first | (go_at_call 63; ((with_reducible refine (HP.out _).mono ?_); rintro e w5 ⟨rfl, rfl⟩)) | (go_at_call 62; first | ((with_reducible refine (H1.out _).mono ?_); rintro e w5 ⟨rfl, rfl⟩) | ((with_reducible refine (H2.out _).mono ?_); rintro e w5 ⟨rfl, rfl⟩)) | (go_at_call 65; first | ((with_reducible refine (HR1.out _).mono ?_); rintro e w1 ⟨rfl, hl⟩; replace F := (F.le hl).box 25 #[.slice none 0 0, .int .i64 0]; clear hl) | ((with_reducible refine (HR2.out _).mono ?_); rintro e w2 ⟨b2, rfl, hb2, hl, hr⟩; have hbz2 := hb2; simp only [World.size_alloc] at hbz2; replace F := F.rowS hl hb2 hr; replace F := F.box 25 #[.slice (some ⟨b2, 0, none⟩) ny ny, .int .i64 0]; clear hl hr hb2)) | (with_reducible refine stop_store (ty := 67) rfl ?_))
      show wpList _ _ _ _ _ _
      refine wpList_storeD rfl rfl rfl (cells := #[.slice none 0 0, .int .i64 0, .slice none 0 0, .int .i64 0, .int .i64 0, .float .f32 0, .float .f32 0, .float .f32 0, .float .f32 0, .float .f32 0, .int .i64 0, .float .f32 0, .float .f32 0, .float .f32 0, .float .f32 0, .float .f32 0, .float .f32 0, .float .f32 0]) rfl (F.row m3) uinfoJetI rfl (by simp [Value.oneCell']) (fun w4 K => ?_)
      have R := hid K.row
      have L := hid (F.wr3 K).below
      clear K F
      go_wp2
      exact bodyPost_ret (results_row2 rfl _ _ _ _ _ rfl R.out Try.underlying67 rfl uinfoJetI) rfl ⟨[.slice none 0 0, .int .i64 0, .slice none 0 0, .int .i64 0, .int .i64 0, .float .f32 0, .float .f32 0, .float .f32 0, .float .f32 0, .float .f32 0, .int .i64 0, .float .f32 0, .float .f32 0, .float .f32 0, .float .f32 0, .float .f32 0, .float .f32 0, .float .f32 0], rfl, layJet0 _ _, L.out⟩
    · have HR2 := hid (fun w' => i_NewRing_no b w' h2)
      clear h e3 e4 e5 h1 h2
      go_enter Try.func42, Try.ntmps42
      go_wp2_with (first | (go_at_call 63; ((with_reducible refine (HP.out _).mono ?_); rintro e w5 ⟨rfl, rfl⟩)) | (go_at_call 62; first | ((with_reducible refine (H1.out _).mono ?_); rintro e w5 ⟨rfl, rfl⟩) | ((with_reducible refine (H2.out _).mono ?_); rintro e w5 ⟨rfl, rfl⟩)) | (go_at_call 65; first | ((with_reducible refine (HR1.out _).mono ?_); rintro e w1 ⟨rfl, hl⟩; replace F := (F.le hl).box 25 #[.slice none 0 0, .int .i64 0]; clear hl) | ((with_reducible refine (HR2.out _).mono ?_); rintro e w2 ⟨rfl, hl⟩; replace F := (F.le hl).box 25 #[.slice none 0 0, .int .i64 0]; clear hl)) | (with_reducible refine stop_store (ty := 67) rfl ?_))
      show wpList _ _ _ _ _ _
      refine wpList_storeD rfl rfl rfl (cells := #[.slice none 0 0, .int .i64 0, .slice none 0 0, .int .i64 0, .int .i64 0, .float .f32 0, .float .f32 0, .float .f32 0, .float .f32 0, .float .f32 0, .int .i64 0, .float .f32 0, .float .f32 0, .float .f32 0, .float .f32 0, .float .f32 0, .float .f32 0, .float .f32 0]) rfl (F.row m2) uinfoJetI rfl (by simp [Value.oneCell']) (fun w4 K => ?_)
      have R := hid K.row
      have L := hid (F.wr2 K).below
      clear K F
      go_wp2
      exact bodyPost_ret (results_row2 rfl _ _ _ _ _ rfl R.out Try.underlying67 rfl uinfoJetI) rfl ⟨[.slice none 0 0, .int .i64 0, .slice none 0 0, .int .i64 0, .int .i64 0, .float .f32 0, .float .f32 0, .float .f32 0, .float .f32 0, .float .f32 0, .int .i64 0, .float .f32 0, .float .f32 0, .float .f32 0, .float .f32 0, .float .f32 0, .float .f32 0, .float .f32 0], rfl, layJet0 _ _, L.out⟩
set_option maxRecDepth 100000 in
set_option maxHeartbeats 4000000 in
theorem i_NewJet_yes (nx ny kp nr fr : Nat) (w : World) (x1 : 1 ≤ nx) (x2 : nx ≤ 1024) (y1 : 1 ≤ ny) (y2 : ny ≤ 1024) (h3 : partB kp = true) (h4 : withinB nr 3212836864 1065353216 = true) (h5 : withinB fr 3212836864 1065353216 = true) (hkp : fits .f32 kp) (hnr : fits .f32 nr) (hfr : fits .f32 fr) : Calls Try.prog 42 #[.int .i64 (nx : Int), .int .i64 (ny : Int), .float .f32 kp, .float .f32 nr, .float .f32 fr] w (OutV_Ti (cdNJ nx ny kp nr fr) 0 w) := by
  have F := (Frg.nil w).box 67 #[.slice none 0 0, .int .i64 0, .slice none 0 0, .int .i64 0, .int .i64 0, .float .f32 0, .float .f32 0, .float .f32 0, .float .f32 0, .float .f32 0, .int .i64 0, .float .f32 0, .float .f32 0, .float .f32 0, .float .f32 0, .float .f32 0, .float .f32 0, .float .f32 0]
  have HP := hid (fun w' => i_isPart kp w')
  have H1 := hid (fun w' => i_isWithin nr 3212836864 1065353216 w')
  have H2 := hid (fun w' => i_isWithin fr 3212836864 1065353216 w')
  rw [h3] at HP; rw [h4] at H1; rw [h5] at H2
  have HR1 := hid (fun w' => i_NewRing nx w' x1 x2)
  have HR2 := hid (fun w' => i_NewRing ny w' y1 y2)
  clear h3 h4 h5
  go_enter Try.func42, Try.ntmps42
  go_wp2_with (first | (go_at_call 63; ((with_reducible refine (HP.out _).mono ?_); rintro e w5 ⟨rfl, rfl⟩)) | (go_at_call 62; first | ((with_reducible refine (H1.out _).mono ?_); rintro e w5 ⟨rfl, rfl⟩) | ((with_reducible refine (H2.out _).mono ?_); rintro e w5 ⟨rfl, rfl⟩)) | (go_at_call 65; first | ((with_reducible refine (HR1.out _).mono ?_); rintro e w1 ⟨b1, rfl, hb1, hl, hr⟩; have hbz1 := hb1; simp only [World.size_alloc] at hbz1; replace F := F.rowS hl hb1 hr; replace F := F.box 25 #[.slice (some ⟨b1, 0, none⟩) nx nx, .int .i64 0]; clear hl hr hb1) | ((with_reducible refine (HR2.out _).mono ?_); rintro e w2 ⟨b2, rfl, hb2, hl, hr⟩; have hbz2 := hb2; simp only [World.size_alloc] at hbz2; replace F := F.rowS hl hb2 hr; replace F := F.box 25 #[.slice (some ⟨b2, 0, none⟩) ny ny, .int .i64 0]; clear hl hr hb2)))
  have G := F.drewN 1
  refine region_tailZ (E := leX) (fun f args z w1 v => (f = 66 → FilV 1 (fop .sub .f32 1065353216 kp) (can .f32 kp) v) ∧ (f = 93 → FilV 5 (can .f32 1065269330) 0 v)) 8 (by kernel_rfl) (by kernel_rfl) ?_
  simp only [List.take_succ_cons, List.take_zero, List.drop_succ_cons, List.drop_zero]
  refine wpFreeZ_loadW rfl rfl rfl [.slice (some ⟨b1, 0, none⟩) nx nx, .int .i64 0] (fun w1 h1 => Row.at_part (f := 0) ((G.row m2).le h1) (fun j hj => by rw [Nat.zero_add]; simp)) Try.underlying25 rfl uinfoRingI rfl ?_
  simp only [Act.put, List.setIfInBounds_toArray, List.set_cons_succ, List.set_cons_zero]
  refine wpFreeZ_loadW rfl rfl rfl [.slice (some ⟨b2, 0, none⟩) ny ny, .int .i64 0] (fun w1 h1 => Row.at_part (f := 0) ((G.row m0).le h1) (fun j hj => by rw [Nat.zero_add]; simp)) Try.underlying25 rfl uinfoRingI rfl ?_
  simp only [Act.put, List.setIfInBounds_toArray, List.set_cons_succ, List.set_cons_zero]
  refine wpFreeZ_one rfl (.float .f32 kp) (fun w1 _ => by kernel_rfl) ?_
  simp only [Act.put, List.setIfInBounds_toArray, List.set_cons_succ, List.set_cons_zero]
  refine wpFreeZ_callW (by kernel_rfl) rfl Try.func66 (by kernel_rfl) (by kernel_rfl) (args := #[.float .f32 kp]) (by simp [Act.eval]) (fun z v w1 w2 hw hv => hv) (fun wc hw1 hbe => ?_) ?_
  · refine (i_OnePoleV kp hkp wc).mono ?_
    rintro e w2 ⟨v, rfl, hv, hl⟩
    exact ⟨_, rfl, hl, ⟨fun _ => hv, fun e => absurd e (by decide)⟩⟩
  rintro v1 ⟨z, wv, _, hv⟩
  obtain ⟨p0, p1, p2, p3, p4, rfl, hC1, hF1⟩ := hv.1 rfl
  have HC1 := hid hC1; have HF1 := hid hF1
  clear hv hC1 hF1
  simp only [Act.put, List.setIfInBounds_toArray, List.set_cons_succ, List.set_cons_zero]
  refine wpFreeZ_callW (by kernel_rfl) rfl Try.func93 (by kernel_rfl) (by kernel_rfl) (args := #[.float .f32 1065269330]) (by simp [Act.eval]) (fun z v w1 w2 hw hv => hv) (fun wc hw1 hbe => ?_) ?_
  · refine (i_BlockDcV 1065269330 (by simp [fits, Lit.wf]) wc).mono ?_
    rintro e w2 ⟨v, rfl, hv, hl⟩
    exact ⟨_, rfl, hl, ⟨fun e => absurd e (by decide), fun _ => hv⟩⟩
  rintro v2 ⟨z, wv, _, hv⟩
  obtain ⟨p5, p6, p7, p8, p9, rfl, hC2, hF2⟩ := hv.2 rfl
  have HC2 := hid hC2; have HF2 := hid hF2
  clear hv hC2 hF2
  simp only [Act.put, List.setIfInBounds_toArray, List.set_cons_succ, List.set_cons_zero]
  refine wpFreeZ_one rfl (.float .f32 nr) (fun w1 _ => by kernel_rfl) ?_
  simp only [Act.put, List.setIfInBounds_toArray, List.set_cons_succ, List.set_cons_zero]
  refine wpFreeZ_one rfl (.float .f32 fr) (fun w1 _ => by kernel_rfl) ?_
  simp only [Act.put, List.setIfInBounds_toArray, List.set_cons_succ, List.set_cons_zero]
  refine wpFreeZ_one rfl (.agg #[.slice (some ⟨b1, 0, none⟩) nx nx, .int .i64 0, .slice (some ⟨b2, 0, none⟩) ny ny, .int .i64 0, .int .i64 1, .float .f32 p0, .float .f32 p1, .float .f32 p2, .float .f32 p3, .float .f32 p4, .int .i64 5, .float .f32 p5, .float .f32 p6, .float .f32 p7, .float .f32 p8, .float .f32 p9, .float .f32 nr, .float .f32 fr]) (fun w1 _ => by kernel_rfl) ?_
  simp only [Act.put, List.setIfInBounds_toArray, List.set_cons_succ, List.set_cons_zero]
  refine wpFreeZ_nil (fun w3 zs hw3 hF hc => ?_)
  clear hF hc
  replace F := G.le hw3
  clear hw3 G
  refine wpList_storeD rfl rfl rfl (cells := #[.slice (some ⟨b1, 0, none⟩) nx nx, .int .i64 0, .slice (some ⟨b2, 0, none⟩) ny ny, .int .i64 0, .int .i64 1, .float .f32 p0, .float .f32 p1, .float .f32 p2, .float .f32 p3, .float .f32 p4, .int .i64 5, .float .f32 p5, .float .f32 p6, .float .f32 p7, .float .f32 p8, .float .f32 p9, .float .f32 nr, .float .f32 fr]) rfl (F.row m4) uinfoJetI rfl (by simp [Value.oneCell']) (fun w9 K => ?_)
  have R := hid K.row
  replace F := F.wrI4 K
  have L := hid F.below
  have q1 := (F.row m1).lt
  have q3 := (F.row m3).lt
  have a1 := (List.pairwise_cons.1 (List.pairwise_cons.1 F.apart).2).1 (rowF b1 22 (ftab .f32 (fun _ => 0) nx)) (by simp)
  simp only [rowF] at a1
  have f3 := (F.facts (rowF b1 22 (ftab .f32 (fun _ => 0) nx)) m3).1
  simp only [rowF] at f3
  have LY := hid (layNJ nx ny kp nr fr (lo := w.heap.size) ⟨b1, b2, own_zero (F.row m3) x2 (Nat.le_refl _) (Nat.lt_succ_self _), own_zero (F.row m1) y2 (Nat.le_refl _) (Nat.lt_succ_self _), by omega, f3, q3, by omega, q1⟩ HC1.out HF1.out HC2.out HF2.out hnr hfr)
  clear K F
  go_wp2
  exact bodyPost_ret (results_row2 rfl _ _ _ _ _ rfl R.out Try.underlying67 rfl uinfoJetI) rfl ⟨[.slice (some ⟨b1, 0, none⟩) nx nx, .int .i64 0, .slice (some ⟨b2, 0, none⟩) ny ny, .int .i64 0, .int .i64 1, .float .f32 p0, .float .f32 p1, .float .f32 p2, .float .f32 p3, .float .f32 p4, .int .i64 5, .float .f32 p5, .float .f32 p6, .float .f32 p7, .float .f32 p8, .float .f32 p9, .float .f32 nr, .float .f32 fr], rfl, LY.out, L.out⟩
set_option maxRecDepth 100000 in
set_option maxHeartbeats 4000000 in
theorem s_NewJet_no (a b : Int) (kp nr fr : Nat) (w : World) (h : okNJ a b kp nr fr = false) : Calls Try.prog 41 #[.int .i64 a, .int .i64 b, .float .f32 kp, .float .f32 nr, .float .f32 fr] w (OutV_Ti (cdJet (fun _ => 0) (fun _ => 0) 0 0 0 0 0 0 0 0 0 0 0 0 0 0 0 0 0 0) 2 w) := by
  have F := (Frg.nil w).box 67 #[.slice none 0 0, .int .i64 0, .slice none 0 0, .int .i64 0, .int .i64 0, .float .f32 0, .float .f32 0, .float .f32 0, .float .f32 0, .float .f32 0, .int .i64 0, .float .f32 0, .float .f32 0, .float .f32 0, .float .f32 0, .float .f32 0, .float .f32 0, .float .f32 0]
  have HA := hid (fun w' => s_In a 1 1024 w')
  have HB := hid (fun w' => s_In b 1 1024 w')
  cases e0 : (decide (1 ≤ a) && decide (a ≤ 1024))
  · rw [e0] at HA; clear h
    go_enter Try.func41, Try.ntmps41
    go_wp2_with (first | (go_at_call 56; first | ((with_reducible refine (HA.out _).mono ?_); rintro e w5 ⟨rfl, rfl⟩) | ((with_reducible refine (HB.out _).mono ?_); rintro e w5 ⟨rfl, rfl⟩)) | (with_reducible refine stop_store (ty := 67) rfl ?_))
    show wpList _ _ _ _ _ _
    refine wpList_storeD rfl rfl rfl (cells := #[.slice none 0 0, .int .i64 0, .slice none 0 0, .int .i64 0, .int .i64 0, .float .f32 0, .float .f32 0, .float .f32 0, .float .f32 0, .float .f32 0, .int .i64 0, .float .f32 0, .float .f32 0, .float .f32 0, .float .f32 0, .float .f32 0, .float .f32 0, .float .f32 0]) rfl (F.row m0) uinfoJetI rfl (by simp [Value.oneCell']) (fun w4 K => ?_)
    have R := hid K.row
    have L := hid (F.wr0 K).below
    clear K F
    go_wp2
    exact bodyPost_ret (results_row2 rfl _ _ _ _ _ rfl R.out Try.underlying67 rfl uinfoJetI) rfl ⟨[.slice none 0 0, .int .i64 0, .slice none 0 0, .int .i64 0, .int .i64 0, .float .f32 0, .float .f32 0, .float .f32 0, .float .f32 0, .float .f32 0, .int .i64 0, .float .f32 0, .float .f32 0, .float .f32 0, .float .f32 0, .float .f32 0, .float .f32 0, .float .f32 0], rfl, layJet0 _ _, L.out⟩
  rw [e0] at HA
  cases e1 : (decide (1 ≤ b) && decide (b ≤ 1024))
  · rw [e1] at HB; clear h
    go_enter Try.func41, Try.ntmps41
    go_wp2_with (first | (go_at_call 56; first | ((with_reducible refine (HA.out _).mono ?_); rintro e w5 ⟨rfl, rfl⟩) | ((with_reducible refine (HB.out _).mono ?_); rintro e w5 ⟨rfl, rfl⟩)) | (with_reducible refine stop_store (ty := 67) rfl ?_))
    show wpList _ _ _ _ _ _
    refine wpList_storeD rfl rfl rfl (cells := #[.slice none 0 0, .int .i64 0, .slice none 0 0, .int .i64 0, .int .i64 0, .float .f32 0, .float .f32 0, .float .f32 0, .float .f32 0, .float .f32 0, .int .i64 0, .float .f32 0, .float .f32 0, .float .f32 0, .float .f32 0, .float .f32 0, .float .f32 0, .float .f32 0]) rfl (F.row m0) uinfoJetI rfl (by simp [Value.oneCell']) (fun w4 K => ?_)
    have R := hid K.row
    have L := hid (F.wr0 K).below
    clear K F
    go_wp2
    exact bodyPost_ret (results_row2 rfl _ _ _ _ _ rfl R.out Try.underlying67 rfl uinfoJetI) rfl ⟨[.slice none 0 0, .int .i64 0, .slice none 0 0, .int .i64 0, .int .i64 0, .float .f32 0, .float .f32 0, .float .f32 0, .float .f32 0, .float .f32 0, .int .i64 0, .float .f32 0, .float .f32 0, .float .f32 0, .float .f32 0, .float .f32 0, .float .f32 0, .float .f32 0], rfl, layJet0 _ _, L.out⟩
  rw [e1] at HB
  cases e2 : (FloatKind.f32.format.order kp 0 == some .gt || FloatKind.f32.format.order kp 0 == some .eq)
  · clear h
    go_enter Try.func41, Try.ntmps41
    go_wp2_with (first | (go_at_call 56; first | ((with_reducible refine (HA.out _).mono ?_); rintro e w5 ⟨rfl, rfl⟩) | ((with_reducible refine (HB.out _).mono ?_); rintro e w5 ⟨rfl, rfl⟩)) | (with_reducible refine stop_store (ty := 67) rfl ?_))
    show wpList _ _ _ _ _ _
    refine wpList_storeD rfl rfl rfl (cells := #[.slice none 0 0, .int .i64 0, .slice none 0 0, .int .i64 0, .int .i64 0, .float .f32 0, .float .f32 0, .float .f32 0, .float .f32 0, .float .f32 0, .int .i64 0, .float .f32 0, .float .f32 0, .float .f32 0, .float .f32 0, .float .f32 0, .float .f32 0, .float .f32 0]) rfl (F.row m0) uinfoJetI rfl (by simp [Value.oneCell']) (fun w4 K => ?_)
    have R := hid K.row
    have L := hid (F.wr0 K).below
    clear K F
    go_wp2
    exact bodyPost_ret (results_row2 rfl _ _ _ _ _ rfl R.out Try.underlying67 rfl uinfoJetI) rfl ⟨[.slice none 0 0, .int .i64 0, .slice none 0 0, .int .i64 0, .int .i64 0, .float .f32 0, .float .f32 0, .float .f32 0, .float .f32 0, .float .f32 0, .int .i64 0, .float .f32 0, .float .f32 0, .float .f32 0, .float .f32 0, .float .f32 0, .float .f32 0, .float .f32 0], rfl, layJet0 _ _, L.out⟩
  cases e3 : (FloatKind.f32.format.order kp 1065353216 == some .lt)
  · clear h
    go_enter Try.func41, Try.ntmps41
    go_wp2_with (first | (go_at_call 56; first | ((with_reducible refine (HA.out _).mono ?_); rintro e w5 ⟨rfl, rfl⟩) | ((with_reducible refine (HB.out _).mono ?_); rintro e w5 ⟨rfl, rfl⟩)) | (with_reducible refine stop_store (ty := 67) rfl ?_))
    show wpList _ _ _ _ _ _
    refine wpList_storeD rfl rfl rfl (cells := #[.slice none 0 0, .int .i64 0, .slice none 0 0, .int .i64 0, .int .i64 0, .float .f32 0, .float .f32 0, .float .f32 0, .float .f32 0, .float .f32 0, .int .i64 0, .float .f32 0, .float .f32 0, .float .f32 0, .float .f32 0, .float .f32 0, .float .f32 0, .float .f32 0]) rfl (F.row m0) uinfoJetI rfl (by simp [Value.oneCell']) (fun w4 K => ?_)
    have R := hid K.row
    have L := hid (F.wr0 K).below
    clear K F
    go_wp2
    exact bodyPost_ret (results_row2 rfl _ _ _ _ _ rfl R.out Try.underlying67 rfl uinfoJetI) rfl ⟨[.slice none 0 0, .int .i64 0, .slice none 0 0, .int .i64 0, .int .i64 0, .float .f32 0, .float .f32 0, .float .f32 0, .float .f32 0, .float .f32 0, .int .i64 0, .float .f32 0, .float .f32 0, .float .f32 0, .float .f32 0, .float .f32 0, .float .f32 0, .float .f32 0], rfl, layJet0 _ _, L.out⟩
  cases e4 : (FloatKind.f32.format.order nr 3212836864 == some .gt || FloatKind.f32.format.order nr 3212836864 == some .eq)
  · clear h
    go_enter Try.func41, Try.ntmps41
    go_wp2_with (first | (go_at_call 56; first | ((with_reducible refine (HA.out _).mono ?_); rintro e w5 ⟨rfl, rfl⟩) | ((with_reducible refine (HB.out _).mono ?_); rintro e w5 ⟨rfl, rfl⟩)) | (with_reducible refine stop_store (ty := 67) rfl ?_))
    show wpList _ _ _ _ _ _
    refine wpList_storeD rfl rfl rfl (cells := #[.slice none 0 0, .int .i64 0, .slice none 0 0, .int .i64 0, .int .i64 0, .float .f32 0, .float .f32 0, .float .f32 0, .float .f32 0, .float .f32 0, .int .i64 0, .float .f32 0, .float .f32 0, .float .f32 0, .float .f32 0, .float .f32 0, .float .f32 0, .float .f32 0]) rfl (F.row m0) uinfoJetI rfl (by simp [Value.oneCell']) (fun w4 K => ?_)
    have R := hid K.row
    have L := hid (F.wr0 K).below
    clear K F
    go_wp2
    exact bodyPost_ret (results_row2 rfl _ _ _ _ _ rfl R.out Try.underlying67 rfl uinfoJetI) rfl ⟨[.slice none 0 0, .int .i64 0, .slice none 0 0, .int .i64 0, .int .i64 0, .float .f32 0, .float .f32 0, .float .f32 0, .float .f32 0, .float .f32 0, .int .i64 0, .float .f32 0, .float .f32 0, .float .f32 0, .float .f32 0, .float .f32 0, .float .f32 0, .float .f32 0], rfl, layJet0 _ _, L.out⟩
  cases e5 : (FloatKind.f32.format.order nr 1065353216 == some .lt || FloatKind.f32.format.order nr 1065353216 == some .eq)
  · clear h
    go_enter Try.func41, Try.ntmps41
    go_wp2_with (first | (go_at_call 56; first | ((with_reducible refine (HA.out _).mono ?_); rintro e w5 ⟨rfl, rfl⟩) | ((with_reducible refine (HB.out _).mono ?_); rintro e w5 ⟨rfl, rfl⟩)) | (with_reducible refine stop_store (ty := 67) rfl ?_))
    show wpList _ _ _ _ _ _
    refine wpList_storeD rfl rfl rfl (cells := #[.slice none 0 0, .int .i64 0, .slice none 0 0, .int .i64 0, .int .i64 0, .float .f32 0, .float .f32 0, .float .f32 0, .float .f32 0, .float .f32 0, .int .i64 0, .float .f32 0, .float .f32 0, .float .f32 0, .float .f32 0, .float .f32 0, .float .f32 0, .float .f32 0]) rfl (F.row m0) uinfoJetI rfl (by simp [Value.oneCell']) (fun w4 K => ?_)
    have R := hid K.row
    have L := hid (F.wr0 K).below
    clear K F
    go_wp2
    exact bodyPost_ret (results_row2 rfl _ _ _ _ _ rfl R.out Try.underlying67 rfl uinfoJetI) rfl ⟨[.slice none 0 0, .int .i64 0, .slice none 0 0, .int .i64 0, .int .i64 0, .float .f32 0, .float .f32 0, .float .f32 0, .float .f32 0, .float .f32 0, .int .i64 0, .float .f32 0, .float .f32 0, .float .f32 0, .float .f32 0, .float .f32 0, .float .f32 0, .float .f32 0], rfl, layJet0 _ _, L.out⟩
  cases e6 : (FloatKind.f32.format.order fr 3212836864 == some .gt || FloatKind.f32.format.order fr 3212836864 == some .eq)
  · clear h
    go_enter Try.func41, Try.ntmps41
    go_wp2_with (first | (go_at_call 56; first | ((with_reducible refine (HA.out _).mono ?_); rintro e w5 ⟨rfl, rfl⟩) | ((with_reducible refine (HB.out _).mono ?_); rintro e w5 ⟨rfl, rfl⟩)) | (with_reducible refine stop_store (ty := 67) rfl ?_))
    show wpList _ _ _ _ _ _
    refine wpList_storeD rfl rfl rfl (cells := #[.slice none 0 0, .int .i64 0, .slice none 0 0, .int .i64 0, .int .i64 0, .float .f32 0, .float .f32 0, .float .f32 0, .float .f32 0, .float .f32 0, .int .i64 0, .float .f32 0, .float .f32 0, .float .f32 0, .float .f32 0, .float .f32 0, .float .f32 0, .float .f32 0]) rfl (F.row m0) uinfoJetI rfl (by simp [Value.oneCell']) (fun w4 K => ?_)
    have R := hid K.row
    have L := hid (F.wr0 K).below
    clear K F
    go_wp2
    exact bodyPost_ret (results_row2 rfl _ _ _ _ _ rfl R.out Try.underlying67 rfl uinfoJetI) rfl ⟨[.slice none 0 0, .int .i64 0, .slice none 0 0, .int .i64 0, .int .i64 0, .float .f32 0, .float .f32 0, .float .f32 0, .float .f32 0, .float .f32 0, .int .i64 0, .float .f32 0, .float .f32 0, .float .f32 0, .float .f32 0, .float .f32 0, .float .f32 0, .float .f32 0], rfl, layJet0 _ _, L.out⟩
  cases e7 : (FloatKind.f32.format.order fr 1065353216 == some .lt || FloatKind.f32.format.order fr 1065353216 == some .eq)
  · clear h
    go_enter Try.func41, Try.ntmps41
    go_wp2_with (first | (go_at_call 56; first | ((with_reducible refine (HA.out _).mono ?_); rintro e w5 ⟨rfl, rfl⟩) | ((with_reducible refine (HB.out _).mono ?_); rintro e w5 ⟨rfl, rfl⟩)) | (with_reducible refine stop_store (ty := 67) rfl ?_))
    show wpList _ _ _ _ _ _
    refine wpList_storeD rfl rfl rfl (cells := #[.slice none 0 0, .int .i64 0, .slice none 0 0, .int .i64 0, .int .i64 0, .float .f32 0, .float .f32 0, .float .f32 0, .float .f32 0, .float .f32 0, .int .i64 0, .float .f32 0, .float .f32 0, .float .f32 0, .float .f32 0, .float .f32 0, .float .f32 0, .float .f32 0]) rfl (F.row m0) uinfoJetI rfl (by simp [Value.oneCell']) (fun w4 K => ?_)
    have R := hid K.row
    have L := hid (F.wr0 K).below
    clear K F
    go_wp2
    exact bodyPost_ret (results_row2 rfl _ _ _ _ _ rfl R.out Try.underlying67 rfl uinfoJetI) rfl ⟨[.slice none 0 0, .int .i64 0, .slice none 0 0, .int .i64 0, .int .i64 0, .float .f32 0, .float .f32 0, .float .f32 0, .float .f32 0, .float .f32 0, .int .i64 0, .float .f32 0, .float .f32 0, .float .f32 0, .float .f32 0, .float .f32 0, .float .f32 0, .float .f32 0], rfl, layJet0 _ _, L.out⟩
  exfalso
  simp only [okNJ, partB, withinB, e0, e1, e2, e3, e4, e5, e6, e7] at h
  exact absurd h (by decide)
set_option maxRecDepth 100000 in
set_option maxHeartbeats 4000000 in
theorem s_NewJet_yes (nx ny kp nr fr : Nat) (w : World) (x1 : 1 ≤ nx) (x2 : nx ≤ 1024) (y1 : 1 ≤ ny) (y2 : ny ≤ 1024) (h3 : partB kp = true) (h4 : withinB nr 3212836864 1065353216 = true) (h5 : withinB fr 3212836864 1065353216 = true) (hkp : fits .f32 kp) (hnr : fits .f32 nr) (hfr : fits .f32 fr) : Calls Try.prog 41 #[.int .i64 (nx : Int), .int .i64 (ny : Int), .float .f32 kp, .float .f32 nr, .float .f32 fr] w (OutV_Ti (cdNJ nx ny kp nr fr) 0 w) := by
  have F := (Frg.nil w).box 67 #[.slice none 0 0, .int .i64 0, .slice none 0 0, .int .i64 0, .int .i64 0, .float .f32 0, .float .f32 0, .float .f32 0, .float .f32 0, .float .f32 0, .int .i64 0, .float .f32 0, .float .f32 0, .float .f32 0, .float .f32 0, .float .f32 0, .float .f32 0, .float .f32 0]
  have HA := hid (fun w' => s_In (nx : Int) 1 1024 w')
  have HB := hid (fun w' => s_In (ny : Int) 1 1024 w')
  have eA : (decide (1 ≤ (nx : Int)) && decide ((nx : Int) ≤ 1024)) = true := by simp only [Bool.and_eq_true, decide_eq_true_eq]; omega
  have eB : (decide (1 ≤ (ny : Int)) && decide ((ny : Int) ≤ 1024)) = true := by simp only [Bool.and_eq_true, decide_eq_true_eq]; omega
  rw [eA] at HA; rw [eB] at HB
  have HM1 := fun w => makeF nx (by omega) w
  have HM2 := fun w => makeF ny (by omega) w
  have HM1h := hid HM1; have HM2h := hid HM2
  simp only [partB, withinB, Bool.and_eq_true] at h3 h4 h5
  obtain ⟨g1, g2⟩ := h3
  obtain ⟨g3, g4⟩ := h4
  obtain ⟨g5, g6⟩ := h5
  clear eA eB HM1 HM2
  go_enter Try.func41, Try.ntmps41
  go_wp2_with ((go_at_call 56; first | ((with_reducible refine (HA.out _).mono ?_); rintro e w5 ⟨rfl, rfl⟩) | ((with_reducible refine (HB.out _).mono ?_); rintro e w5 ⟨rfl, rfl⟩)))
  clear g1 g2 g3 g4 g5 g6
  have G := F.drewN 1
  refine region_tailZ (E := leX) (fun f args z w1 v => (f = 61 → FilV 1 (fop .sub .f32 1065353216 kp) (can .f32 kp) v) ∧ (f = 92 → FilV 5 (can .f32 1065269330) 0 v)) 12 (by kernel_rfl) (by kernel_rfl) ?_
  simp only [List.take_succ_cons, List.take_zero, List.drop_succ_cons, List.drop_zero]
  refine wpFreeZ_one rfl (.int .i64 (nx : Int)) (fun w1 _ => by kernel_rfl) ?_
  simp only [Act.put, List.setIfInBounds_toArray, List.set_cons_succ, List.set_cons_zero]
  refine wpFreeZ_made rfl rfl rfl rfl HM1h.out (fun b1 => ?_)
  simp only [Act.put, List.setIfInBounds_toArray, List.set_cons_succ, List.set_cons_zero]
  refine wpFreeZ_one rfl (.agg #[.slice (some ⟨b1, 0, none⟩) nx nx, .int .i64 0]) (fun w1 _ => by kernel_rfl) ?_
  simp only [Act.put, List.setIfInBounds_toArray, List.set_cons_succ, List.set_cons_zero]
  refine wpFreeZ_one rfl (.int .i64 (ny : Int)) (fun w1 _ => by kernel_rfl) ?_
  simp only [Act.put, List.setIfInBounds_toArray, List.set_cons_succ, List.set_cons_zero]
  refine wpFreeZ_made rfl rfl rfl rfl HM2h.out (fun b2 => ?_)
  simp only [Act.put, List.setIfInBounds_toArray, List.set_cons_succ, List.set_cons_zero]
  refine wpFreeZ_one rfl (.agg #[.slice (some ⟨b2, 0, none⟩) ny ny, .int .i64 0]) (fun w1 _ => by kernel_rfl) ?_
  simp only [Act.put, List.setIfInBounds_toArray, List.set_cons_succ, List.set_cons_zero]
  refine wpFreeZ_one rfl (.float .f32 kp) (fun w1 _ => by kernel_rfl) ?_
  simp only [Act.put, List.setIfInBounds_toArray, List.set_cons_succ, List.set_cons_zero]
  refine wpFreeZ_callW (by kernel_rfl) rfl Try.func61 (by kernel_rfl) (by kernel_rfl) (args := #[.float .f32 kp]) (by simp [Act.eval]) (fun z v w1 w2 hw hv => hv) (fun wc hw1 hbe => ?_) ?_
  · refine (s_OnePoleV kp hkp wc).mono ?_
    rintro e w2 ⟨v, rfl, hv, hl⟩
    exact ⟨_, rfl, hl, ⟨fun _ => hv, fun e => absurd e (by decide)⟩⟩
  rintro v1 ⟨z, wv, _, hv⟩
  obtain ⟨p0, p1, p2, p3, p4, rfl, hC1, hF1⟩ := hv.1 rfl
  have HC1 := hid hC1; have HF1 := hid hF1
  clear hv hC1 hF1
  simp only [Act.put, List.setIfInBounds_toArray, List.set_cons_succ, List.set_cons_zero]
  refine wpFreeZ_callW (by kernel_rfl) rfl Try.func92 (by kernel_rfl) (by kernel_rfl) (args := #[.float .f32 1065269330]) (by simp [Act.eval]) (fun z v w1 w2 hw hv => hv) (fun wc hw1 hbe => ?_) ?_
  · refine (s_BlockDcV 1065269330 (by simp [fits, Lit.wf]) wc).mono ?_
    rintro e w2 ⟨v, rfl, hv, hl⟩
    exact ⟨_, rfl, hl, ⟨fun e => absurd e (by decide), fun _ => hv⟩⟩
  rintro v2 ⟨z, wv, _, hv⟩
  obtain ⟨p5, p6, p7, p8, p9, rfl, hC2, hF2⟩ := hv.2 rfl
  have HC2 := hid hC2; have HF2 := hid hF2
  clear hv hC2 hF2
  simp only [Act.put, List.setIfInBounds_toArray, List.set_cons_succ, List.set_cons_zero]
  refine wpFreeZ_one rfl (.float .f32 nr) (fun w1 _ => by kernel_rfl) ?_
  simp only [Act.put, List.setIfInBounds_toArray, List.set_cons_succ, List.set_cons_zero]
  refine wpFreeZ_one rfl (.float .f32 fr) (fun w1 _ => by kernel_rfl) ?_
  simp only [Act.put, List.setIfInBounds_toArray, List.set_cons_succ, List.set_cons_zero]
  refine wpFreeZ_one rfl (.agg #[.slice (some ⟨b1, 0, none⟩) nx nx, .int .i64 0, .slice (some ⟨b2, 0, none⟩) ny ny, .int .i64 0, .int .i64 1, .float .f32 p0, .float .f32 p1, .float .f32 p2, .float .f32 p3, .float .f32 p4, .int .i64 5, .float .f32 p5, .float .f32 p6, .float .f32 p7, .float .f32 p8, .float .f32 p9, .float .f32 nr, .float .f32 fr]) (fun w1 _ => by kernel_rfl) ?_
  simp only [Act.put, List.setIfInBounds_toArray, List.set_cons_succ, List.set_cons_zero]
  refine wpFreeZ_nil (fun w3 zs hw3 hF hc => ?_)
  obtain ⟨z1, n1, r1⟩ := (hF 1).1.1.1.1.1.1.1.1.1.1.2 rfl
  obtain ⟨z2, n2, r2⟩ := (hF 4).1.1.1.1.1.1.1.2 rfl
  have hne : b1 ≠ b2 := by
    rcases hc 1 4 (by decide) with ⟨wx, _, _, hz, hf⟩ | ⟨wx, _, _, hz, hf⟩
    · have := (hf.1.1.1.1.1.1.1.1.1.1.2 rfl).2.2.lt; omega
    · have := (hf.1.1.1.1.1.1.1.2 rfl).2.2.lt; omega
  rw [← z1] at r1 n1
  rw [← z2] at r2 n2
  simp only [World.heap_drewN, World.size_alloc] at n1 n2
  clear hF hc z1 z2
  replace F := G.le hw3
  clear hw3 G
  refine wpList_storeD rfl rfl rfl (cells := #[.slice (some ⟨b1, 0, none⟩) nx nx, .int .i64 0, .slice (some ⟨b2, 0, none⟩) ny ny, .int .i64 0, .int .i64 1, .float .f32 p0, .float .f32 p1, .float .f32 p2, .float .f32 p3, .float .f32 p4, .int .i64 5, .float .f32 p5, .float .f32 p6, .float .f32 p7, .float .f32 p8, .float .f32 p9, .float .f32 nr, .float .f32 fr]) rfl (F.row m0) uinfoJetI rfl (by simp [Value.oneCell']) (fun w9 K => ?_)
  have R := hid K.row
  have q1 := K.other _ _ _ (by omega) r1
  have q2 := K.other _ _ _ (by omega) r2
  have L := hid (F.wr0 K).below
  have LY := hid (layNJ nx ny kp nr fr (lo := w.heap.size) ⟨b1, b2, own_zero q1 x2 (Nat.le_refl _) (Nat.lt_succ_self _), own_zero q2 y2 (Nat.le_refl _) (Nat.lt_succ_self _), hne, by omega, q1.lt, by omega, q2.lt⟩ HC1.out HF1.out HC2.out HF2.out hnr hfr)
  clear K F r1 r2 q1 q2
  go_wp2
  exact bodyPost_ret (results_row2 rfl _ _ _ _ _ rfl R.out Try.underlying67 rfl uinfoJetI) rfl ⟨[.slice (some ⟨b1, 0, none⟩) nx nx, .int .i64 0, .slice (some ⟨b2, 0, none⟩) ny ny, .int .i64 0, .int .i64 1, .float .f32 p0, .float .f32 p1, .float .f32 p2, .float .f32 p3, .float .f32 p4, .int .i64 5, .float .f32 p5, .float .f32 p6, .float .f32 p7, .float .f32 p8, .float .f32 p9, .float .f32 nr, .float .f32 fr], rfl, LY.out, L.out⟩
theorem both_NewJet (a b : Int) (kp nr fr : Nat) (hkp : fits .f32 kp) (hnr : fits .f32 nr) (hfr : fits .f32 fr) : ∃ (ar0 : List CD) (ar1 : Int), ShOkL shJet ar0 ∧ szL ar0 ≤ 1048576 ∧ (∀ (w : World), Calls Try.prog 41 #[.int .i64 a, .int .i64 b, .float .f32 kp, .float .f32 nr, .float .f32 fr] w (OutV_Ti ar0 ar1 w)) ∧ (∀ (w : World), Calls Try.prog 42 #[.int .i64 a, .int .i64 b, .float .f32 kp, .float .f32 nr, .float .f32 fr] w (OutV_Ti ar0 ar1 w)) := by
  cases h : okNJ a b kp nr fr
  · exact ⟨cdJet (fun _ => 0) (fun _ => 0) 0 0 0 0 0 0 0 0 0 0 0 0 0 0 0 0 0 0, 2, cdJet_sh _ _ _ _ _ _ _ _ _ _ _ _ _ _ _ _ _ _ _ _, by rw [cdJet_sz]; omega, fun w => s_NewJet_no a b kp nr fr w h, fun w => i_NewJet_no a b kp nr fr w h⟩
  · simp only [okNJ, Bool.and_eq_true, decide_eq_true_eq] at h
    obtain ⟨⟨⟨⟨h1, h2⟩, h3⟩, h4⟩, h5⟩ := h
    obtain ⟨nx, rfl⟩ : ∃ n : Nat, a = n := ⟨a.toNat, by omega⟩
    obtain ⟨ny, rfl⟩ : ∃ n : Nat, b = n := ⟨b.toNat, by omega⟩
    exact ⟨cdNJ nx ny kp nr fr, 0, cdNJ_sh _ _ _ _ _, by rw [cdNJ_sz]; omega, fun w => s_NewJet_yes nx ny kp nr fr w (by omega) (by omega) (by omega) (by omega) h3 h4 h5 hkp hnr hfr, fun w => i_NewJet_yes nx ny kp nr fr w (by omega) (by omega) (by omega) (by omega) h3 h4 h5 hkp hnr hfr⟩
end Go.Proofs.Ytgjdmoenobacgaa

/- The walk of 'FnExactNewJet'. -/
namespace Go.Proofs.Ytgjdmoenobacgaa.fnExactNewJet
open Go.RowKit Go.Fk
set_option maxRecDepth 100000 in
set_option maxHeartbeats 4000000 in
theorem core (a0 : Int) (a1 : Int) (a2 : Nat) (a3 : Nat) (a4 : Nat) (ar0 : List CD) (ar1 : Int) (w : World)  (kr : ShOkL shJet ar0) (hzr : szL ar0 ≤ 1048576)
    (hS : ∀ (w : World) , Calls Try.prog 41 #[.int .i64 a0, .int .i64 a1, .float .f32 a2, .float .f32 a3, .float .f32 a4] w (OutV_Ti ar0 ar1 w))
    (hI : ∀ (w : World) , Calls Try.prog 42 #[.int .i64 a0, .int .i64 a1, .float .f32 a2, .float .f32 a3, .float .f32 a4] w (OutV_Ti ar0 ar1 w)) :
    Calls Try.prog 10 #[.int .i64 a0, .int .i64 a1, .float .f32 a2, .float .f32 a3, .float .f32 a4] w fun e w' => e = .returned (.bool true) ∧ Below w.heap.size w w' := by
  have hmr : mtL ar0 ≤ 1048576 := mtU_Jet kr ▸ hzr
  have KR := hid kr; clear kr
  obtain ⟨nb0, hnb0⟩ : ∃ a : Nat, a = mtL ar0 := ⟨_, rfl⟩
  rw [← hnb0] at hmr
  have hq2 : ¬ ((1 : Int) + (nb0 : Int) < 0) := by omega
  have HB0 := hid hnb0; clear hnb0
  have HS := hid hS; have HI := hid hI; clear hS hI
  have F := Frg.nil w
  go_enter Try.func10, Try.ntmps10
  go_wp2_with (first | (((with_reducible refine listN F ?_); clear F; intro wN F)) | fail)
  first | ((with_reducible refine callAt0 F ?_); clear F; intro wN F) | ((with_reducible refine callAtN F ?_); clear F; intro wN F)
  refine (HS.out _  ).mono ?_
  rintro e wS ⟨usS, rfl, oTS, hlS⟩
  have huS : Hid (usS.length = 18) := oTS.1.trans KR.out.1
  have hoS := hid oTS.all_one
  replace F := F.lay1 hlS oTS
  clear hlS oTS
  go_wp2_with (first | (((with_reducible refine listN F ?_); clear F; intro wN F)) | ((with_reducible refine at_store rfl ?_); first | (refine wpList_storeG F rfl rfl rfl rfl rfl (by simp only [List.size_toArray]; rw [huS.out]; exact uinfoJetI) (by simp only [List.size_toArray]; rw [huS.out]; rfl) (by exact hoS.out) ?_; clear F; intro W F zW; clear zW) | (refine wpList_storeG F rfl rfl rfl rfl rfl (by simp only [List.size_toArray]; rw [huI.out]; exact uinfoJetI) (by simp only [List.size_toArray]; rw [huI.out]; rfl) (by exact hoI.out) ?_; clear F; intro W F zW; clear zW) | (refine wpList_storeG F rfl rfl rfl rfl rfl (by simp only [List.size_toArray]; rw [huH.out]; exact uinfoJetI) (by simp only [List.size_toArray]; rw [huH.out]; rfl) (by exact hoH.out) ?_; clear F; intro W F zW; clear zW) | (refine wpList_storeG F rfl rfl rfl rfl rfl (by simp only [List.size_toArray]; rw [huS.out]; exact uinfoJetI) (by simp only [List.size_toArray]; rw [huS.out]; rfl) (by exact hoS.out) ?_; clear F; intro W F zW; clear zW)) | ((with_reducible refine at_loadU rfl rfl ?_); first | (with_reducible refine wpList_loadG F rfl rfl rfl (by first | exact m0 | exact m1 | exact m2 | exact m3 | exact m4 | exact m5 | exact m6 | exact m7 | exact m8 | exact m9 | exact m10 | exact m11 | exact m12 | exact m13 | exact m14 | exact m15 | exact m16 | exact m17) Try.underlying67 rfl uinfoJetI (by simp only [List.size_toArray]; first | exact huS.out | exact huI.out | exact huH.out) ?_) | (with_reducible refine wpList_loadG F rfl rfl rfl (by first | exact m0 | exact m1 | exact m2 | exact m3 | exact m4 | exact m5 | exact m6 | exact m7 | exact m8 | exact m9 | exact m10 | exact m11 | exact m12 | exact m13 | exact m14 | exact m15 | exact m16 | exact m17) Try.underlying74 rfl uinfoJetL (by simp only [List.size_toArray]; first | exact huS.out | exact huI.out | exact huH.out) ?_)) | ((with_reducible refine at_loadV rfl rfl ?_); first | (with_reducible refine wpList_loadGG F rfl rfl (by first | exact m0 | exact m1 | exact m2 | exact m3 | exact m4 | exact m5 | exact m6 | exact m7 | exact m8 | exact m9 | exact m10 | exact m11 | exact m12 | exact m13 | exact m14 | exact m15 | exact m16 | exact m17) Try.underlying67 rfl uinfoJetI (by simp only [List.size_toArray]; first | exact huS.out | exact huI.out | exact huH.out) (by kernel_rfl) ?_)))
  first | ((with_reducible refine callAt0 F ?_); clear F; intro wN F) | ((with_reducible refine callAtN F ?_); clear F; intro wN F)
  refine (HI.out _  ).mono ?_
  rintro e wI ⟨usI, rfl, oTI, hlI⟩
  have huI : Hid (usI.length = 18) := oTI.1.trans KR.out.1
  have hoI := hid oTI.all_one
  replace F := F.lay1 hlI oTI
  clear hlI oTI
  go_wp2_with (first | (((with_reducible refine listN F ?_); clear F; intro wN F)) | ((with_reducible refine at_store rfl ?_); first | (refine wpList_storeG F rfl rfl rfl rfl rfl (by simp only [List.size_toArray]; rw [huS.out]; exact uinfoJetI) (by simp only [List.size_toArray]; rw [huS.out]; rfl) (by exact hoS.out) ?_; clear F; intro W F zW; clear zW) | (refine wpList_storeG F rfl rfl rfl rfl rfl (by simp only [List.size_toArray]; rw [huI.out]; exact uinfoJetI) (by simp only [List.size_toArray]; rw [huI.out]; rfl) (by exact hoI.out) ?_; clear F; intro W F zW; clear zW) | (refine wpList_storeG F rfl rfl rfl rfl rfl (by simp only [List.size_toArray]; rw [huH.out]; exact uinfoJetI) (by simp only [List.size_toArray]; rw [huH.out]; rfl) (by exact hoH.out) ?_; clear F; intro W F zW; clear zW) | (refine wpList_storeG F rfl rfl rfl rfl rfl (by simp only [List.size_toArray]; rw [huS.out]; exact uinfoJetI) (by simp only [List.size_toArray]; rw [huS.out]; rfl) (by exact hoS.out) ?_; clear F; intro W F zW; clear zW)) | ((with_reducible refine at_loadU rfl rfl ?_); first | (with_reducible refine wpList_loadG F rfl rfl rfl (by first | exact m0 | exact m1 | exact m2 | exact m3 | exact m4 | exact m5 | exact m6 | exact m7 | exact m8 | exact m9 | exact m10 | exact m11 | exact m12 | exact m13 | exact m14 | exact m15 | exact m16 | exact m17) Try.underlying67 rfl uinfoJetI (by simp only [List.size_toArray]; first | exact huS.out | exact huI.out | exact huH.out) ?_) | (with_reducible refine wpList_loadG F rfl rfl rfl (by first | exact m0 | exact m1 | exact m2 | exact m3 | exact m4 | exact m5 | exact m6 | exact m7 | exact m8 | exact m9 | exact m10 | exact m11 | exact m12 | exact m13 | exact m14 | exact m15 | exact m16 | exact m17) Try.underlying74 rfl uinfoJetL (by simp only [List.size_toArray]; first | exact huS.out | exact huI.out | exact huH.out) ?_)) | ((with_reducible refine at_loadV rfl rfl ?_); first | (with_reducible refine wpList_loadGG F rfl rfl (by first | exact m0 | exact m1 | exact m2 | exact m3 | exact m4 | exact m5 | exact m6 | exact m7 | exact m8 | exact m9 | exact m10 | exact m11 | exact m12 | exact m13 | exact m14 | exact m15 | exact m16 | exact m17) Try.underlying67 rfl uinfoJetI (by simp only [List.size_toArray]; first | exact huS.out | exact huI.out | exact huH.out) (by kernel_rfl) ?_)) | (go_at_call 43; ((with_reducible refine (eqU_Jet _ _ ar0 _ _ _ (F.layR (by first | exact m0 | exact m1 | exact m2 | exact m3 | exact m4 | exact m5 | exact m6 | exact m7 | exact m8 | exact m9 | exact m10 | exact m11 | exact m12 | exact m13 | exact m14 | exact m15 | exact m16 | exact m17)) (F.layR (by first | exact m0 | exact m1 | exact m2 | exact m3 | exact m4 | exact m5 | exact m6 | exact m7 | exact m8 | exact m9 | exact m10 | exact m11 | exact m12 | exact m13 | exact m14 | exact m15 | exact m16 | exact m17)) KR.out hzr).mono ?_); rintro e w7 ⟨rfl, hb7⟩; replace F := F.le hb7)))
  first | ((with_reducible refine callAt0 F ?_); clear F; intro wN F) | ((with_reducible refine callAtN F ?_); clear F; intro wN F)
  refine (markU_Jet _ _ _ (1 : Int) _ KR.out (by rw [← HB0.out]; exact hmr) (by omega) (by rw [← HB0.out]; omega) (F.lay (by first | exact m0 | exact m1 | exact m2 | exact m3 | exact m4 | exact m5 | exact m6 | exact m7 | exact m8 | exact m9 | exact m10 | exact m11 | exact m12 | exact m13 | exact m14 | exact m15 | exact m16 | exact m17))).mono ?_
  rintro e w5 ⟨rfl, hR, hU⟩
  rw [← HB0.out]
  (first | replace F := F.markAt 0 hR hU rfl | replace F := F.markAt 1 hR hU rfl | replace F := F.markAt 2 hR hU rfl | replace F := F.markAt 3 hR hU rfl | replace F := F.markAt 4 hR hU rfl | replace F := F.markAt 5 hR hU rfl | replace F := F.markAt 6 hR hU rfl | replace F := F.markAt 7 hR hU rfl | replace F := F.markAt 8 hR hU rfl | replace F := F.markAt 9 hR hU rfl | replace F := F.markAt 10 hR hU rfl | replace F := F.markAt 11 hR hU rfl | replace F := F.markAt 12 hR hU rfl | replace F := F.markAt 13 hR hU rfl | replace F := F.markAt 14 hR hU rfl | replace F := F.markAt 15 hR hU rfl | replace F := F.markAt 16 hR hU rfl | replace F := F.markAt 17 hR hU rfl)
  simp only [List.set_cons_succ, List.set_cons_zero] at F
  clear hR hU
  go_wp2_with (first | (((with_reducible refine listN F ?_); clear F; intro wN F)) | ((with_reducible refine at_loadU rfl rfl ?_); first | (with_reducible refine wpList_loadG F rfl rfl rfl (by first | exact m0 | exact m1 | exact m2 | exact m3 | exact m4 | exact m5 | exact m6 | exact m7 | exact m8 | exact m9 | exact m10 | exact m11 | exact m12 | exact m13 | exact m14 | exact m15 | exact m16 | exact m17) Try.underlying67 rfl uinfoJetI (by simp only [List.size_toArray]; first | exact huS.out | exact huI.out | exact huH.out) ?_) | (with_reducible refine wpList_loadG F rfl rfl rfl (by first | exact m0 | exact m1 | exact m2 | exact m3 | exact m4 | exact m5 | exact m6 | exact m7 | exact m8 | exact m9 | exact m10 | exact m11 | exact m12 | exact m13 | exact m14 | exact m15 | exact m16 | exact m17) Try.underlying74 rfl uinfoJetL (by simp only [List.size_toArray]; first | exact huS.out | exact huI.out | exact huH.out) ?_)) | ((with_reducible refine at_loadV rfl rfl ?_); first | (with_reducible refine wpList_loadGG F rfl rfl (by first | exact m0 | exact m1 | exact m2 | exact m3 | exact m4 | exact m5 | exact m6 | exact m7 | exact m8 | exact m9 | exact m10 | exact m11 | exact m12 | exact m13 | exact m14 | exact m15 | exact m16 | exact m17) Try.underlying67 rfl uinfoJetI (by simp only [List.size_toArray]; first | exact huS.out | exact huI.out | exact huH.out) (by kernel_rfl) ?_)) | (go_at_call 45; ((with_reducible refine (heldU_Jet _ ar0 _ (1 : Int) _ KR.out (by rw [← HB0.out]; exact hmr) (by omega) (by rw [← HB0.out]; omega) (F.layR (by first | exact m0 | exact m1 | exact m2 | exact m3 | exact m4 | exact m5 | exact m6 | exact m7 | exact m8 | exact m9 | exact m10 | exact m11 | exact m12 | exact m13 | exact m14 | exact m15 | exact m16 | exact m17))).mono ?_); rintro e w6 ⟨rfl, hb6⟩; rw [← HB0.out]; replace F := F.le hb6)))
  first | ((with_reducible refine callAt0 F ?_); clear F; intro wN F) | ((with_reducible refine callAtN F ?_); clear F; intro wN F)
  refine (HI.out _  ).mono ?_
  rintro e wH ⟨usH, rfl, oTH, hlH⟩
  have huH : Hid (usH.length = 18) := oTH.1.trans KR.out.1
  have hoH := hid oTH.all_one
  replace F := F.lay1 hlH oTH
  clear hlH oTH
  go_wp2_with (first | (((with_reducible refine listN F ?_); clear F; intro wN F)) | ((with_reducible refine at_store rfl ?_); first | (refine wpList_storeG F rfl rfl rfl rfl rfl (by simp only [List.size_toArray]; rw [huS.out]; exact uinfoJetI) (by simp only [List.size_toArray]; rw [huS.out]; rfl) (by exact hoS.out) ?_; clear F; intro W F zW; clear zW) | (refine wpList_storeG F rfl rfl rfl rfl rfl (by simp only [List.size_toArray]; rw [huI.out]; exact uinfoJetI) (by simp only [List.size_toArray]; rw [huI.out]; rfl) (by exact hoI.out) ?_; clear F; intro W F zW; clear zW) | (refine wpList_storeG F rfl rfl rfl rfl rfl (by simp only [List.size_toArray]; rw [huH.out]; exact uinfoJetI) (by simp only [List.size_toArray]; rw [huH.out]; rfl) (by exact hoH.out) ?_; clear F; intro W F zW; clear zW) | (refine wpList_storeG F rfl rfl rfl rfl rfl (by simp only [List.size_toArray]; rw [huS.out]; exact uinfoJetI) (by simp only [List.size_toArray]; rw [huS.out]; rfl) (by exact hoS.out) ?_; clear F; intro W F zW; clear zW)) | ((with_reducible refine at_loadU rfl rfl ?_); first | (with_reducible refine wpList_loadG F rfl rfl rfl (by first | exact m0 | exact m1 | exact m2 | exact m3 | exact m4 | exact m5 | exact m6 | exact m7 | exact m8 | exact m9 | exact m10 | exact m11 | exact m12 | exact m13 | exact m14 | exact m15 | exact m16 | exact m17) Try.underlying67 rfl uinfoJetI (by simp only [List.size_toArray]; first | exact huS.out | exact huI.out | exact huH.out) ?_) | (with_reducible refine wpList_loadG F rfl rfl rfl (by first | exact m0 | exact m1 | exact m2 | exact m3 | exact m4 | exact m5 | exact m6 | exact m7 | exact m8 | exact m9 | exact m10 | exact m11 | exact m12 | exact m13 | exact m14 | exact m15 | exact m16 | exact m17) Try.underlying74 rfl uinfoJetL (by simp only [List.size_toArray]; first | exact huS.out | exact huI.out | exact huH.out) ?_)) | ((with_reducible refine at_loadV rfl rfl ?_); first | (with_reducible refine wpList_loadGG F rfl rfl (by first | exact m0 | exact m1 | exact m2 | exact m3 | exact m4 | exact m5 | exact m6 | exact m7 | exact m8 | exact m9 | exact m10 | exact m11 | exact m12 | exact m13 | exact m14 | exact m15 | exact m16 | exact m17) Try.underlying67 rfl uinfoJetI (by simp only [List.size_toArray]; first | exact huS.out | exact huI.out | exact huH.out) (by kernel_rfl) ?_)) | (go_at_call 43; ((with_reducible refine (eqU_Jet _ _ ar0 _ _ _ (F.layR (by first | exact m0 | exact m1 | exact m2 | exact m3 | exact m4 | exact m5 | exact m6 | exact m7 | exact m8 | exact m9 | exact m10 | exact m11 | exact m12 | exact m13 | exact m14 | exact m15 | exact m16 | exact m17)) (F.layR (by first | exact m0 | exact m1 | exact m2 | exact m3 | exact m4 | exact m5 | exact m6 | exact m7 | exact m8 | exact m9 | exact m10 | exact m11 | exact m12 | exact m13 | exact m14 | exact m15 | exact m16 | exact m17)) KR.out hzr).mono ?_); rintro e w7 ⟨rfl, hb7⟩; replace F := F.le hb7)) | (go_at_call 45; ((with_reducible refine (heldU_Jet _ ar0 _ (1 : Int) _ KR.out (by rw [← HB0.out]; exact hmr) (by omega) (by rw [← HB0.out]; omega) (F.layR (by first | exact m0 | exact m1 | exact m2 | exact m3 | exact m4 | exact m5 | exact m6 | exact m7 | exact m8 | exact m9 | exact m10 | exact m11 | exact m12 | exact m13 | exact m14 | exact m15 | exact m16 | exact m17))).mono ?_); rintro e w6 ⟨rfl, hb6⟩; rw [← HB0.out]; replace F := F.le hb6)))
  go_ret
  first | exact ⟨rfl, F.below⟩ | exact ⟨rfl, below_drewN F.below _⟩
theorem walk (a0 : Int) (a1 : Int) (a2 : Nat) (a3 : Nat) (a4 : Nat) (w : World) (w0 : (Lit.int .i64 a0).wf = true) (w1 : (Lit.int .i64 a1).wf = true) (w2 : fits .f32 a2) (w3 : fits .f32 a3) (w4 : fits .f32 a4) :
    Calls Try.prog 10 #[.int .i64 a0, .int .i64 a1, .float .f32 a2, .float .f32 a3, .float .f32 a4] w fun e w' => e = .returned (.bool true) ∧ Below w.heap.size w w' := by
  obtain ⟨ar0, ar1, kr, hzr, hS, hI⟩ := both_NewJet a0 a1 a2 a3 a4 w2 w3 w4
  exact core a0 a1 a2 a3 a4 ar0 ar1 w  kr hzr  hS hI
end Go.Proofs.Ytgjdmoenobacgaa.fnExactNewJet
