/- Texts of the walk, laid in one file. -/
import Derived.Test.YtnkjmgadnejdlacMe
set_option linter.unusedVariables false
set_option linter.unusedSimpArgs false
/- 'SameScore' of the model. -/
namespace Go.Fk
open Go Go.RowKit
section
variable {P : Program} {w : World} {ops : Array Oper} {rest : List Oper} {o : Oper} {a : Act} {Q : Exit → Act → World → Prop}
/-- A value of one cell is loaded, guarded or not. -/
theorem wpList_load1G {ty : TypeId} {x : Operand} (hop : o.op = .load ty x) {p : Addr} (hx : a.eval x = .pointer (some p)) {v : Value} (hw : Region.wanted o (yielded ops a.tmps) = true) (hc : w.cell? p = some v) (hu : ∀ w, (isAgg ty).run P w = .ok false w)
    (h : wpList P ops Q rest (a.put o.dst v) w) : wpList P ops Q (o :: rest) a w := by
  refine wpList_wanted hw fun K hK' => ?_
  unfold Oper.wp execOp
  have hl : (Instr.loadAt ty (.pointer (some p))).run P w = .ok v w := by
    simp [Instr.loadAt, Instr.sureAddr, loadVar, hu, hc]
  simp [hop, hx, hl, Result.andThen]
  exact hK' _ _ h
end
/-- Are the two floats of a call the same? -/
def sameA (args : Array Value) : Bool := match args.toList with | [.float _ a, .float _ b] => sameB a b | _ => false
theorem tunAt (r b o : Nat) (sD sI sE : Value) : ∀ j, j < [Value.float .f32 b, .float .f32 o, sD].length → (#[Value.float .f32 r, .float .f32 b, .float .f32 o, sD, sI, sE] : Array Value)[1 + j]? = [Value.float .f32 b, .float .f32 o, sD][j]? := fun j hj => by match j, hj with | 0, _ => rfl | 1, _ => rfl | 2, _ => rfl
end Go.Fk
namespace Go.Proofs.Ytnkjmgadnejdlac
open Go.RowKit Go.Fk
def sameSc (r b o : Nat) (xD : Nat → Nat) (nD : Nat) (xI : Nat → CD) (nI : Nat) (xE : Nat → CD) (nE : Nat) (rZ bZ oZ : Nat) (xDZ : Nat → Nat) (nDZ : Nat) (xIZ : Nat → CD) (nIZ : Nat) (xEZ : Nat → CD) (nEZ : Nat) : Bool := sameB r rZ && sameT b o xD nD bZ oZ xDZ nDZ && sameIns xI xIZ nI nIZ && sameEvs xE xEZ nE nEZ
set_option maxRecDepth 100000 in
set_option maxHeartbeats 4000000 in
theorem s_l08SameInstruments (B B' : Nat) (s s' : Value) (x x' : Nat → CD) (n n' : Nat) (w : World) (hs : (CD.sl 5 n x).RdN w B s) (hs' : (CD.sl 5 n' x').RdN w B' s') (hx : InsOk x n) (hx' : InsOk x' n') : Calls Try.prog 60 #[s, s'] w fun e w' => e = .returned (.bool (sameIns x x' n n')) ∧ le w w' := by
  by_cases hne : n = n'
  · subst hne
    rw [sameIns_eq]
    by_cases h0 : n = 0
    · subst h0
      rcases hs.form with ⟨rfl, _⟩ | ⟨b, o, cap, rfl, hc, hm⟩ <;> rcases hs'.form with ⟨rfl, _⟩ | ⟨b', o', cap', rfl, hc', hm'⟩
      all_goals
        clear hs hs'
        go_enter Try.func60, Try.ntmps60
        go_wp2
        go_loop [5] (fun i => i = .int .i64 0) (fun _ => 0)
        case atStart => rfl
        case round =>
          obtain rfl := hrel
          go_wp2
          go_ret
          exact ⟨rfl, le_refl _⟩
    rcases hs.form with ⟨_, e0⟩ | ⟨b, o, cap, rfl, hc, hm⟩
    · exact absurd e0 h0
    rcases hs'.form with ⟨_, e0⟩ | ⟨b', o', cap', rfl, hc', hm'⟩
    · exact absurd e0 h0
    have HA := hid (fun k (hk : k < n) => hx.vals hs hk)
    have HA' := hid (fun k (hk : k < n) => hx'.vals hs' hk)
    unfold maxLen at hm hm'
    clear hx hs hx' hs' h0
    go_enter Try.func60, Try.ntmps60
    go_wp2
    go_loopw [5] (fun i wr => ∃ j : Nat, j ≤ n ∧ i = .int .i64 j ∧ Hid (∀ i, i < j → sameIn x x' i = true) ∧ Hid (le w wr)) (fun i _ => n - (intOf i).toNat)
    case atStart => exact ⟨0, by omega, rfl, fun i hi => absurd hi (by omega), le_refl _⟩
    case round =>
      obtain ⟨j, hj, rfl, HJ, HL⟩ := hrel
      rename_i wr _
      by_cases hlt : j < n
      · obtain ⟨a1, b1, c1, _, ⟨G0, G1, G2⟩, _, cu⟩ := HA.out j hlt
        obtain ⟨a1', b1', c1', _, ⟨Gp0, Gp1, Gp2⟩, _, cu'⟩ := HA'.out j hlt
        have SE : sameI (inT x j) (inT x' j) (inK x j) (inK x' j) a1 a1' b1 b1' c1 c1' = sameIn x x' j := by unfold sameIn; rw [← G0, ← G1, ← G2, ← Gp0, ← Gp1, ← Gp2]; unfold sameI; simp only [sameB_can]
        clear G0 G1 G2 Gp0 Gp1 Gp2
        replace SE := hid SE
        have CU := hid (fun (w' : World) (hl : le wr w') (q : Nat) (v : Value) (hv : [Value.string (inT x j), .int .i64 (inK x j), .float .f32 a1, .float .f32 b1, .float .f32 c1][q]? = some v) => (Below.cell (le_trans HL.out hl) (cell_lt' (cu q v hv))).trans (cu q v hv))
        have CU' := hid (fun (w' : World) (hl : le wr w') (q : Nat) (v : Value) (hv : [Value.string (inT x' j), .int .i64 (inK x' j), .float .f32 a1', .float .f32 b1', .float .f32 c1'][q]? = some v) => (Below.cell (le_trans HL.out hl) (cell_lt' (cu' q v hv))).trans (cu' q v hv))
        have C0 := hid (fun (w' : World) (hl : le wr w') => show w'.cell? ⟨b, o + j * 5, none⟩ = some (.string (inT x j)) by have h := CU.out w' hl 0 _ rfl; rw [add_none] at h; exact h)
        have C1 := hid (fun (w' : World) (hl : le wr w') => show w'.cell? ⟨b, o + j * 5 + 1, none⟩ = some (.int .i64 (inK x j)) by have h := CU.out w' hl 1 _ rfl; rw [add_none] at h; exact h)
        have C2 := hid (fun (w' : World) (hl : le wr w') => show w'.cell? ⟨b, o + j * 5 + 2, none⟩ = some (.float .f32 a1) by have h := CU.out w' hl 2 _ rfl; rw [add_none] at h; exact h)
        have C3 := hid (fun (w' : World) (hl : le wr w') => show w'.cell? ⟨b, o + j * 5 + 3, none⟩ = some (.float .f32 b1) by have h := CU.out w' hl 3 _ rfl; rw [add_none] at h; exact h)
        have C4 := hid (fun (w' : World) (hl : le wr w') => show w'.cell? ⟨b, o + j * 5 + 4, none⟩ = some (.float .f32 c1) by have h := CU.out w' hl 4 _ rfl; rw [add_none] at h; exact h)
        have D0 := hid (fun (w' : World) (hl : le wr w') => show w'.cell? ⟨b', o' + j * 5, none⟩ = some (.string (inT x' j)) by have h := CU'.out w' hl 0 _ rfl; rw [add_none] at h; exact h)
        have D1 := hid (fun (w' : World) (hl : le wr w') => show w'.cell? ⟨b', o' + j * 5 + 1, none⟩ = some (.int .i64 (inK x' j)) by have h := CU'.out w' hl 1 _ rfl; rw [add_none] at h; exact h)
        have D2 := hid (fun (w' : World) (hl : le wr w') => show w'.cell? ⟨b', o' + j * 5 + 2, none⟩ = some (.float .f32 a1') by have h := CU'.out w' hl 2 _ rfl; rw [add_none] at h; exact h)
        have D3 := hid (fun (w' : World) (hl : le wr w') => show w'.cell? ⟨b', o' + j * 5 + 3, none⟩ = some (.float .f32 b1') by have h := CU'.out w' hl 3 _ rfl; rw [add_none] at h; exact h)
        have D4 := hid (fun (w' : World) (hl : le wr w') => show w'.cell? ⟨b', o' + j * 5 + 4, none⟩ = some (.float .f32 c1') by have h := CU'.out w' hl 4 _ rfl; rw [add_none] at h; exact h)
        have H2 := hid (fun (w' : World) => s_l01Same a1 a1' w')
        have H3 := hid (fun (w' : World) => s_l01Same b1 b1' w')
        have H4 := hid (fun (w' : World) => s_l01Same c1 c1' w')
        clear cu cu' CU CU'
        rcases bool_ft (eqT (inT x j) (inT x' j)) with h0 | h0
        · have hb := hid (SE.out.symm.trans (show sameI (inT x j) (inT x' j) (inK x j) (inK x' j) a1 a1' b1 b1' c1 c1' = false by unfold sameI; simp only [h0, Bool.and_false, Bool.false_and, Bool.and_true, Bool.true_and]))
          have n0 := hid (show ((inT x j).toList != (inT x' j).toList) = true by unfold eqT at h0; rw [bne, h0]; rfl)
          clear h0 SE
          go_wp2_with fail
          refine region_freeD (E := leX) (fun _ args _ v => v = .bool (sameA args)) (by kernel_rfl) (by kernel_rfl) ?_
          refine wpFreeD_one rfl (.slice (some ⟨b, o, none⟩) n cap) (fun w1 _ => by kernel_rfl) ?_
          simp only [Act.put, List.setIfInBounds_toArray, List.set_cons_succ, List.set_cons_zero]
          refine wpFreeD_one rfl (.int .i64 j) (fun w1 _ => by kernel_rfl) ?_
          simp only [Act.put, List.setIfInBounds_toArray, List.set_cons_succ, List.set_cons_zero]
          refine wpFreeD_indexW0 rfl rfl rfl rfl Try.underlying67 uinfoInstrumentI hlt ?_
          simp only [Act.put, List.setIfInBounds_toArray, List.set_cons_succ, List.set_cons_zero]
          refine wpFreeD_one rfl (.pointer (some ⟨b, o + j * 5, none⟩)) (fun w1 _ => by kernel_rfl) ?_
          simp only [Act.put, List.setIfInBounds_toArray, List.set_cons_succ, List.set_cons_zero]
          refine wpFreeD_load1 rfl rfl rfl (p := ⟨b, o + j * 5, none⟩) (fun w1 h1 => C0.out w1 (le_trans (le_drewN _ _) h1)) ukindString ?_
          simp only [Act.put, List.setIfInBounds_toArray, List.set_cons_succ, List.set_cons_zero]
          refine wpFreeD_one rfl (.slice (some ⟨b', o', none⟩) n cap') (fun w1 _ => by kernel_rfl) ?_
          simp only [Act.put, List.setIfInBounds_toArray, List.set_cons_succ, List.set_cons_zero]
          refine wpFreeD_one rfl (.int .i64 j) (fun w1 _ => by kernel_rfl) ?_
          simp only [Act.put, List.setIfInBounds_toArray, List.set_cons_succ, List.set_cons_zero]
          refine wpFreeD_indexW0 rfl rfl rfl rfl Try.underlying67 uinfoInstrumentI hlt ?_
          simp only [Act.put, List.setIfInBounds_toArray, List.set_cons_succ, List.set_cons_zero]
          refine wpFreeD_one rfl (.pointer (some ⟨b', o' + j * 5, none⟩)) (fun w1 _ => by kernel_rfl) ?_
          simp only [Act.put, List.setIfInBounds_toArray, List.set_cons_succ, List.set_cons_zero]
          refine wpFreeD_load1 rfl rfl rfl (p := ⟨b', o' + j * 5, none⟩) (fun w1 h1 => D0.out w1 (le_trans (le_drewN _ _) h1)) ukindString ?_
          simp only [Act.put, List.setIfInBounds_toArray, List.set_cons_succ, List.set_cons_zero]
          refine wpFreeD_one rfl (.bool ((inT x j).toList != (inT x' j).toList)) (fun w1 _ => by kernel_rfl) ?_
          simp only [Act.put, List.setIfInBounds_toArray, List.set_cons_succ, List.set_cons_zero]
          rw [n0.out]
          refine wpFreeD_one rfl (.bool true) (fun w1 _ => by kernel_rfl) ?_
          simp only [Act.put, List.setIfInBounds_toArray, List.set_cons_succ, List.set_cons_zero]
          refine wpFreeD_skip (by kernel_rfl) ?_
          simp only [Act.put, List.setIfInBounds_toArray, List.set_cons_succ, List.set_cons_zero]
          refine wpFreeD_skip (by kernel_rfl) ?_
          simp only [Act.put, List.setIfInBounds_toArray, List.set_cons_succ, List.set_cons_zero]
          refine wpFreeD_skip (by kernel_rfl) ?_
          simp only [Act.put, List.setIfInBounds_toArray, List.set_cons_succ, List.set_cons_zero]
          refine wpFreeD_skip (by kernel_rfl) ?_
          simp only [Act.put, List.setIfInBounds_toArray, List.set_cons_succ, List.set_cons_zero]
          refine wpFreeD_skip (by kernel_rfl) ?_
          simp only [Act.put, List.setIfInBounds_toArray, List.set_cons_succ, List.set_cons_zero]
          refine wpFreeD_skip (by kernel_rfl) ?_
          simp only [Act.put, List.setIfInBounds_toArray, List.set_cons_succ, List.set_cons_zero]
          refine wpFreeD_skip (by kernel_rfl) ?_
          simp only [Act.put, List.setIfInBounds_toArray, List.set_cons_succ, List.set_cons_zero]
          refine wpFreeD_skip (by kernel_rfl) ?_
          simp only [Act.put, List.setIfInBounds_toArray, List.set_cons_succ, List.set_cons_zero]
          refine wpFreeD_skip (by kernel_rfl) ?_
          simp only [Act.put, List.setIfInBounds_toArray, List.set_cons_succ, List.set_cons_zero]
          refine wpFreeD_skip (by kernel_rfl) ?_
          simp only [Act.put, List.setIfInBounds_toArray, List.set_cons_succ, List.set_cons_zero]
          refine wpFreeD_skip (by kernel_rfl) ?_
          simp only [Act.put, List.setIfInBounds_toArray, List.set_cons_succ, List.set_cons_zero]
          refine wpFreeD_one rfl (.bool true) (fun w1 _ => by kernel_rfl) ?_
          simp only [Act.put, List.setIfInBounds_toArray, List.set_cons_succ, List.set_cons_zero]
          refine wpFreeD_one rfl (.bool true) (fun w1 _ => by kernel_rfl) ?_
          simp only [Act.put, List.setIfInBounds_toArray, List.set_cons_succ, List.set_cons_zero]
          refine wpFreeD_skip (by kernel_rfl) ?_
          simp only [Act.put, List.setIfInBounds_toArray, List.set_cons_succ, List.set_cons_zero]
          refine wpFreeD_skip (by kernel_rfl) ?_
          simp only [Act.put, List.setIfInBounds_toArray, List.set_cons_succ, List.set_cons_zero]
          refine wpFreeD_skip (by kernel_rfl) ?_
          simp only [Act.put, List.setIfInBounds_toArray, List.set_cons_succ, List.set_cons_zero]
          refine wpFreeD_skip (by kernel_rfl) ?_
          simp only [Act.put, List.setIfInBounds_toArray, List.set_cons_succ, List.set_cons_zero]
          refine wpFreeD_skip (by kernel_rfl) ?_
          simp only [Act.put, List.setIfInBounds_toArray, List.set_cons_succ, List.set_cons_zero]
          refine wpFreeD_skip (by kernel_rfl) ?_
          simp only [Act.put, List.setIfInBounds_toArray, List.set_cons_succ, List.set_cons_zero]
          refine wpFreeD_skip (by kernel_rfl) ?_
          simp only [Act.put, List.setIfInBounds_toArray, List.set_cons_succ, List.set_cons_zero]
          refine wpFreeD_skip (by kernel_rfl) ?_
          simp only [Act.put, List.setIfInBounds_toArray, List.set_cons_succ, List.set_cons_zero]
          refine wpFreeD_skip (by kernel_rfl) ?_
          simp only [Act.put, List.setIfInBounds_toArray, List.set_cons_succ, List.set_cons_zero]
          refine wpFreeD_skip (by kernel_rfl) ?_
          simp only [Act.put, List.setIfInBounds_toArray, List.set_cons_succ, List.set_cons_zero]
          refine wpFreeD_skip (by kernel_rfl) ?_
          simp only [Act.put, List.setIfInBounds_toArray, List.set_cons_succ, List.set_cons_zero]
          refine wpFreeD_skip (by kernel_rfl) ?_
          simp only [Act.put, List.setIfInBounds_toArray, List.set_cons_succ, List.set_cons_zero]
          refine wpFreeD_one rfl (.bool true) (fun w1 _ => by kernel_rfl) ?_
          simp only [Act.put, List.setIfInBounds_toArray, List.set_cons_succ, List.set_cons_zero]
          refine wpFreeD_one rfl (.bool true) (fun w1 _ => by kernel_rfl) ?_
          simp only [Act.put, List.setIfInBounds_toArray, List.set_cons_succ, List.set_cons_zero]
          refine wpFreeD_skip (by kernel_rfl) ?_
          simp only [Act.put, List.setIfInBounds_toArray, List.set_cons_succ, List.set_cons_zero]
          refine wpFreeD_skip (by kernel_rfl) ?_
          simp only [Act.put, List.setIfInBounds_toArray, List.set_cons_succ, List.set_cons_zero]
          refine wpFreeD_skip (by kernel_rfl) ?_
          simp only [Act.put, List.setIfInBounds_toArray, List.set_cons_succ, List.set_cons_zero]
          refine wpFreeD_skip (by kernel_rfl) ?_
          simp only [Act.put, List.setIfInBounds_toArray, List.set_cons_succ, List.set_cons_zero]
          refine wpFreeD_skip (by kernel_rfl) ?_
          simp only [Act.put, List.setIfInBounds_toArray, List.set_cons_succ, List.set_cons_zero]
          refine wpFreeD_skip (by kernel_rfl) ?_
          simp only [Act.put, List.setIfInBounds_toArray, List.set_cons_succ, List.set_cons_zero]
          refine wpFreeD_skip (by kernel_rfl) ?_
          simp only [Act.put, List.setIfInBounds_toArray, List.set_cons_succ, List.set_cons_zero]
          refine wpFreeD_skip (by kernel_rfl) ?_
          simp only [Act.put, List.setIfInBounds_toArray, List.set_cons_succ, List.set_cons_zero]
          refine wpFreeD_skip (by kernel_rfl) ?_
          simp only [Act.put, List.setIfInBounds_toArray, List.set_cons_succ, List.set_cons_zero]
          refine wpFreeD_skip (by kernel_rfl) ?_
          simp only [Act.put, List.setIfInBounds_toArray, List.set_cons_succ, List.set_cons_zero]
          refine wpFreeD_skip (by kernel_rfl) ?_
          simp only [Act.put, List.setIfInBounds_toArray, List.set_cons_succ, List.set_cons_zero]
          refine wpFreeD_skip (by kernel_rfl) ?_
          simp only [Act.put, List.setIfInBounds_toArray, List.set_cons_succ, List.set_cons_zero]
          refine wpFreeD_one rfl (.bool true) (fun w1 _ => by kernel_rfl) ?_
          simp only [Act.put, List.setIfInBounds_toArray, List.set_cons_succ, List.set_cons_zero]
          refine wpFreeD_one rfl (.bool true) (fun w1 _ => by kernel_rfl) ?_
          simp only [Act.put, List.setIfInBounds_toArray, List.set_cons_succ, List.set_cons_zero]
          refine wpFreeD_skip (by kernel_rfl) ?_
          simp only [Act.put, List.setIfInBounds_toArray, List.set_cons_succ, List.set_cons_zero]
          refine wpFreeD_skip (by kernel_rfl) ?_
          simp only [Act.put, List.setIfInBounds_toArray, List.set_cons_succ, List.set_cons_zero]
          refine wpFreeD_skip (by kernel_rfl) ?_
          simp only [Act.put, List.setIfInBounds_toArray, List.set_cons_succ, List.set_cons_zero]
          refine wpFreeD_skip (by kernel_rfl) ?_
          simp only [Act.put, List.setIfInBounds_toArray, List.set_cons_succ, List.set_cons_zero]
          refine wpFreeD_skip (by kernel_rfl) ?_
          simp only [Act.put, List.setIfInBounds_toArray, List.set_cons_succ, List.set_cons_zero]
          refine wpFreeD_skip (by kernel_rfl) ?_
          simp only [Act.put, List.setIfInBounds_toArray, List.set_cons_succ, List.set_cons_zero]
          refine wpFreeD_skip (by kernel_rfl) ?_
          simp only [Act.put, List.setIfInBounds_toArray, List.set_cons_succ, List.set_cons_zero]
          refine wpFreeD_skip (by kernel_rfl) ?_
          simp only [Act.put, List.setIfInBounds_toArray, List.set_cons_succ, List.set_cons_zero]
          refine wpFreeD_skip (by kernel_rfl) ?_
          simp only [Act.put, List.setIfInBounds_toArray, List.set_cons_succ, List.set_cons_zero]
          refine wpFreeD_skip (by kernel_rfl) ?_
          simp only [Act.put, List.setIfInBounds_toArray, List.set_cons_succ, List.set_cons_zero]
          refine wpFreeD_skip (by kernel_rfl) ?_
          simp only [Act.put, List.setIfInBounds_toArray, List.set_cons_succ, List.set_cons_zero]
          refine wpFreeD_skip (by kernel_rfl) ?_
          simp only [Act.put, List.setIfInBounds_toArray, List.set_cons_succ, List.set_cons_zero]
          refine wpFreeD_one rfl (.bool true) (fun w1 _ => by kernel_rfl) ?_
          simp only [Act.put, List.setIfInBounds_toArray, List.set_cons_succ, List.set_cons_zero]
          refine wpFreeD_nil (fun wR hwR _ => ?_)
          have HL1 := hid (le_trans HL.out (le_trans (le_drewN _ _) hwR))
          clear hwR
          go_wp2
          go_ret
          exact ⟨ret_b (allB_no hlt hb.out).symm, HL1.out⟩
        have p0 := hid h0
        have n0 := hid (show ((inT x j).toList != (inT x' j).toList) = false by unfold eqT at h0; rw [bne, h0]; rfl)
        clear h0
        rcases bool_ft ((inK x j == inK x' j)) with h1 | h1
        · have hb := hid (SE.out.symm.trans (show sameI (inT x j) (inT x' j) (inK x j) (inK x' j) a1 a1' b1 b1' c1 c1' = false by unfold sameI; simp only [p0.out, h1, Bool.and_false, Bool.false_and, Bool.and_true, Bool.true_and]))
          have n1 := hid (show (inK x j != inK x' j) = true by rw [bne, h1]; rfl)
          clear h1 SE
          go_wp2_with fail
          refine region_freeD (E := leX) (fun _ args _ v => v = .bool (sameA args)) (by kernel_rfl) (by kernel_rfl) ?_
          refine wpFreeD_one rfl (.slice (some ⟨b, o, none⟩) n cap) (fun w1 _ => by kernel_rfl) ?_
          simp only [Act.put, List.setIfInBounds_toArray, List.set_cons_succ, List.set_cons_zero]
          refine wpFreeD_one rfl (.int .i64 j) (fun w1 _ => by kernel_rfl) ?_
          simp only [Act.put, List.setIfInBounds_toArray, List.set_cons_succ, List.set_cons_zero]
          refine wpFreeD_indexW0 rfl rfl rfl rfl Try.underlying67 uinfoInstrumentI hlt ?_
          simp only [Act.put, List.setIfInBounds_toArray, List.set_cons_succ, List.set_cons_zero]
          refine wpFreeD_one rfl (.pointer (some ⟨b, o + j * 5, none⟩)) (fun w1 _ => by kernel_rfl) ?_
          simp only [Act.put, List.setIfInBounds_toArray, List.set_cons_succ, List.set_cons_zero]
          refine wpFreeD_load1 rfl rfl rfl (p := ⟨b, o + j * 5, none⟩) (fun w1 h1 => C0.out w1 (le_trans (le_drewN _ _) h1)) ukindString ?_
          simp only [Act.put, List.setIfInBounds_toArray, List.set_cons_succ, List.set_cons_zero]
          refine wpFreeD_one rfl (.slice (some ⟨b', o', none⟩) n cap') (fun w1 _ => by kernel_rfl) ?_
          simp only [Act.put, List.setIfInBounds_toArray, List.set_cons_succ, List.set_cons_zero]
          refine wpFreeD_one rfl (.int .i64 j) (fun w1 _ => by kernel_rfl) ?_
          simp only [Act.put, List.setIfInBounds_toArray, List.set_cons_succ, List.set_cons_zero]
          refine wpFreeD_indexW0 rfl rfl rfl rfl Try.underlying67 uinfoInstrumentI hlt ?_
          simp only [Act.put, List.setIfInBounds_toArray, List.set_cons_succ, List.set_cons_zero]
          refine wpFreeD_one rfl (.pointer (some ⟨b', o' + j * 5, none⟩)) (fun w1 _ => by kernel_rfl) ?_
          simp only [Act.put, List.setIfInBounds_toArray, List.set_cons_succ, List.set_cons_zero]
          refine wpFreeD_load1 rfl rfl rfl (p := ⟨b', o' + j * 5, none⟩) (fun w1 h1 => D0.out w1 (le_trans (le_drewN _ _) h1)) ukindString ?_
          simp only [Act.put, List.setIfInBounds_toArray, List.set_cons_succ, List.set_cons_zero]
          refine wpFreeD_one rfl (.bool ((inT x j).toList != (inT x' j).toList)) (fun w1 _ => by kernel_rfl) ?_
          simp only [Act.put, List.setIfInBounds_toArray, List.set_cons_succ, List.set_cons_zero]
          rw [n0.out]
          refine wpFreeD_one rfl (.bool false) (fun w1 _ => by kernel_rfl) ?_
          simp only [Act.put, List.setIfInBounds_toArray, List.set_cons_succ, List.set_cons_zero]
          refine wpFreeD_oneW (by kernel_rfl) (.slice (some ⟨b, o, none⟩) n cap) (fun w1 _ => by kernel_rfl) ?_
          simp only [Act.put, List.setIfInBounds_toArray, List.set_cons_succ, List.set_cons_zero]
          refine wpFreeD_oneW (by kernel_rfl) (.int .i64 j) (fun w1 _ => by kernel_rfl) ?_
          simp only [Act.put, List.setIfInBounds_toArray, List.set_cons_succ, List.set_cons_zero]
          refine wpFreeD_indexWG (by kernel_rfl) rfl rfl rfl Try.underlying67 uinfoInstrumentI hlt ?_
          simp only [Act.put, List.setIfInBounds_toArray, List.set_cons_succ, List.set_cons_zero]
          refine wpFreeD_oneW (by kernel_rfl) (.pointer (some ⟨b, o + j * 5 + 1, none⟩)) (fun w1 _ => by kernel_rfl) ?_
          simp only [Act.put, List.setIfInBounds_toArray, List.set_cons_succ, List.set_cons_zero]
          refine wpFreeD_load1W (by kernel_rfl) rfl rfl (p := ⟨b, o + j * 5 + 1, none⟩) (fun w1 h1 => C1.out w1 (le_trans (le_drewN _ _) h1)) ukindInt64 ?_
          simp only [Act.put, List.setIfInBounds_toArray, List.set_cons_succ, List.set_cons_zero]
          refine wpFreeD_oneW (by kernel_rfl) (.slice (some ⟨b', o', none⟩) n cap') (fun w1 _ => by kernel_rfl) ?_
          simp only [Act.put, List.setIfInBounds_toArray, List.set_cons_succ, List.set_cons_zero]
          refine wpFreeD_oneW (by kernel_rfl) (.int .i64 j) (fun w1 _ => by kernel_rfl) ?_
          simp only [Act.put, List.setIfInBounds_toArray, List.set_cons_succ, List.set_cons_zero]
          refine wpFreeD_indexWG (by kernel_rfl) rfl rfl rfl Try.underlying67 uinfoInstrumentI hlt ?_
          simp only [Act.put, List.setIfInBounds_toArray, List.set_cons_succ, List.set_cons_zero]
          refine wpFreeD_oneW (by kernel_rfl) (.pointer (some ⟨b', o' + j * 5 + 1, none⟩)) (fun w1 _ => by kernel_rfl) ?_
          simp only [Act.put, List.setIfInBounds_toArray, List.set_cons_succ, List.set_cons_zero]
          refine wpFreeD_load1W (by kernel_rfl) rfl rfl (p := ⟨b', o' + j * 5 + 1, none⟩) (fun w1 h1 => D1.out w1 (le_trans (le_drewN _ _) h1)) ukindInt64 ?_
          simp only [Act.put, List.setIfInBounds_toArray, List.set_cons_succ, List.set_cons_zero]
          refine wpFreeD_oneW (by kernel_rfl) (.bool (inK x j != inK x' j)) (fun w1 _ => by kernel_rfl) ?_
          simp only [Act.put, List.setIfInBounds_toArray, List.set_cons_succ, List.set_cons_zero]
          rw [n1.out]
          refine wpFreeD_one rfl (.bool true) (fun w1 _ => by kernel_rfl) ?_
          simp only [Act.put, List.setIfInBounds_toArray, List.set_cons_succ, List.set_cons_zero]
          refine wpFreeD_one rfl (.bool true) (fun w1 _ => by kernel_rfl) ?_
          simp only [Act.put, List.setIfInBounds_toArray, List.set_cons_succ, List.set_cons_zero]
          refine wpFreeD_skip (by kernel_rfl) ?_
          simp only [Act.put, List.setIfInBounds_toArray, List.set_cons_succ, List.set_cons_zero]
          refine wpFreeD_skip (by kernel_rfl) ?_
          simp only [Act.put, List.setIfInBounds_toArray, List.set_cons_succ, List.set_cons_zero]
          refine wpFreeD_skip (by kernel_rfl) ?_
          simp only [Act.put, List.setIfInBounds_toArray, List.set_cons_succ, List.set_cons_zero]
          refine wpFreeD_skip (by kernel_rfl) ?_
          simp only [Act.put, List.setIfInBounds_toArray, List.set_cons_succ, List.set_cons_zero]
          refine wpFreeD_skip (by kernel_rfl) ?_
          simp only [Act.put, List.setIfInBounds_toArray, List.set_cons_succ, List.set_cons_zero]
          refine wpFreeD_skip (by kernel_rfl) ?_
          simp only [Act.put, List.setIfInBounds_toArray, List.set_cons_succ, List.set_cons_zero]
          refine wpFreeD_skip (by kernel_rfl) ?_
          simp only [Act.put, List.setIfInBounds_toArray, List.set_cons_succ, List.set_cons_zero]
          refine wpFreeD_skip (by kernel_rfl) ?_
          simp only [Act.put, List.setIfInBounds_toArray, List.set_cons_succ, List.set_cons_zero]
          refine wpFreeD_skip (by kernel_rfl) ?_
          simp only [Act.put, List.setIfInBounds_toArray, List.set_cons_succ, List.set_cons_zero]
          refine wpFreeD_skip (by kernel_rfl) ?_
          simp only [Act.put, List.setIfInBounds_toArray, List.set_cons_succ, List.set_cons_zero]
          refine wpFreeD_skip (by kernel_rfl) ?_
          simp only [Act.put, List.setIfInBounds_toArray, List.set_cons_succ, List.set_cons_zero]
          refine wpFreeD_skip (by kernel_rfl) ?_
          simp only [Act.put, List.setIfInBounds_toArray, List.set_cons_succ, List.set_cons_zero]
          refine wpFreeD_one rfl (.bool true) (fun w1 _ => by kernel_rfl) ?_
          simp only [Act.put, List.setIfInBounds_toArray, List.set_cons_succ, List.set_cons_zero]
          refine wpFreeD_one rfl (.bool true) (fun w1 _ => by kernel_rfl) ?_
          simp only [Act.put, List.setIfInBounds_toArray, List.set_cons_succ, List.set_cons_zero]
          refine wpFreeD_skip (by kernel_rfl) ?_
          simp only [Act.put, List.setIfInBounds_toArray, List.set_cons_succ, List.set_cons_zero]
          refine wpFreeD_skip (by kernel_rfl) ?_
          simp only [Act.put, List.setIfInBounds_toArray, List.set_cons_succ, List.set_cons_zero]
          refine wpFreeD_skip (by kernel_rfl) ?_
          simp only [Act.put, List.setIfInBounds_toArray, List.set_cons_succ, List.set_cons_zero]
          refine wpFreeD_skip (by kernel_rfl) ?_
          simp only [Act.put, List.setIfInBounds_toArray, List.set_cons_succ, List.set_cons_zero]
          refine wpFreeD_skip (by kernel_rfl) ?_
          simp only [Act.put, List.setIfInBounds_toArray, List.set_cons_succ, List.set_cons_zero]
          refine wpFreeD_skip (by kernel_rfl) ?_
          simp only [Act.put, List.setIfInBounds_toArray, List.set_cons_succ, List.set_cons_zero]
          refine wpFreeD_skip (by kernel_rfl) ?_
          simp only [Act.put, List.setIfInBounds_toArray, List.set_cons_succ, List.set_cons_zero]
          refine wpFreeD_skip (by kernel_rfl) ?_
          simp only [Act.put, List.setIfInBounds_toArray, List.set_cons_succ, List.set_cons_zero]
          refine wpFreeD_skip (by kernel_rfl) ?_
          simp only [Act.put, List.setIfInBounds_toArray, List.set_cons_succ, List.set_cons_zero]
          refine wpFreeD_skip (by kernel_rfl) ?_
          simp only [Act.put, List.setIfInBounds_toArray, List.set_cons_succ, List.set_cons_zero]
          refine wpFreeD_skip (by kernel_rfl) ?_
          simp only [Act.put, List.setIfInBounds_toArray, List.set_cons_succ, List.set_cons_zero]
          refine wpFreeD_skip (by kernel_rfl) ?_
          simp only [Act.put, List.setIfInBounds_toArray, List.set_cons_succ, List.set_cons_zero]
          refine wpFreeD_one rfl (.bool true) (fun w1 _ => by kernel_rfl) ?_
          simp only [Act.put, List.setIfInBounds_toArray, List.set_cons_succ, List.set_cons_zero]
          refine wpFreeD_one rfl (.bool true) (fun w1 _ => by kernel_rfl) ?_
          simp only [Act.put, List.setIfInBounds_toArray, List.set_cons_succ, List.set_cons_zero]
          refine wpFreeD_skip (by kernel_rfl) ?_
          simp only [Act.put, List.setIfInBounds_toArray, List.set_cons_succ, List.set_cons_zero]
          refine wpFreeD_skip (by kernel_rfl) ?_
          simp only [Act.put, List.setIfInBounds_toArray, List.set_cons_succ, List.set_cons_zero]
          refine wpFreeD_skip (by kernel_rfl) ?_
          simp only [Act.put, List.setIfInBounds_toArray, List.set_cons_succ, List.set_cons_zero]
          refine wpFreeD_skip (by kernel_rfl) ?_
          simp only [Act.put, List.setIfInBounds_toArray, List.set_cons_succ, List.set_cons_zero]
          refine wpFreeD_skip (by kernel_rfl) ?_
          simp only [Act.put, List.setIfInBounds_toArray, List.set_cons_succ, List.set_cons_zero]
          refine wpFreeD_skip (by kernel_rfl) ?_
          simp only [Act.put, List.setIfInBounds_toArray, List.set_cons_succ, List.set_cons_zero]
          refine wpFreeD_skip (by kernel_rfl) ?_
          simp only [Act.put, List.setIfInBounds_toArray, List.set_cons_succ, List.set_cons_zero]
          refine wpFreeD_skip (by kernel_rfl) ?_
          simp only [Act.put, List.setIfInBounds_toArray, List.set_cons_succ, List.set_cons_zero]
          refine wpFreeD_skip (by kernel_rfl) ?_
          simp only [Act.put, List.setIfInBounds_toArray, List.set_cons_succ, List.set_cons_zero]
          refine wpFreeD_skip (by kernel_rfl) ?_
          simp only [Act.put, List.setIfInBounds_toArray, List.set_cons_succ, List.set_cons_zero]
          refine wpFreeD_skip (by kernel_rfl) ?_
          simp only [Act.put, List.setIfInBounds_toArray, List.set_cons_succ, List.set_cons_zero]
          refine wpFreeD_skip (by kernel_rfl) ?_
          simp only [Act.put, List.setIfInBounds_toArray, List.set_cons_succ, List.set_cons_zero]
          refine wpFreeD_one rfl (.bool true) (fun w1 _ => by kernel_rfl) ?_
          simp only [Act.put, List.setIfInBounds_toArray, List.set_cons_succ, List.set_cons_zero]
          refine wpFreeD_nil (fun wR hwR _ => ?_)
          have HL1 := hid (le_trans HL.out (le_trans (le_drewN _ _) hwR))
          clear hwR
          go_wp2
          go_ret
          exact ⟨ret_b (allB_no hlt hb.out).symm, HL1.out⟩
        have p1 := hid h1
        have n1 := hid (show (inK x j != inK x' j) = false by rw [bne, h1]; rfl)
        clear h1
        rcases bool_ft (sameB a1 a1') with h2 | h2
        · have hb := hid (SE.out.symm.trans (show sameI (inT x j) (inT x' j) (inK x j) (inK x' j) a1 a1' b1 b1' c1 c1' = false by unfold sameI; simp only [p0.out, p1.out, h2, Bool.and_false, Bool.false_and, Bool.and_true, Bool.true_and]))
          have n2 := hid h2
          clear h2 SE
          go_wp2_with fail
          refine region_freeD (E := leX) (fun _ args _ v => v = .bool (sameA args)) (by kernel_rfl) (by kernel_rfl) ?_
          refine wpFreeD_one rfl (.slice (some ⟨b, o, none⟩) n cap) (fun w1 _ => by kernel_rfl) ?_
          simp only [Act.put, List.setIfInBounds_toArray, List.set_cons_succ, List.set_cons_zero]
          refine wpFreeD_one rfl (.int .i64 j) (fun w1 _ => by kernel_rfl) ?_
          simp only [Act.put, List.setIfInBounds_toArray, List.set_cons_succ, List.set_cons_zero]
          refine wpFreeD_indexW0 rfl rfl rfl rfl Try.underlying67 uinfoInstrumentI hlt ?_
          simp only [Act.put, List.setIfInBounds_toArray, List.set_cons_succ, List.set_cons_zero]
          refine wpFreeD_one rfl (.pointer (some ⟨b, o + j * 5, none⟩)) (fun w1 _ => by kernel_rfl) ?_
          simp only [Act.put, List.setIfInBounds_toArray, List.set_cons_succ, List.set_cons_zero]
          refine wpFreeD_load1 rfl rfl rfl (p := ⟨b, o + j * 5, none⟩) (fun w1 h1 => C0.out w1 (le_trans (le_drewN _ _) h1)) ukindString ?_
          simp only [Act.put, List.setIfInBounds_toArray, List.set_cons_succ, List.set_cons_zero]
          refine wpFreeD_one rfl (.slice (some ⟨b', o', none⟩) n cap') (fun w1 _ => by kernel_rfl) ?_
          simp only [Act.put, List.setIfInBounds_toArray, List.set_cons_succ, List.set_cons_zero]
          refine wpFreeD_one rfl (.int .i64 j) (fun w1 _ => by kernel_rfl) ?_
          simp only [Act.put, List.setIfInBounds_toArray, List.set_cons_succ, List.set_cons_zero]
          refine wpFreeD_indexW0 rfl rfl rfl rfl Try.underlying67 uinfoInstrumentI hlt ?_
          simp only [Act.put, List.setIfInBounds_toArray, List.set_cons_succ, List.set_cons_zero]
          refine wpFreeD_one rfl (.pointer (some ⟨b', o' + j * 5, none⟩)) (fun w1 _ => by kernel_rfl) ?_
          simp only [Act.put, List.setIfInBounds_toArray, List.set_cons_succ, List.set_cons_zero]
          refine wpFreeD_load1 rfl rfl rfl (p := ⟨b', o' + j * 5, none⟩) (fun w1 h1 => D0.out w1 (le_trans (le_drewN _ _) h1)) ukindString ?_
          simp only [Act.put, List.setIfInBounds_toArray, List.set_cons_succ, List.set_cons_zero]
          refine wpFreeD_one rfl (.bool ((inT x j).toList != (inT x' j).toList)) (fun w1 _ => by kernel_rfl) ?_
          simp only [Act.put, List.setIfInBounds_toArray, List.set_cons_succ, List.set_cons_zero]
          rw [n0.out]
          refine wpFreeD_one rfl (.bool false) (fun w1 _ => by kernel_rfl) ?_
          simp only [Act.put, List.setIfInBounds_toArray, List.set_cons_succ, List.set_cons_zero]
          refine wpFreeD_oneW (by kernel_rfl) (.slice (some ⟨b, o, none⟩) n cap) (fun w1 _ => by kernel_rfl) ?_
          simp only [Act.put, List.setIfInBounds_toArray, List.set_cons_succ, List.set_cons_zero]
          refine wpFreeD_oneW (by kernel_rfl) (.int .i64 j) (fun w1 _ => by kernel_rfl) ?_
          simp only [Act.put, List.setIfInBounds_toArray, List.set_cons_succ, List.set_cons_zero]
          refine wpFreeD_indexWG (by kernel_rfl) rfl rfl rfl Try.underlying67 uinfoInstrumentI hlt ?_
          simp only [Act.put, List.setIfInBounds_toArray, List.set_cons_succ, List.set_cons_zero]
          refine wpFreeD_oneW (by kernel_rfl) (.pointer (some ⟨b, o + j * 5 + 1, none⟩)) (fun w1 _ => by kernel_rfl) ?_
          simp only [Act.put, List.setIfInBounds_toArray, List.set_cons_succ, List.set_cons_zero]
          refine wpFreeD_load1W (by kernel_rfl) rfl rfl (p := ⟨b, o + j * 5 + 1, none⟩) (fun w1 h1 => C1.out w1 (le_trans (le_drewN _ _) h1)) ukindInt64 ?_
          simp only [Act.put, List.setIfInBounds_toArray, List.set_cons_succ, List.set_cons_zero]
          refine wpFreeD_oneW (by kernel_rfl) (.slice (some ⟨b', o', none⟩) n cap') (fun w1 _ => by kernel_rfl) ?_
          simp only [Act.put, List.setIfInBounds_toArray, List.set_cons_succ, List.set_cons_zero]
          refine wpFreeD_oneW (by kernel_rfl) (.int .i64 j) (fun w1 _ => by kernel_rfl) ?_
          simp only [Act.put, List.setIfInBounds_toArray, List.set_cons_succ, List.set_cons_zero]
          refine wpFreeD_indexWG (by kernel_rfl) rfl rfl rfl Try.underlying67 uinfoInstrumentI hlt ?_
          simp only [Act.put, List.setIfInBounds_toArray, List.set_cons_succ, List.set_cons_zero]
          refine wpFreeD_oneW (by kernel_rfl) (.pointer (some ⟨b', o' + j * 5 + 1, none⟩)) (fun w1 _ => by kernel_rfl) ?_
          simp only [Act.put, List.setIfInBounds_toArray, List.set_cons_succ, List.set_cons_zero]
          refine wpFreeD_load1W (by kernel_rfl) rfl rfl (p := ⟨b', o' + j * 5 + 1, none⟩) (fun w1 h1 => D1.out w1 (le_trans (le_drewN _ _) h1)) ukindInt64 ?_
          simp only [Act.put, List.setIfInBounds_toArray, List.set_cons_succ, List.set_cons_zero]
          refine wpFreeD_oneW (by kernel_rfl) (.bool (inK x j != inK x' j)) (fun w1 _ => by kernel_rfl) ?_
          simp only [Act.put, List.setIfInBounds_toArray, List.set_cons_succ, List.set_cons_zero]
          rw [n1.out]
          refine wpFreeD_one rfl (.bool false) (fun w1 _ => by kernel_rfl) ?_
          simp only [Act.put, List.setIfInBounds_toArray, List.set_cons_succ, List.set_cons_zero]
          refine wpFreeD_one rfl (.bool false) (fun w1 _ => by kernel_rfl) ?_
          simp only [Act.put, List.setIfInBounds_toArray, List.set_cons_succ, List.set_cons_zero]
          refine wpFreeD_oneW (by kernel_rfl) (.slice (some ⟨b, o, none⟩) n cap) (fun w1 _ => by kernel_rfl) ?_
          simp only [Act.put, List.setIfInBounds_toArray, List.set_cons_succ, List.set_cons_zero]
          refine wpFreeD_oneW (by kernel_rfl) (.int .i64 j) (fun w1 _ => by kernel_rfl) ?_
          simp only [Act.put, List.setIfInBounds_toArray, List.set_cons_succ, List.set_cons_zero]
          refine wpFreeD_indexWG (by kernel_rfl) rfl rfl rfl Try.underlying67 uinfoInstrumentI hlt ?_
          simp only [Act.put, List.setIfInBounds_toArray, List.set_cons_succ, List.set_cons_zero]
          refine wpFreeD_oneW (by kernel_rfl) (.pointer (some ⟨b, o + j * 5 + 2, none⟩)) (fun w1 _ => by kernel_rfl) ?_
          simp only [Act.put, List.setIfInBounds_toArray, List.set_cons_succ, List.set_cons_zero]
          refine wpFreeD_load1W (by kernel_rfl) rfl rfl (p := ⟨b, o + j * 5 + 2, none⟩) (fun w1 h1 => C2.out w1 (le_trans (le_drewN _ _) h1)) ukindFloat32 ?_
          simp only [Act.put, List.setIfInBounds_toArray, List.set_cons_succ, List.set_cons_zero]
          refine wpFreeD_oneW (by kernel_rfl) (.slice (some ⟨b', o', none⟩) n cap') (fun w1 _ => by kernel_rfl) ?_
          simp only [Act.put, List.setIfInBounds_toArray, List.set_cons_succ, List.set_cons_zero]
          refine wpFreeD_oneW (by kernel_rfl) (.int .i64 j) (fun w1 _ => by kernel_rfl) ?_
          simp only [Act.put, List.setIfInBounds_toArray, List.set_cons_succ, List.set_cons_zero]
          refine wpFreeD_indexWG (by kernel_rfl) rfl rfl rfl Try.underlying67 uinfoInstrumentI hlt ?_
          simp only [Act.put, List.setIfInBounds_toArray, List.set_cons_succ, List.set_cons_zero]
          refine wpFreeD_oneW (by kernel_rfl) (.pointer (some ⟨b', o' + j * 5 + 2, none⟩)) (fun w1 _ => by kernel_rfl) ?_
          simp only [Act.put, List.setIfInBounds_toArray, List.set_cons_succ, List.set_cons_zero]
          refine wpFreeD_load1W (by kernel_rfl) rfl rfl (p := ⟨b', o' + j * 5 + 2, none⟩) (fun w1 h1 => D2.out w1 (le_trans (le_drewN _ _) h1)) ukindFloat32 ?_
          simp only [Act.put, List.setIfInBounds_toArray, List.set_cons_succ, List.set_cons_zero]
          refine wpFreeD_callW (by kernel_rfl) rfl Try.func58 (by kernel_rfl) (by kernel_rfl) (args := #[.float .f32 a1, .float .f32 a1']) (by simp [Act.eval]) (fun v w1 w2 hw hv => hv) (fun w1 hw1 _ => (H2.out w1).mono ?_) ?_
          · rintro e w2 ⟨rfl, rfl⟩
            exact ⟨_, rfl, le_refl _, rfl⟩
          rintro v ⟨_, _, _, hv⟩
          replace hv : v = .bool (sameB a1 a1') := hv
          rw [n2.out] at hv
          subst hv
          simp only [Act.put, List.setIfInBounds_toArray, List.set_cons_succ, List.set_cons_zero]
          refine wpFreeD_oneW (by kernel_rfl) (.bool true) (fun w1 _ => by kernel_rfl) ?_
          simp only [Act.put, List.setIfInBounds_toArray, List.set_cons_succ, List.set_cons_zero]
          refine wpFreeD_one rfl (.bool true) (fun w1 _ => by kernel_rfl) ?_
          simp only [Act.put, List.setIfInBounds_toArray, List.set_cons_succ, List.set_cons_zero]
          refine wpFreeD_one rfl (.bool true) (fun w1 _ => by kernel_rfl) ?_
          simp only [Act.put, List.setIfInBounds_toArray, List.set_cons_succ, List.set_cons_zero]
          refine wpFreeD_skip (by kernel_rfl) ?_
          simp only [Act.put, List.setIfInBounds_toArray, List.set_cons_succ, List.set_cons_zero]
          refine wpFreeD_skip (by kernel_rfl) ?_
          simp only [Act.put, List.setIfInBounds_toArray, List.set_cons_succ, List.set_cons_zero]
          refine wpFreeD_skip (by kernel_rfl) ?_
          simp only [Act.put, List.setIfInBounds_toArray, List.set_cons_succ, List.set_cons_zero]
          refine wpFreeD_skip (by kernel_rfl) ?_
          simp only [Act.put, List.setIfInBounds_toArray, List.set_cons_succ, List.set_cons_zero]
          refine wpFreeD_skip (by kernel_rfl) ?_
          simp only [Act.put, List.setIfInBounds_toArray, List.set_cons_succ, List.set_cons_zero]
          refine wpFreeD_skip (by kernel_rfl) ?_
          simp only [Act.put, List.setIfInBounds_toArray, List.set_cons_succ, List.set_cons_zero]
          refine wpFreeD_skip (by kernel_rfl) ?_
          simp only [Act.put, List.setIfInBounds_toArray, List.set_cons_succ, List.set_cons_zero]
          refine wpFreeD_skip (by kernel_rfl) ?_
          simp only [Act.put, List.setIfInBounds_toArray, List.set_cons_succ, List.set_cons_zero]
          refine wpFreeD_skip (by kernel_rfl) ?_
          simp only [Act.put, List.setIfInBounds_toArray, List.set_cons_succ, List.set_cons_zero]
          refine wpFreeD_skip (by kernel_rfl) ?_
          simp only [Act.put, List.setIfInBounds_toArray, List.set_cons_succ, List.set_cons_zero]
          refine wpFreeD_skip (by kernel_rfl) ?_
          simp only [Act.put, List.setIfInBounds_toArray, List.set_cons_succ, List.set_cons_zero]
          refine wpFreeD_skip (by kernel_rfl) ?_
          simp only [Act.put, List.setIfInBounds_toArray, List.set_cons_succ, List.set_cons_zero]
          refine wpFreeD_one rfl (.bool true) (fun w1 _ => by kernel_rfl) ?_
          simp only [Act.put, List.setIfInBounds_toArray, List.set_cons_succ, List.set_cons_zero]
          refine wpFreeD_one rfl (.bool true) (fun w1 _ => by kernel_rfl) ?_
          simp only [Act.put, List.setIfInBounds_toArray, List.set_cons_succ, List.set_cons_zero]
          refine wpFreeD_skip (by kernel_rfl) ?_
          simp only [Act.put, List.setIfInBounds_toArray, List.set_cons_succ, List.set_cons_zero]
          refine wpFreeD_skip (by kernel_rfl) ?_
          simp only [Act.put, List.setIfInBounds_toArray, List.set_cons_succ, List.set_cons_zero]
          refine wpFreeD_skip (by kernel_rfl) ?_
          simp only [Act.put, List.setIfInBounds_toArray, List.set_cons_succ, List.set_cons_zero]
          refine wpFreeD_skip (by kernel_rfl) ?_
          simp only [Act.put, List.setIfInBounds_toArray, List.set_cons_succ, List.set_cons_zero]
          refine wpFreeD_skip (by kernel_rfl) ?_
          simp only [Act.put, List.setIfInBounds_toArray, List.set_cons_succ, List.set_cons_zero]
          refine wpFreeD_skip (by kernel_rfl) ?_
          simp only [Act.put, List.setIfInBounds_toArray, List.set_cons_succ, List.set_cons_zero]
          refine wpFreeD_skip (by kernel_rfl) ?_
          simp only [Act.put, List.setIfInBounds_toArray, List.set_cons_succ, List.set_cons_zero]
          refine wpFreeD_skip (by kernel_rfl) ?_
          simp only [Act.put, List.setIfInBounds_toArray, List.set_cons_succ, List.set_cons_zero]
          refine wpFreeD_skip (by kernel_rfl) ?_
          simp only [Act.put, List.setIfInBounds_toArray, List.set_cons_succ, List.set_cons_zero]
          refine wpFreeD_skip (by kernel_rfl) ?_
          simp only [Act.put, List.setIfInBounds_toArray, List.set_cons_succ, List.set_cons_zero]
          refine wpFreeD_skip (by kernel_rfl) ?_
          simp only [Act.put, List.setIfInBounds_toArray, List.set_cons_succ, List.set_cons_zero]
          refine wpFreeD_skip (by kernel_rfl) ?_
          simp only [Act.put, List.setIfInBounds_toArray, List.set_cons_succ, List.set_cons_zero]
          refine wpFreeD_one rfl (.bool true) (fun w1 _ => by kernel_rfl) ?_
          simp only [Act.put, List.setIfInBounds_toArray, List.set_cons_succ, List.set_cons_zero]
          refine wpFreeD_nil (fun wR hwR _ => ?_)
          have HL1 := hid (le_trans HL.out (le_trans (le_drewN _ _) hwR))
          clear hwR
          go_wp2
          go_ret
          exact ⟨ret_b (allB_no hlt hb.out).symm, HL1.out⟩
        have p2 := hid h2
        have n2 := hid h2
        clear h2
        rcases bool_ft (sameB b1 b1') with h3 | h3
        · have hb := hid (SE.out.symm.trans (show sameI (inT x j) (inT x' j) (inK x j) (inK x' j) a1 a1' b1 b1' c1 c1' = false by unfold sameI; simp only [p0.out, p1.out, p2.out, h3, Bool.and_false, Bool.false_and, Bool.and_true, Bool.true_and]))
          have n3 := hid h3
          clear h3 SE
          go_wp2_with fail
          refine region_freeD (E := leX) (fun _ args _ v => v = .bool (sameA args)) (by kernel_rfl) (by kernel_rfl) ?_
          refine wpFreeD_one rfl (.slice (some ⟨b, o, none⟩) n cap) (fun w1 _ => by kernel_rfl) ?_
          simp only [Act.put, List.setIfInBounds_toArray, List.set_cons_succ, List.set_cons_zero]
          refine wpFreeD_one rfl (.int .i64 j) (fun w1 _ => by kernel_rfl) ?_
          simp only [Act.put, List.setIfInBounds_toArray, List.set_cons_succ, List.set_cons_zero]
          refine wpFreeD_indexW0 rfl rfl rfl rfl Try.underlying67 uinfoInstrumentI hlt ?_
          simp only [Act.put, List.setIfInBounds_toArray, List.set_cons_succ, List.set_cons_zero]
          refine wpFreeD_one rfl (.pointer (some ⟨b, o + j * 5, none⟩)) (fun w1 _ => by kernel_rfl) ?_
          simp only [Act.put, List.setIfInBounds_toArray, List.set_cons_succ, List.set_cons_zero]
          refine wpFreeD_load1 rfl rfl rfl (p := ⟨b, o + j * 5, none⟩) (fun w1 h1 => C0.out w1 (le_trans (le_drewN _ _) h1)) ukindString ?_
          simp only [Act.put, List.setIfInBounds_toArray, List.set_cons_succ, List.set_cons_zero]
          refine wpFreeD_one rfl (.slice (some ⟨b', o', none⟩) n cap') (fun w1 _ => by kernel_rfl) ?_
          simp only [Act.put, List.setIfInBounds_toArray, List.set_cons_succ, List.set_cons_zero]
          refine wpFreeD_one rfl (.int .i64 j) (fun w1 _ => by kernel_rfl) ?_
          simp only [Act.put, List.setIfInBounds_toArray, List.set_cons_succ, List.set_cons_zero]
          refine wpFreeD_indexW0 rfl rfl rfl rfl Try.underlying67 uinfoInstrumentI hlt ?_
          simp only [Act.put, List.setIfInBounds_toArray, List.set_cons_succ, List.set_cons_zero]
          refine wpFreeD_one rfl (.pointer (some ⟨b', o' + j * 5, none⟩)) (fun w1 _ => by kernel_rfl) ?_
          simp only [Act.put, List.setIfInBounds_toArray, List.set_cons_succ, List.set_cons_zero]
          refine wpFreeD_load1 rfl rfl rfl (p := ⟨b', o' + j * 5, none⟩) (fun w1 h1 => D0.out w1 (le_trans (le_drewN _ _) h1)) ukindString ?_
          simp only [Act.put, List.setIfInBounds_toArray, List.set_cons_succ, List.set_cons_zero]
          refine wpFreeD_one rfl (.bool ((inT x j).toList != (inT x' j).toList)) (fun w1 _ => by kernel_rfl) ?_
          simp only [Act.put, List.setIfInBounds_toArray, List.set_cons_succ, List.set_cons_zero]
          rw [n0.out]
          refine wpFreeD_one rfl (.bool false) (fun w1 _ => by kernel_rfl) ?_
          simp only [Act.put, List.setIfInBounds_toArray, List.set_cons_succ, List.set_cons_zero]
          refine wpFreeD_oneW (by kernel_rfl) (.slice (some ⟨b, o, none⟩) n cap) (fun w1 _ => by kernel_rfl) ?_
          simp only [Act.put, List.setIfInBounds_toArray, List.set_cons_succ, List.set_cons_zero]
          refine wpFreeD_oneW (by kernel_rfl) (.int .i64 j) (fun w1 _ => by kernel_rfl) ?_
          simp only [Act.put, List.setIfInBounds_toArray, List.set_cons_succ, List.set_cons_zero]
          refine wpFreeD_indexWG (by kernel_rfl) rfl rfl rfl Try.underlying67 uinfoInstrumentI hlt ?_
          simp only [Act.put, List.setIfInBounds_toArray, List.set_cons_succ, List.set_cons_zero]
          refine wpFreeD_oneW (by kernel_rfl) (.pointer (some ⟨b, o + j * 5 + 1, none⟩)) (fun w1 _ => by kernel_rfl) ?_
          simp only [Act.put, List.setIfInBounds_toArray, List.set_cons_succ, List.set_cons_zero]
          refine wpFreeD_load1W (by kernel_rfl) rfl rfl (p := ⟨b, o + j * 5 + 1, none⟩) (fun w1 h1 => C1.out w1 (le_trans (le_drewN _ _) h1)) ukindInt64 ?_
          simp only [Act.put, List.setIfInBounds_toArray, List.set_cons_succ, List.set_cons_zero]
          refine wpFreeD_oneW (by kernel_rfl) (.slice (some ⟨b', o', none⟩) n cap') (fun w1 _ => by kernel_rfl) ?_
          simp only [Act.put, List.setIfInBounds_toArray, List.set_cons_succ, List.set_cons_zero]
          refine wpFreeD_oneW (by kernel_rfl) (.int .i64 j) (fun w1 _ => by kernel_rfl) ?_
          simp only [Act.put, List.setIfInBounds_toArray, List.set_cons_succ, List.set_cons_zero]
          refine wpFreeD_indexWG (by kernel_rfl) rfl rfl rfl Try.underlying67 uinfoInstrumentI hlt ?_
          simp only [Act.put, List.setIfInBounds_toArray, List.set_cons_succ, List.set_cons_zero]
          refine wpFreeD_oneW (by kernel_rfl) (.pointer (some ⟨b', o' + j * 5 + 1, none⟩)) (fun w1 _ => by kernel_rfl) ?_
          simp only [Act.put, List.setIfInBounds_toArray, List.set_cons_succ, List.set_cons_zero]
          refine wpFreeD_load1W (by kernel_rfl) rfl rfl (p := ⟨b', o' + j * 5 + 1, none⟩) (fun w1 h1 => D1.out w1 (le_trans (le_drewN _ _) h1)) ukindInt64 ?_
          simp only [Act.put, List.setIfInBounds_toArray, List.set_cons_succ, List.set_cons_zero]
          refine wpFreeD_oneW (by kernel_rfl) (.bool (inK x j != inK x' j)) (fun w1 _ => by kernel_rfl) ?_
          simp only [Act.put, List.setIfInBounds_toArray, List.set_cons_succ, List.set_cons_zero]
          rw [n1.out]
          refine wpFreeD_one rfl (.bool false) (fun w1 _ => by kernel_rfl) ?_
          simp only [Act.put, List.setIfInBounds_toArray, List.set_cons_succ, List.set_cons_zero]
          refine wpFreeD_one rfl (.bool false) (fun w1 _ => by kernel_rfl) ?_
          simp only [Act.put, List.setIfInBounds_toArray, List.set_cons_succ, List.set_cons_zero]
          refine wpFreeD_oneW (by kernel_rfl) (.slice (some ⟨b, o, none⟩) n cap) (fun w1 _ => by kernel_rfl) ?_
          simp only [Act.put, List.setIfInBounds_toArray, List.set_cons_succ, List.set_cons_zero]
          refine wpFreeD_oneW (by kernel_rfl) (.int .i64 j) (fun w1 _ => by kernel_rfl) ?_
          simp only [Act.put, List.setIfInBounds_toArray, List.set_cons_succ, List.set_cons_zero]
          refine wpFreeD_indexWG (by kernel_rfl) rfl rfl rfl Try.underlying67 uinfoInstrumentI hlt ?_
          simp only [Act.put, List.setIfInBounds_toArray, List.set_cons_succ, List.set_cons_zero]
          refine wpFreeD_oneW (by kernel_rfl) (.pointer (some ⟨b, o + j * 5 + 2, none⟩)) (fun w1 _ => by kernel_rfl) ?_
          simp only [Act.put, List.setIfInBounds_toArray, List.set_cons_succ, List.set_cons_zero]
          refine wpFreeD_load1W (by kernel_rfl) rfl rfl (p := ⟨b, o + j * 5 + 2, none⟩) (fun w1 h1 => C2.out w1 (le_trans (le_drewN _ _) h1)) ukindFloat32 ?_
          simp only [Act.put, List.setIfInBounds_toArray, List.set_cons_succ, List.set_cons_zero]
          refine wpFreeD_oneW (by kernel_rfl) (.slice (some ⟨b', o', none⟩) n cap') (fun w1 _ => by kernel_rfl) ?_
          simp only [Act.put, List.setIfInBounds_toArray, List.set_cons_succ, List.set_cons_zero]
          refine wpFreeD_oneW (by kernel_rfl) (.int .i64 j) (fun w1 _ => by kernel_rfl) ?_
          simp only [Act.put, List.setIfInBounds_toArray, List.set_cons_succ, List.set_cons_zero]
          refine wpFreeD_indexWG (by kernel_rfl) rfl rfl rfl Try.underlying67 uinfoInstrumentI hlt ?_
          simp only [Act.put, List.setIfInBounds_toArray, List.set_cons_succ, List.set_cons_zero]
          refine wpFreeD_oneW (by kernel_rfl) (.pointer (some ⟨b', o' + j * 5 + 2, none⟩)) (fun w1 _ => by kernel_rfl) ?_
          simp only [Act.put, List.setIfInBounds_toArray, List.set_cons_succ, List.set_cons_zero]
          refine wpFreeD_load1W (by kernel_rfl) rfl rfl (p := ⟨b', o' + j * 5 + 2, none⟩) (fun w1 h1 => D2.out w1 (le_trans (le_drewN _ _) h1)) ukindFloat32 ?_
          simp only [Act.put, List.setIfInBounds_toArray, List.set_cons_succ, List.set_cons_zero]
          refine wpFreeD_callW (by kernel_rfl) rfl Try.func58 (by kernel_rfl) (by kernel_rfl) (args := #[.float .f32 a1, .float .f32 a1']) (by simp [Act.eval]) (fun v w1 w2 hw hv => hv) (fun w1 hw1 _ => (H2.out w1).mono ?_) ?_
          · rintro e w2 ⟨rfl, rfl⟩
            exact ⟨_, rfl, le_refl _, rfl⟩
          rintro v ⟨_, _, _, hv⟩
          replace hv : v = .bool (sameB a1 a1') := hv
          rw [n2.out] at hv
          subst hv
          simp only [Act.put, List.setIfInBounds_toArray, List.set_cons_succ, List.set_cons_zero]
          refine wpFreeD_oneW (by kernel_rfl) (.bool false) (fun w1 _ => by kernel_rfl) ?_
          simp only [Act.put, List.setIfInBounds_toArray, List.set_cons_succ, List.set_cons_zero]
          refine wpFreeD_one rfl (.bool false) (fun w1 _ => by kernel_rfl) ?_
          simp only [Act.put, List.setIfInBounds_toArray, List.set_cons_succ, List.set_cons_zero]
          refine wpFreeD_one rfl (.bool false) (fun w1 _ => by kernel_rfl) ?_
          simp only [Act.put, List.setIfInBounds_toArray, List.set_cons_succ, List.set_cons_zero]
          refine wpFreeD_oneW (by kernel_rfl) (.slice (some ⟨b, o, none⟩) n cap) (fun w1 _ => by kernel_rfl) ?_
          simp only [Act.put, List.setIfInBounds_toArray, List.set_cons_succ, List.set_cons_zero]
          refine wpFreeD_oneW (by kernel_rfl) (.int .i64 j) (fun w1 _ => by kernel_rfl) ?_
          simp only [Act.put, List.setIfInBounds_toArray, List.set_cons_succ, List.set_cons_zero]
          refine wpFreeD_indexWG (by kernel_rfl) rfl rfl rfl Try.underlying67 uinfoInstrumentI hlt ?_
          simp only [Act.put, List.setIfInBounds_toArray, List.set_cons_succ, List.set_cons_zero]
          refine wpFreeD_oneW (by kernel_rfl) (.pointer (some ⟨b, o + j * 5 + 3, none⟩)) (fun w1 _ => by kernel_rfl) ?_
          simp only [Act.put, List.setIfInBounds_toArray, List.set_cons_succ, List.set_cons_zero]
          refine wpFreeD_load1W (by kernel_rfl) rfl rfl (p := ⟨b, o + j * 5 + 3, none⟩) (fun w1 h1 => C3.out w1 (le_trans (le_drewN _ _) h1)) ukindFloat32 ?_
          simp only [Act.put, List.setIfInBounds_toArray, List.set_cons_succ, List.set_cons_zero]
          refine wpFreeD_oneW (by kernel_rfl) (.slice (some ⟨b', o', none⟩) n cap') (fun w1 _ => by kernel_rfl) ?_
          simp only [Act.put, List.setIfInBounds_toArray, List.set_cons_succ, List.set_cons_zero]
          refine wpFreeD_oneW (by kernel_rfl) (.int .i64 j) (fun w1 _ => by kernel_rfl) ?_
          simp only [Act.put, List.setIfInBounds_toArray, List.set_cons_succ, List.set_cons_zero]
          refine wpFreeD_indexWG (by kernel_rfl) rfl rfl rfl Try.underlying67 uinfoInstrumentI hlt ?_
          simp only [Act.put, List.setIfInBounds_toArray, List.set_cons_succ, List.set_cons_zero]
          refine wpFreeD_oneW (by kernel_rfl) (.pointer (some ⟨b', o' + j * 5 + 3, none⟩)) (fun w1 _ => by kernel_rfl) ?_
          simp only [Act.put, List.setIfInBounds_toArray, List.set_cons_succ, List.set_cons_zero]
          refine wpFreeD_load1W (by kernel_rfl) rfl rfl (p := ⟨b', o' + j * 5 + 3, none⟩) (fun w1 h1 => D3.out w1 (le_trans (le_drewN _ _) h1)) ukindFloat32 ?_
          simp only [Act.put, List.setIfInBounds_toArray, List.set_cons_succ, List.set_cons_zero]
          refine wpFreeD_callW (by kernel_rfl) rfl Try.func58 (by kernel_rfl) (by kernel_rfl) (args := #[.float .f32 b1, .float .f32 b1']) (by simp [Act.eval]) (fun v w1 w2 hw hv => hv) (fun w1 hw1 _ => (H3.out w1).mono ?_) ?_
          · rintro e w2 ⟨rfl, rfl⟩
            exact ⟨_, rfl, le_refl _, rfl⟩
          rintro v ⟨_, _, _, hv⟩
          replace hv : v = .bool (sameB b1 b1') := hv
          rw [n3.out] at hv
          subst hv
          simp only [Act.put, List.setIfInBounds_toArray, List.set_cons_succ, List.set_cons_zero]
          refine wpFreeD_oneW (by kernel_rfl) (.bool true) (fun w1 _ => by kernel_rfl) ?_
          simp only [Act.put, List.setIfInBounds_toArray, List.set_cons_succ, List.set_cons_zero]
          refine wpFreeD_one rfl (.bool true) (fun w1 _ => by kernel_rfl) ?_
          simp only [Act.put, List.setIfInBounds_toArray, List.set_cons_succ, List.set_cons_zero]
          refine wpFreeD_one rfl (.bool true) (fun w1 _ => by kernel_rfl) ?_
          simp only [Act.put, List.setIfInBounds_toArray, List.set_cons_succ, List.set_cons_zero]
          refine wpFreeD_skip (by kernel_rfl) ?_
          simp only [Act.put, List.setIfInBounds_toArray, List.set_cons_succ, List.set_cons_zero]
          refine wpFreeD_skip (by kernel_rfl) ?_
          simp only [Act.put, List.setIfInBounds_toArray, List.set_cons_succ, List.set_cons_zero]
          refine wpFreeD_skip (by kernel_rfl) ?_
          simp only [Act.put, List.setIfInBounds_toArray, List.set_cons_succ, List.set_cons_zero]
          refine wpFreeD_skip (by kernel_rfl) ?_
          simp only [Act.put, List.setIfInBounds_toArray, List.set_cons_succ, List.set_cons_zero]
          refine wpFreeD_skip (by kernel_rfl) ?_
          simp only [Act.put, List.setIfInBounds_toArray, List.set_cons_succ, List.set_cons_zero]
          refine wpFreeD_skip (by kernel_rfl) ?_
          simp only [Act.put, List.setIfInBounds_toArray, List.set_cons_succ, List.set_cons_zero]
          refine wpFreeD_skip (by kernel_rfl) ?_
          simp only [Act.put, List.setIfInBounds_toArray, List.set_cons_succ, List.set_cons_zero]
          refine wpFreeD_skip (by kernel_rfl) ?_
          simp only [Act.put, List.setIfInBounds_toArray, List.set_cons_succ, List.set_cons_zero]
          refine wpFreeD_skip (by kernel_rfl) ?_
          simp only [Act.put, List.setIfInBounds_toArray, List.set_cons_succ, List.set_cons_zero]
          refine wpFreeD_skip (by kernel_rfl) ?_
          simp only [Act.put, List.setIfInBounds_toArray, List.set_cons_succ, List.set_cons_zero]
          refine wpFreeD_skip (by kernel_rfl) ?_
          simp only [Act.put, List.setIfInBounds_toArray, List.set_cons_succ, List.set_cons_zero]
          refine wpFreeD_skip (by kernel_rfl) ?_
          simp only [Act.put, List.setIfInBounds_toArray, List.set_cons_succ, List.set_cons_zero]
          refine wpFreeD_one rfl (.bool true) (fun w1 _ => by kernel_rfl) ?_
          simp only [Act.put, List.setIfInBounds_toArray, List.set_cons_succ, List.set_cons_zero]
          refine wpFreeD_nil (fun wR hwR _ => ?_)
          have HL1 := hid (le_trans HL.out (le_trans (le_drewN _ _) hwR))
          clear hwR
          go_wp2
          go_ret
          exact ⟨ret_b (allB_no hlt hb.out).symm, HL1.out⟩
        have p3 := hid h3
        have n3 := hid h3
        clear h3
        rcases bool_ft (sameB c1 c1') with h4 | h4
        · have hb := hid (SE.out.symm.trans (show sameI (inT x j) (inT x' j) (inK x j) (inK x' j) a1 a1' b1 b1' c1 c1' = false by unfold sameI; simp only [p0.out, p1.out, p2.out, p3.out, h4, Bool.and_false, Bool.false_and, Bool.and_true, Bool.true_and]))
          have n4 := hid h4
          clear h4 SE
          go_wp2_with fail
          refine region_freeD (E := leX) (fun _ args _ v => v = .bool (sameA args)) (by kernel_rfl) (by kernel_rfl) ?_
          refine wpFreeD_one rfl (.slice (some ⟨b, o, none⟩) n cap) (fun w1 _ => by kernel_rfl) ?_
          simp only [Act.put, List.setIfInBounds_toArray, List.set_cons_succ, List.set_cons_zero]
          refine wpFreeD_one rfl (.int .i64 j) (fun w1 _ => by kernel_rfl) ?_
          simp only [Act.put, List.setIfInBounds_toArray, List.set_cons_succ, List.set_cons_zero]
          refine wpFreeD_indexW0 rfl rfl rfl rfl Try.underlying67 uinfoInstrumentI hlt ?_
          simp only [Act.put, List.setIfInBounds_toArray, List.set_cons_succ, List.set_cons_zero]
          refine wpFreeD_one rfl (.pointer (some ⟨b, o + j * 5, none⟩)) (fun w1 _ => by kernel_rfl) ?_
          simp only [Act.put, List.setIfInBounds_toArray, List.set_cons_succ, List.set_cons_zero]
          refine wpFreeD_load1 rfl rfl rfl (p := ⟨b, o + j * 5, none⟩) (fun w1 h1 => C0.out w1 (le_trans (le_drewN _ _) h1)) ukindString ?_
          simp only [Act.put, List.setIfInBounds_toArray, List.set_cons_succ, List.set_cons_zero]
          refine wpFreeD_one rfl (.slice (some ⟨b', o', none⟩) n cap') (fun w1 _ => by kernel_rfl) ?_
          simp only [Act.put, List.setIfInBounds_toArray, List.set_cons_succ, List.set_cons_zero]
          refine wpFreeD_one rfl (.int .i64 j) (fun w1 _ => by kernel_rfl) ?_
          simp only [Act.put, List.setIfInBounds_toArray, List.set_cons_succ, List.set_cons_zero]
          refine wpFreeD_indexW0 rfl rfl rfl rfl Try.underlying67 uinfoInstrumentI hlt ?_
          simp only [Act.put, List.setIfInBounds_toArray, List.set_cons_succ, List.set_cons_zero]
          refine wpFreeD_one rfl (.pointer (some ⟨b', o' + j * 5, none⟩)) (fun w1 _ => by kernel_rfl) ?_
          simp only [Act.put, List.setIfInBounds_toArray, List.set_cons_succ, List.set_cons_zero]
          refine wpFreeD_load1 rfl rfl rfl (p := ⟨b', o' + j * 5, none⟩) (fun w1 h1 => D0.out w1 (le_trans (le_drewN _ _) h1)) ukindString ?_
          simp only [Act.put, List.setIfInBounds_toArray, List.set_cons_succ, List.set_cons_zero]
          refine wpFreeD_one rfl (.bool ((inT x j).toList != (inT x' j).toList)) (fun w1 _ => by kernel_rfl) ?_
          simp only [Act.put, List.setIfInBounds_toArray, List.set_cons_succ, List.set_cons_zero]
          rw [n0.out]
          refine wpFreeD_one rfl (.bool false) (fun w1 _ => by kernel_rfl) ?_
          simp only [Act.put, List.setIfInBounds_toArray, List.set_cons_succ, List.set_cons_zero]
          refine wpFreeD_oneW (by kernel_rfl) (.slice (some ⟨b, o, none⟩) n cap) (fun w1 _ => by kernel_rfl) ?_
          simp only [Act.put, List.setIfInBounds_toArray, List.set_cons_succ, List.set_cons_zero]
          refine wpFreeD_oneW (by kernel_rfl) (.int .i64 j) (fun w1 _ => by kernel_rfl) ?_
          simp only [Act.put, List.setIfInBounds_toArray, List.set_cons_succ, List.set_cons_zero]
          refine wpFreeD_indexWG (by kernel_rfl) rfl rfl rfl Try.underlying67 uinfoInstrumentI hlt ?_
          simp only [Act.put, List.setIfInBounds_toArray, List.set_cons_succ, List.set_cons_zero]
          refine wpFreeD_oneW (by kernel_rfl) (.pointer (some ⟨b, o + j * 5 + 1, none⟩)) (fun w1 _ => by kernel_rfl) ?_
          simp only [Act.put, List.setIfInBounds_toArray, List.set_cons_succ, List.set_cons_zero]
          refine wpFreeD_load1W (by kernel_rfl) rfl rfl (p := ⟨b, o + j * 5 + 1, none⟩) (fun w1 h1 => C1.out w1 (le_trans (le_drewN _ _) h1)) ukindInt64 ?_
          simp only [Act.put, List.setIfInBounds_toArray, List.set_cons_succ, List.set_cons_zero]
          refine wpFreeD_oneW (by kernel_rfl) (.slice (some ⟨b', o', none⟩) n cap') (fun w1 _ => by kernel_rfl) ?_
          simp only [Act.put, List.setIfInBounds_toArray, List.set_cons_succ, List.set_cons_zero]
          refine wpFreeD_oneW (by kernel_rfl) (.int .i64 j) (fun w1 _ => by kernel_rfl) ?_
          simp only [Act.put, List.setIfInBounds_toArray, List.set_cons_succ, List.set_cons_zero]
          refine wpFreeD_indexWG (by kernel_rfl) rfl rfl rfl Try.underlying67 uinfoInstrumentI hlt ?_
          simp only [Act.put, List.setIfInBounds_toArray, List.set_cons_succ, List.set_cons_zero]
          refine wpFreeD_oneW (by kernel_rfl) (.pointer (some ⟨b', o' + j * 5 + 1, none⟩)) (fun w1 _ => by kernel_rfl) ?_
          simp only [Act.put, List.setIfInBounds_toArray, List.set_cons_succ, List.set_cons_zero]
          refine wpFreeD_load1W (by kernel_rfl) rfl rfl (p := ⟨b', o' + j * 5 + 1, none⟩) (fun w1 h1 => D1.out w1 (le_trans (le_drewN _ _) h1)) ukindInt64 ?_
          simp only [Act.put, List.setIfInBounds_toArray, List.set_cons_succ, List.set_cons_zero]
          refine wpFreeD_oneW (by kernel_rfl) (.bool (inK x j != inK x' j)) (fun w1 _ => by kernel_rfl) ?_
          simp only [Act.put, List.setIfInBounds_toArray, List.set_cons_succ, List.set_cons_zero]
          rw [n1.out]
          refine wpFreeD_one rfl (.bool false) (fun w1 _ => by kernel_rfl) ?_
          simp only [Act.put, List.setIfInBounds_toArray, List.set_cons_succ, List.set_cons_zero]
          refine wpFreeD_one rfl (.bool false) (fun w1 _ => by kernel_rfl) ?_
          simp only [Act.put, List.setIfInBounds_toArray, List.set_cons_succ, List.set_cons_zero]
          refine wpFreeD_oneW (by kernel_rfl) (.slice (some ⟨b, o, none⟩) n cap) (fun w1 _ => by kernel_rfl) ?_
          simp only [Act.put, List.setIfInBounds_toArray, List.set_cons_succ, List.set_cons_zero]
          refine wpFreeD_oneW (by kernel_rfl) (.int .i64 j) (fun w1 _ => by kernel_rfl) ?_
          simp only [Act.put, List.setIfInBounds_toArray, List.set_cons_succ, List.set_cons_zero]
          refine wpFreeD_indexWG (by kernel_rfl) rfl rfl rfl Try.underlying67 uinfoInstrumentI hlt ?_
          simp only [Act.put, List.setIfInBounds_toArray, List.set_cons_succ, List.set_cons_zero]
          refine wpFreeD_oneW (by kernel_rfl) (.pointer (some ⟨b, o + j * 5 + 2, none⟩)) (fun w1 _ => by kernel_rfl) ?_
          simp only [Act.put, List.setIfInBounds_toArray, List.set_cons_succ, List.set_cons_zero]
          refine wpFreeD_load1W (by kernel_rfl) rfl rfl (p := ⟨b, o + j * 5 + 2, none⟩) (fun w1 h1 => C2.out w1 (le_trans (le_drewN _ _) h1)) ukindFloat32 ?_
          simp only [Act.put, List.setIfInBounds_toArray, List.set_cons_succ, List.set_cons_zero]
          refine wpFreeD_oneW (by kernel_rfl) (.slice (some ⟨b', o', none⟩) n cap') (fun w1 _ => by kernel_rfl) ?_
          simp only [Act.put, List.setIfInBounds_toArray, List.set_cons_succ, List.set_cons_zero]
          refine wpFreeD_oneW (by kernel_rfl) (.int .i64 j) (fun w1 _ => by kernel_rfl) ?_
          simp only [Act.put, List.setIfInBounds_toArray, List.set_cons_succ, List.set_cons_zero]
          refine wpFreeD_indexWG (by kernel_rfl) rfl rfl rfl Try.underlying67 uinfoInstrumentI hlt ?_
          simp only [Act.put, List.setIfInBounds_toArray, List.set_cons_succ, List.set_cons_zero]
          refine wpFreeD_oneW (by kernel_rfl) (.pointer (some ⟨b', o' + j * 5 + 2, none⟩)) (fun w1 _ => by kernel_rfl) ?_
          simp only [Act.put, List.setIfInBounds_toArray, List.set_cons_succ, List.set_cons_zero]
          refine wpFreeD_load1W (by kernel_rfl) rfl rfl (p := ⟨b', o' + j * 5 + 2, none⟩) (fun w1 h1 => D2.out w1 (le_trans (le_drewN _ _) h1)) ukindFloat32 ?_
          simp only [Act.put, List.setIfInBounds_toArray, List.set_cons_succ, List.set_cons_zero]
          refine wpFreeD_callW (by kernel_rfl) rfl Try.func58 (by kernel_rfl) (by kernel_rfl) (args := #[.float .f32 a1, .float .f32 a1']) (by simp [Act.eval]) (fun v w1 w2 hw hv => hv) (fun w1 hw1 _ => (H2.out w1).mono ?_) ?_
          · rintro e w2 ⟨rfl, rfl⟩
            exact ⟨_, rfl, le_refl _, rfl⟩
          rintro v ⟨_, _, _, hv⟩
          replace hv : v = .bool (sameB a1 a1') := hv
          rw [n2.out] at hv
          subst hv
          simp only [Act.put, List.setIfInBounds_toArray, List.set_cons_succ, List.set_cons_zero]
          refine wpFreeD_oneW (by kernel_rfl) (.bool false) (fun w1 _ => by kernel_rfl) ?_
          simp only [Act.put, List.setIfInBounds_toArray, List.set_cons_succ, List.set_cons_zero]
          refine wpFreeD_one rfl (.bool false) (fun w1 _ => by kernel_rfl) ?_
          simp only [Act.put, List.setIfInBounds_toArray, List.set_cons_succ, List.set_cons_zero]
          refine wpFreeD_one rfl (.bool false) (fun w1 _ => by kernel_rfl) ?_
          simp only [Act.put, List.setIfInBounds_toArray, List.set_cons_succ, List.set_cons_zero]
          refine wpFreeD_oneW (by kernel_rfl) (.slice (some ⟨b, o, none⟩) n cap) (fun w1 _ => by kernel_rfl) ?_
          simp only [Act.put, List.setIfInBounds_toArray, List.set_cons_succ, List.set_cons_zero]
          refine wpFreeD_oneW (by kernel_rfl) (.int .i64 j) (fun w1 _ => by kernel_rfl) ?_
          simp only [Act.put, List.setIfInBounds_toArray, List.set_cons_succ, List.set_cons_zero]
          refine wpFreeD_indexWG (by kernel_rfl) rfl rfl rfl Try.underlying67 uinfoInstrumentI hlt ?_
          simp only [Act.put, List.setIfInBounds_toArray, List.set_cons_succ, List.set_cons_zero]
          refine wpFreeD_oneW (by kernel_rfl) (.pointer (some ⟨b, o + j * 5 + 3, none⟩)) (fun w1 _ => by kernel_rfl) ?_
          simp only [Act.put, List.setIfInBounds_toArray, List.set_cons_succ, List.set_cons_zero]
          refine wpFreeD_load1W (by kernel_rfl) rfl rfl (p := ⟨b, o + j * 5 + 3, none⟩) (fun w1 h1 => C3.out w1 (le_trans (le_drewN _ _) h1)) ukindFloat32 ?_
          simp only [Act.put, List.setIfInBounds_toArray, List.set_cons_succ, List.set_cons_zero]
          refine wpFreeD_oneW (by kernel_rfl) (.slice (some ⟨b', o', none⟩) n cap') (fun w1 _ => by kernel_rfl) ?_
          simp only [Act.put, List.setIfInBounds_toArray, List.set_cons_succ, List.set_cons_zero]
          refine wpFreeD_oneW (by kernel_rfl) (.int .i64 j) (fun w1 _ => by kernel_rfl) ?_
          simp only [Act.put, List.setIfInBounds_toArray, List.set_cons_succ, List.set_cons_zero]
          refine wpFreeD_indexWG (by kernel_rfl) rfl rfl rfl Try.underlying67 uinfoInstrumentI hlt ?_
          simp only [Act.put, List.setIfInBounds_toArray, List.set_cons_succ, List.set_cons_zero]
          refine wpFreeD_oneW (by kernel_rfl) (.pointer (some ⟨b', o' + j * 5 + 3, none⟩)) (fun w1 _ => by kernel_rfl) ?_
          simp only [Act.put, List.setIfInBounds_toArray, List.set_cons_succ, List.set_cons_zero]
          refine wpFreeD_load1W (by kernel_rfl) rfl rfl (p := ⟨b', o' + j * 5 + 3, none⟩) (fun w1 h1 => D3.out w1 (le_trans (le_drewN _ _) h1)) ukindFloat32 ?_
          simp only [Act.put, List.setIfInBounds_toArray, List.set_cons_succ, List.set_cons_zero]
          refine wpFreeD_callW (by kernel_rfl) rfl Try.func58 (by kernel_rfl) (by kernel_rfl) (args := #[.float .f32 b1, .float .f32 b1']) (by simp [Act.eval]) (fun v w1 w2 hw hv => hv) (fun w1 hw1 _ => (H3.out w1).mono ?_) ?_
          · rintro e w2 ⟨rfl, rfl⟩
            exact ⟨_, rfl, le_refl _, rfl⟩
          rintro v ⟨_, _, _, hv⟩
          replace hv : v = .bool (sameB b1 b1') := hv
          rw [n3.out] at hv
          subst hv
          simp only [Act.put, List.setIfInBounds_toArray, List.set_cons_succ, List.set_cons_zero]
          refine wpFreeD_oneW (by kernel_rfl) (.bool false) (fun w1 _ => by kernel_rfl) ?_
          simp only [Act.put, List.setIfInBounds_toArray, List.set_cons_succ, List.set_cons_zero]
          refine wpFreeD_one rfl (.bool false) (fun w1 _ => by kernel_rfl) ?_
          simp only [Act.put, List.setIfInBounds_toArray, List.set_cons_succ, List.set_cons_zero]
          refine wpFreeD_one rfl (.bool false) (fun w1 _ => by kernel_rfl) ?_
          simp only [Act.put, List.setIfInBounds_toArray, List.set_cons_succ, List.set_cons_zero]
          refine wpFreeD_oneW (by kernel_rfl) (.slice (some ⟨b, o, none⟩) n cap) (fun w1 _ => by kernel_rfl) ?_
          simp only [Act.put, List.setIfInBounds_toArray, List.set_cons_succ, List.set_cons_zero]
          refine wpFreeD_oneW (by kernel_rfl) (.int .i64 j) (fun w1 _ => by kernel_rfl) ?_
          simp only [Act.put, List.setIfInBounds_toArray, List.set_cons_succ, List.set_cons_zero]
          refine wpFreeD_indexWG (by kernel_rfl) rfl rfl rfl Try.underlying67 uinfoInstrumentI hlt ?_
          simp only [Act.put, List.setIfInBounds_toArray, List.set_cons_succ, List.set_cons_zero]
          refine wpFreeD_oneW (by kernel_rfl) (.pointer (some ⟨b, o + j * 5 + 4, none⟩)) (fun w1 _ => by kernel_rfl) ?_
          simp only [Act.put, List.setIfInBounds_toArray, List.set_cons_succ, List.set_cons_zero]
          refine wpFreeD_load1W (by kernel_rfl) rfl rfl (p := ⟨b, o + j * 5 + 4, none⟩) (fun w1 h1 => C4.out w1 (le_trans (le_drewN _ _) h1)) ukindFloat32 ?_
          simp only [Act.put, List.setIfInBounds_toArray, List.set_cons_succ, List.set_cons_zero]
          refine wpFreeD_oneW (by kernel_rfl) (.slice (some ⟨b', o', none⟩) n cap') (fun w1 _ => by kernel_rfl) ?_
          simp only [Act.put, List.setIfInBounds_toArray, List.set_cons_succ, List.set_cons_zero]
          refine wpFreeD_oneW (by kernel_rfl) (.int .i64 j) (fun w1 _ => by kernel_rfl) ?_
          simp only [Act.put, List.setIfInBounds_toArray, List.set_cons_succ, List.set_cons_zero]
          refine wpFreeD_indexWG (by kernel_rfl) rfl rfl rfl Try.underlying67 uinfoInstrumentI hlt ?_
          simp only [Act.put, List.setIfInBounds_toArray, List.set_cons_succ, List.set_cons_zero]
          refine wpFreeD_oneW (by kernel_rfl) (.pointer (some ⟨b', o' + j * 5 + 4, none⟩)) (fun w1 _ => by kernel_rfl) ?_
          simp only [Act.put, List.setIfInBounds_toArray, List.set_cons_succ, List.set_cons_zero]
          refine wpFreeD_load1W (by kernel_rfl) rfl rfl (p := ⟨b', o' + j * 5 + 4, none⟩) (fun w1 h1 => D4.out w1 (le_trans (le_drewN _ _) h1)) ukindFloat32 ?_
          simp only [Act.put, List.setIfInBounds_toArray, List.set_cons_succ, List.set_cons_zero]
          refine wpFreeD_callW (by kernel_rfl) rfl Try.func58 (by kernel_rfl) (by kernel_rfl) (args := #[.float .f32 c1, .float .f32 c1']) (by simp [Act.eval]) (fun v w1 w2 hw hv => hv) (fun w1 hw1 _ => (H4.out w1).mono ?_) ?_
          · rintro e w2 ⟨rfl, rfl⟩
            exact ⟨_, rfl, le_refl _, rfl⟩
          rintro v ⟨_, _, _, hv⟩
          replace hv : v = .bool (sameB c1 c1') := hv
          rw [n4.out] at hv
          subst hv
          simp only [Act.put, List.setIfInBounds_toArray, List.set_cons_succ, List.set_cons_zero]
          refine wpFreeD_oneW (by kernel_rfl) (.bool true) (fun w1 _ => by kernel_rfl) ?_
          simp only [Act.put, List.setIfInBounds_toArray, List.set_cons_succ, List.set_cons_zero]
          refine wpFreeD_one rfl (.bool true) (fun w1 _ => by kernel_rfl) ?_
          simp only [Act.put, List.setIfInBounds_toArray, List.set_cons_succ, List.set_cons_zero]
          refine wpFreeD_nil (fun wR hwR _ => ?_)
          have HL1 := hid (le_trans HL.out (le_trans (le_drewN _ _) hwR))
          clear hwR
          go_wp2
          go_ret
          exact ⟨ret_b (allB_no hlt hb.out).symm, HL1.out⟩
        have p4 := hid h4
        have n4 := hid h4
        clear h4
        have hb := hid (SE.out.symm.trans (show sameI (inT x j) (inT x' j) (inK x j) (inK x' j) a1 a1' b1 b1' c1 c1' = true by unfold sameI; simp only [p0.out, p1.out, p2.out, p3.out, p4.out, Bool.and_false, Bool.false_and, Bool.and_true, Bool.true_and]))
        clear SE
        go_wp2_with fail
        refine region_freeD (E := leX) (fun _ args _ v => v = .bool (sameA args)) (by kernel_rfl) (by kernel_rfl) ?_
        refine wpFreeD_one rfl (.slice (some ⟨b, o, none⟩) n cap) (fun w1 _ => by kernel_rfl) ?_
        simp only [Act.put, List.setIfInBounds_toArray, List.set_cons_succ, List.set_cons_zero]
        refine wpFreeD_one rfl (.int .i64 j) (fun w1 _ => by kernel_rfl) ?_
        simp only [Act.put, List.setIfInBounds_toArray, List.set_cons_succ, List.set_cons_zero]
        refine wpFreeD_indexW0 rfl rfl rfl rfl Try.underlying67 uinfoInstrumentI hlt ?_
        simp only [Act.put, List.setIfInBounds_toArray, List.set_cons_succ, List.set_cons_zero]
        refine wpFreeD_one rfl (.pointer (some ⟨b, o + j * 5, none⟩)) (fun w1 _ => by kernel_rfl) ?_
        simp only [Act.put, List.setIfInBounds_toArray, List.set_cons_succ, List.set_cons_zero]
        refine wpFreeD_load1 rfl rfl rfl (p := ⟨b, o + j * 5, none⟩) (fun w1 h1 => C0.out w1 (le_trans (le_drewN _ _) h1)) ukindString ?_
        simp only [Act.put, List.setIfInBounds_toArray, List.set_cons_succ, List.set_cons_zero]
        refine wpFreeD_one rfl (.slice (some ⟨b', o', none⟩) n cap') (fun w1 _ => by kernel_rfl) ?_
        simp only [Act.put, List.setIfInBounds_toArray, List.set_cons_succ, List.set_cons_zero]
        refine wpFreeD_one rfl (.int .i64 j) (fun w1 _ => by kernel_rfl) ?_
        simp only [Act.put, List.setIfInBounds_toArray, List.set_cons_succ, List.set_cons_zero]
        refine wpFreeD_indexW0 rfl rfl rfl rfl Try.underlying67 uinfoInstrumentI hlt ?_
        simp only [Act.put, List.setIfInBounds_toArray, List.set_cons_succ, List.set_cons_zero]
        refine wpFreeD_one rfl (.pointer (some ⟨b', o' + j * 5, none⟩)) (fun w1 _ => by kernel_rfl) ?_
        simp only [Act.put, List.setIfInBounds_toArray, List.set_cons_succ, List.set_cons_zero]
        refine wpFreeD_load1 rfl rfl rfl (p := ⟨b', o' + j * 5, none⟩) (fun w1 h1 => D0.out w1 (le_trans (le_drewN _ _) h1)) ukindString ?_
        simp only [Act.put, List.setIfInBounds_toArray, List.set_cons_succ, List.set_cons_zero]
        refine wpFreeD_one rfl (.bool ((inT x j).toList != (inT x' j).toList)) (fun w1 _ => by kernel_rfl) ?_
        simp only [Act.put, List.setIfInBounds_toArray, List.set_cons_succ, List.set_cons_zero]
        rw [n0.out]
        refine wpFreeD_one rfl (.bool false) (fun w1 _ => by kernel_rfl) ?_
        simp only [Act.put, List.setIfInBounds_toArray, List.set_cons_succ, List.set_cons_zero]
        refine wpFreeD_oneW (by kernel_rfl) (.slice (some ⟨b, o, none⟩) n cap) (fun w1 _ => by kernel_rfl) ?_
        simp only [Act.put, List.setIfInBounds_toArray, List.set_cons_succ, List.set_cons_zero]
        refine wpFreeD_oneW (by kernel_rfl) (.int .i64 j) (fun w1 _ => by kernel_rfl) ?_
        simp only [Act.put, List.setIfInBounds_toArray, List.set_cons_succ, List.set_cons_zero]
        refine wpFreeD_indexWG (by kernel_rfl) rfl rfl rfl Try.underlying67 uinfoInstrumentI hlt ?_
        simp only [Act.put, List.setIfInBounds_toArray, List.set_cons_succ, List.set_cons_zero]
        refine wpFreeD_oneW (by kernel_rfl) (.pointer (some ⟨b, o + j * 5 + 1, none⟩)) (fun w1 _ => by kernel_rfl) ?_
        simp only [Act.put, List.setIfInBounds_toArray, List.set_cons_succ, List.set_cons_zero]
        refine wpFreeD_load1W (by kernel_rfl) rfl rfl (p := ⟨b, o + j * 5 + 1, none⟩) (fun w1 h1 => C1.out w1 (le_trans (le_drewN _ _) h1)) ukindInt64 ?_
        simp only [Act.put, List.setIfInBounds_toArray, List.set_cons_succ, List.set_cons_zero]
        refine wpFreeD_oneW (by kernel_rfl) (.slice (some ⟨b', o', none⟩) n cap') (fun w1 _ => by kernel_rfl) ?_
        simp only [Act.put, List.setIfInBounds_toArray, List.set_cons_succ, List.set_cons_zero]
        refine wpFreeD_oneW (by kernel_rfl) (.int .i64 j) (fun w1 _ => by kernel_rfl) ?_
        simp only [Act.put, List.setIfInBounds_toArray, List.set_cons_succ, List.set_cons_zero]
        refine wpFreeD_indexWG (by kernel_rfl) rfl rfl rfl Try.underlying67 uinfoInstrumentI hlt ?_
        simp only [Act.put, List.setIfInBounds_toArray, List.set_cons_succ, List.set_cons_zero]
        refine wpFreeD_oneW (by kernel_rfl) (.pointer (some ⟨b', o' + j * 5 + 1, none⟩)) (fun w1 _ => by kernel_rfl) ?_
        simp only [Act.put, List.setIfInBounds_toArray, List.set_cons_succ, List.set_cons_zero]
        refine wpFreeD_load1W (by kernel_rfl) rfl rfl (p := ⟨b', o' + j * 5 + 1, none⟩) (fun w1 h1 => D1.out w1 (le_trans (le_drewN _ _) h1)) ukindInt64 ?_
        simp only [Act.put, List.setIfInBounds_toArray, List.set_cons_succ, List.set_cons_zero]
        refine wpFreeD_oneW (by kernel_rfl) (.bool (inK x j != inK x' j)) (fun w1 _ => by kernel_rfl) ?_
        simp only [Act.put, List.setIfInBounds_toArray, List.set_cons_succ, List.set_cons_zero]
        rw [n1.out]
        refine wpFreeD_one rfl (.bool false) (fun w1 _ => by kernel_rfl) ?_
        simp only [Act.put, List.setIfInBounds_toArray, List.set_cons_succ, List.set_cons_zero]
        refine wpFreeD_one rfl (.bool false) (fun w1 _ => by kernel_rfl) ?_
        simp only [Act.put, List.setIfInBounds_toArray, List.set_cons_succ, List.set_cons_zero]
        refine wpFreeD_oneW (by kernel_rfl) (.slice (some ⟨b, o, none⟩) n cap) (fun w1 _ => by kernel_rfl) ?_
        simp only [Act.put, List.setIfInBounds_toArray, List.set_cons_succ, List.set_cons_zero]
        refine wpFreeD_oneW (by kernel_rfl) (.int .i64 j) (fun w1 _ => by kernel_rfl) ?_
        simp only [Act.put, List.setIfInBounds_toArray, List.set_cons_succ, List.set_cons_zero]
        refine wpFreeD_indexWG (by kernel_rfl) rfl rfl rfl Try.underlying67 uinfoInstrumentI hlt ?_
        simp only [Act.put, List.setIfInBounds_toArray, List.set_cons_succ, List.set_cons_zero]
        refine wpFreeD_oneW (by kernel_rfl) (.pointer (some ⟨b, o + j * 5 + 2, none⟩)) (fun w1 _ => by kernel_rfl) ?_
        simp only [Act.put, List.setIfInBounds_toArray, List.set_cons_succ, List.set_cons_zero]
        refine wpFreeD_load1W (by kernel_rfl) rfl rfl (p := ⟨b, o + j * 5 + 2, none⟩) (fun w1 h1 => C2.out w1 (le_trans (le_drewN _ _) h1)) ukindFloat32 ?_
        simp only [Act.put, List.setIfInBounds_toArray, List.set_cons_succ, List.set_cons_zero]
        refine wpFreeD_oneW (by kernel_rfl) (.slice (some ⟨b', o', none⟩) n cap') (fun w1 _ => by kernel_rfl) ?_
        simp only [Act.put, List.setIfInBounds_toArray, List.set_cons_succ, List.set_cons_zero]
        refine wpFreeD_oneW (by kernel_rfl) (.int .i64 j) (fun w1 _ => by kernel_rfl) ?_
        simp only [Act.put, List.setIfInBounds_toArray, List.set_cons_succ, List.set_cons_zero]
        refine wpFreeD_indexWG (by kernel_rfl) rfl rfl rfl Try.underlying67 uinfoInstrumentI hlt ?_
        simp only [Act.put, List.setIfInBounds_toArray, List.set_cons_succ, List.set_cons_zero]
        refine wpFreeD_oneW (by kernel_rfl) (.pointer (some ⟨b', o' + j * 5 + 2, none⟩)) (fun w1 _ => by kernel_rfl) ?_
        simp only [Act.put, List.setIfInBounds_toArray, List.set_cons_succ, List.set_cons_zero]
        refine wpFreeD_load1W (by kernel_rfl) rfl rfl (p := ⟨b', o' + j * 5 + 2, none⟩) (fun w1 h1 => D2.out w1 (le_trans (le_drewN _ _) h1)) ukindFloat32 ?_
        simp only [Act.put, List.setIfInBounds_toArray, List.set_cons_succ, List.set_cons_zero]
        refine wpFreeD_callW (by kernel_rfl) rfl Try.func58 (by kernel_rfl) (by kernel_rfl) (args := #[.float .f32 a1, .float .f32 a1']) (by simp [Act.eval]) (fun v w1 w2 hw hv => hv) (fun w1 hw1 _ => (H2.out w1).mono ?_) ?_
        · rintro e w2 ⟨rfl, rfl⟩
          exact ⟨_, rfl, le_refl _, rfl⟩
        rintro v ⟨_, _, _, hv⟩
        replace hv : v = .bool (sameB a1 a1') := hv
        rw [n2.out] at hv
        subst hv
        simp only [Act.put, List.setIfInBounds_toArray, List.set_cons_succ, List.set_cons_zero]
        refine wpFreeD_oneW (by kernel_rfl) (.bool false) (fun w1 _ => by kernel_rfl) ?_
        simp only [Act.put, List.setIfInBounds_toArray, List.set_cons_succ, List.set_cons_zero]
        refine wpFreeD_one rfl (.bool false) (fun w1 _ => by kernel_rfl) ?_
        simp only [Act.put, List.setIfInBounds_toArray, List.set_cons_succ, List.set_cons_zero]
        refine wpFreeD_one rfl (.bool false) (fun w1 _ => by kernel_rfl) ?_
        simp only [Act.put, List.setIfInBounds_toArray, List.set_cons_succ, List.set_cons_zero]
        refine wpFreeD_oneW (by kernel_rfl) (.slice (some ⟨b, o, none⟩) n cap) (fun w1 _ => by kernel_rfl) ?_
        simp only [Act.put, List.setIfInBounds_toArray, List.set_cons_succ, List.set_cons_zero]
        refine wpFreeD_oneW (by kernel_rfl) (.int .i64 j) (fun w1 _ => by kernel_rfl) ?_
        simp only [Act.put, List.setIfInBounds_toArray, List.set_cons_succ, List.set_cons_zero]
        refine wpFreeD_indexWG (by kernel_rfl) rfl rfl rfl Try.underlying67 uinfoInstrumentI hlt ?_
        simp only [Act.put, List.setIfInBounds_toArray, List.set_cons_succ, List.set_cons_zero]
        refine wpFreeD_oneW (by kernel_rfl) (.pointer (some ⟨b, o + j * 5 + 3, none⟩)) (fun w1 _ => by kernel_rfl) ?_
        simp only [Act.put, List.setIfInBounds_toArray, List.set_cons_succ, List.set_cons_zero]
        refine wpFreeD_load1W (by kernel_rfl) rfl rfl (p := ⟨b, o + j * 5 + 3, none⟩) (fun w1 h1 => C3.out w1 (le_trans (le_drewN _ _) h1)) ukindFloat32 ?_
        simp only [Act.put, List.setIfInBounds_toArray, List.set_cons_succ, List.set_cons_zero]
        refine wpFreeD_oneW (by kernel_rfl) (.slice (some ⟨b', o', none⟩) n cap') (fun w1 _ => by kernel_rfl) ?_
        simp only [Act.put, List.setIfInBounds_toArray, List.set_cons_succ, List.set_cons_zero]
        refine wpFreeD_oneW (by kernel_rfl) (.int .i64 j) (fun w1 _ => by kernel_rfl) ?_
        simp only [Act.put, List.setIfInBounds_toArray, List.set_cons_succ, List.set_cons_zero]
        refine wpFreeD_indexWG (by kernel_rfl) rfl rfl rfl Try.underlying67 uinfoInstrumentI hlt ?_
        simp only [Act.put, List.setIfInBounds_toArray, List.set_cons_succ, List.set_cons_zero]
        refine wpFreeD_oneW (by kernel_rfl) (.pointer (some ⟨b', o' + j * 5 + 3, none⟩)) (fun w1 _ => by kernel_rfl) ?_
        simp only [Act.put, List.setIfInBounds_toArray, List.set_cons_succ, List.set_cons_zero]
        refine wpFreeD_load1W (by kernel_rfl) rfl rfl (p := ⟨b', o' + j * 5 + 3, none⟩) (fun w1 h1 => D3.out w1 (le_trans (le_drewN _ _) h1)) ukindFloat32 ?_
        simp only [Act.put, List.setIfInBounds_toArray, List.set_cons_succ, List.set_cons_zero]
        refine wpFreeD_callW (by kernel_rfl) rfl Try.func58 (by kernel_rfl) (by kernel_rfl) (args := #[.float .f32 b1, .float .f32 b1']) (by simp [Act.eval]) (fun v w1 w2 hw hv => hv) (fun w1 hw1 _ => (H3.out w1).mono ?_) ?_
        · rintro e w2 ⟨rfl, rfl⟩
          exact ⟨_, rfl, le_refl _, rfl⟩
        rintro v ⟨_, _, _, hv⟩
        replace hv : v = .bool (sameB b1 b1') := hv
        rw [n3.out] at hv
        subst hv
        simp only [Act.put, List.setIfInBounds_toArray, List.set_cons_succ, List.set_cons_zero]
        refine wpFreeD_oneW (by kernel_rfl) (.bool false) (fun w1 _ => by kernel_rfl) ?_
        simp only [Act.put, List.setIfInBounds_toArray, List.set_cons_succ, List.set_cons_zero]
        refine wpFreeD_one rfl (.bool false) (fun w1 _ => by kernel_rfl) ?_
        simp only [Act.put, List.setIfInBounds_toArray, List.set_cons_succ, List.set_cons_zero]
        refine wpFreeD_one rfl (.bool false) (fun w1 _ => by kernel_rfl) ?_
        simp only [Act.put, List.setIfInBounds_toArray, List.set_cons_succ, List.set_cons_zero]
        refine wpFreeD_oneW (by kernel_rfl) (.slice (some ⟨b, o, none⟩) n cap) (fun w1 _ => by kernel_rfl) ?_
        simp only [Act.put, List.setIfInBounds_toArray, List.set_cons_succ, List.set_cons_zero]
        refine wpFreeD_oneW (by kernel_rfl) (.int .i64 j) (fun w1 _ => by kernel_rfl) ?_
        simp only [Act.put, List.setIfInBounds_toArray, List.set_cons_succ, List.set_cons_zero]
        refine wpFreeD_indexWG (by kernel_rfl) rfl rfl rfl Try.underlying67 uinfoInstrumentI hlt ?_
        simp only [Act.put, List.setIfInBounds_toArray, List.set_cons_succ, List.set_cons_zero]
        refine wpFreeD_oneW (by kernel_rfl) (.pointer (some ⟨b, o + j * 5 + 4, none⟩)) (fun w1 _ => by kernel_rfl) ?_
        simp only [Act.put, List.setIfInBounds_toArray, List.set_cons_succ, List.set_cons_zero]
        refine wpFreeD_load1W (by kernel_rfl) rfl rfl (p := ⟨b, o + j * 5 + 4, none⟩) (fun w1 h1 => C4.out w1 (le_trans (le_drewN _ _) h1)) ukindFloat32 ?_
        simp only [Act.put, List.setIfInBounds_toArray, List.set_cons_succ, List.set_cons_zero]
        refine wpFreeD_oneW (by kernel_rfl) (.slice (some ⟨b', o', none⟩) n cap') (fun w1 _ => by kernel_rfl) ?_
        simp only [Act.put, List.setIfInBounds_toArray, List.set_cons_succ, List.set_cons_zero]
        refine wpFreeD_oneW (by kernel_rfl) (.int .i64 j) (fun w1 _ => by kernel_rfl) ?_
        simp only [Act.put, List.setIfInBounds_toArray, List.set_cons_succ, List.set_cons_zero]
        refine wpFreeD_indexWG (by kernel_rfl) rfl rfl rfl Try.underlying67 uinfoInstrumentI hlt ?_
        simp only [Act.put, List.setIfInBounds_toArray, List.set_cons_succ, List.set_cons_zero]
        refine wpFreeD_oneW (by kernel_rfl) (.pointer (some ⟨b', o' + j * 5 + 4, none⟩)) (fun w1 _ => by kernel_rfl) ?_
        simp only [Act.put, List.setIfInBounds_toArray, List.set_cons_succ, List.set_cons_zero]
        refine wpFreeD_load1W (by kernel_rfl) rfl rfl (p := ⟨b', o' + j * 5 + 4, none⟩) (fun w1 h1 => D4.out w1 (le_trans (le_drewN _ _) h1)) ukindFloat32 ?_
        simp only [Act.put, List.setIfInBounds_toArray, List.set_cons_succ, List.set_cons_zero]
        refine wpFreeD_callW (by kernel_rfl) rfl Try.func58 (by kernel_rfl) (by kernel_rfl) (args := #[.float .f32 c1, .float .f32 c1']) (by simp [Act.eval]) (fun v w1 w2 hw hv => hv) (fun w1 hw1 _ => (H4.out w1).mono ?_) ?_
        · rintro e w2 ⟨rfl, rfl⟩
          exact ⟨_, rfl, le_refl _, rfl⟩
        rintro v ⟨_, _, _, hv⟩
        replace hv : v = .bool (sameB c1 c1') := hv
        rw [n4.out] at hv
        subst hv
        simp only [Act.put, List.setIfInBounds_toArray, List.set_cons_succ, List.set_cons_zero]
        refine wpFreeD_oneW (by kernel_rfl) (.bool false) (fun w1 _ => by kernel_rfl) ?_
        simp only [Act.put, List.setIfInBounds_toArray, List.set_cons_succ, List.set_cons_zero]
        refine wpFreeD_one rfl (.bool false) (fun w1 _ => by kernel_rfl) ?_
        simp only [Act.put, List.setIfInBounds_toArray, List.set_cons_succ, List.set_cons_zero]
        refine wpFreeD_nil (fun wR hwR _ => ?_)
        have HL1 := hid (le_trans HL.out (le_trans (le_drewN _ _) hwR))
        clear hwR
        go_wp2
        go_roundw
        case rel => exact ⟨j + 1, by omega, by go_num, fun i hi => by rcases Nat.lt_or_ge i j with h | h; exact HJ.out i h; rw [show i = j by omega]; exact hb.out, HL1.out⟩
        case measure => simp [intOf]; omega
      · obtain rfl : j = n := by omega
        go_wp2
        go_ret
        exact ⟨ret_b (allB_yes HJ.out).symm, HL.out⟩
  · rw [sameIns_ne hne]
    have hne' : ¬ (n : Int) = (n' : Int) := by omega
    rcases hs.form with ⟨rfl, rfl⟩ | ⟨b, o, cap, rfl, hc, hm⟩ <;> rcases hs'.form with ⟨rfl, rfl⟩ | ⟨b', o', cap', rfl, hc', hm'⟩
    all_goals first | exact absurd rfl hne | skip
    all_goals
      clear hs hs' hx hx'
      try unfold maxLen at hm
      try unfold maxLen at hm'
      go_enter Try.func60, Try.ntmps60
      go_wp2
      go_ret
      exact ⟨rfl, le_refl _⟩
end Go.Proofs.Ytnkjmgadnejdlac

/- 'SameScore' of both. -/
namespace Go.Proofs.Ytnkjmgadnejdlac
open Go.RowKit Go.Fk
set_option maxRecDepth 100000 in
set_option maxHeartbeats 4000000 in
theorem i_isLike (B BZ : Nat) (sD sI sE sDZ sIZ sEZ : Value) (r b o : Nat) (xD : Nat → Nat) (nD : Nat) (xI : Nat → CD) (nI : Nat) (xE : Nat → CD) (nE : Nat) (rZ bZ oZ : Nat) (xDZ : Nat → Nat) (nDZ : Nat) (xIZ : Nat → CD) (nIZ : Nat) (xEZ : Nat → CD) (nEZ : Nat) (w : World) (hD : (slT xD nD).RdN w B sD) (hI : (CD.sl 5 nI xI).RdN w B sI) (hE : (CD.sl 6 nE xE).RdN w B sE) (kI : InsOk xI nI) (kE : EvsOk xE nE) (hDZ : (slT xDZ nDZ).RdN w BZ sDZ) (hIZ : (CD.sl 5 nIZ xIZ).RdN w BZ sIZ) (hEZ : (CD.sl 6 nEZ xEZ).RdN w BZ sEZ) (kIZ : InsOk xIZ nIZ) (kEZ : EvsOk xEZ nEZ) : Calls Try.prog 64 #[.agg #[.float .f32 r, .float .f32 b, .float .f32 o, sD, sI, sE], .agg #[.float .f32 rZ, .float .f32 bZ, .float .f32 oZ, sDZ, sIZ, sEZ]] w (Out_b (sameB r rZ && sameT b o xD nD bZ oZ xDZ nDZ && sameIns xI xIZ nI nIZ) w) := by
  have HR := hid (fun (w' : World) => i_SameSample r rZ w')
  have HT := hid (fun (w1 : World) (hl : le w w1) => i_SameTuning b o bZ oZ xD xDZ nD nDZ B BZ sD sDZ w1 (hD.le hl) (hDZ.le hl))
  have HN := hid (fun (w1 : World) (hl : le w w1) => i_EqualInstruments B BZ sI sIZ xI xIZ nI nIZ w1 (hI.le hl) (hIZ.le hl) kI kIZ)
  clear hD hI hE kI kE hDZ hIZ hEZ kIZ kEZ
  rcases bool_ft (sameB r rZ) with h0 | h0
  · have E := hid (show (sameB r rZ && sameT b o xD nD bZ oZ xDZ nDZ && sameIns xI xIZ nI nIZ) = false by simp [h0])
    rw [h0] at HR
    clear h0
    have F := ((Frg.nil w).box 70 #[.float .f32 r, .float .f32 b, .float .f32 o, sD, sI, sE]).box 70 #[.float .f32 rZ, .float .f32 bZ, .float .f32 oZ, sDZ, sIZ, sEZ]
    simp only [World.size_alloc] at F
    go_enter Try.func64, Try.ntmps64
    go_wp2_with (first | ((with_reducible refine at_load rfl ?_); first | (with_reducible refine wpList_load1C rfl (g := w.heap.size) (f := 0) rfl (v := .float .f32 r) (by kernel_rfl) (F.row m1) rfl ukindFloat32 ?_) | (with_reducible refine wpList_load1C rfl (g := w.heap.size) (f := 4) rfl (v := sI) (by kernel_rfl) (F.row m1) rfl ukindInstrumentSI ?_) | (with_reducible refine wpList_load1C rfl (g := w.heap.size) (f := 5) rfl (v := sE) (by kernel_rfl) (F.row m1) rfl ukindEventSI ?_) | (with_reducible refine wpList_loadWC rfl (p := ⟨w.heap.size, 1, none⟩) rfl [.float .f32 b, .float .f32 o, sD] (by kernel_rfl) (Row.at_part (F.row m1) (tunAt r b o sD sI sE)) Try.underlying66 rfl uinfoTuningI rfl ?_) | (with_reducible refine wpList_load1C rfl (g := w.heap.size + 1) (f := 0) rfl (v := .float .f32 rZ) (by kernel_rfl) (F.row m0) rfl ukindFloat32 ?_) | (with_reducible refine wpList_load1C rfl (g := w.heap.size + 1) (f := 4) rfl (v := sIZ) (by kernel_rfl) (F.row m0) rfl ukindInstrumentSI ?_) | (with_reducible refine wpList_load1C rfl (g := w.heap.size + 1) (f := 5) rfl (v := sEZ) (by kernel_rfl) (F.row m0) rfl ukindEventSI ?_) | (with_reducible refine wpList_loadWC rfl (p := ⟨w.heap.size + 1, 1, none⟩) rfl [.float .f32 bZ, .float .f32 oZ, sDZ] (by kernel_rfl) (Row.at_part (F.row m0) (tunAt rZ bZ oZ sDZ sIZ sEZ)) Try.underlying66 rfl uinfoTuningI rfl ?_)) | (go_at_call 103; ((with_reducible refine (HR.out _).mono ?_); rintro e w1 ⟨rfl, rfl⟩)) | (go_at_call 104; ((with_reducible refine (HT.out _ F.below).mono ?_); rintro e w1 ⟨rfl, hl⟩; replace F := F.le hl; clear hl)) | (go_at_call 105; ((with_reducible refine (HN.out _ F.below).mono ?_); rintro e w1 ⟨rfl, hl⟩; replace F := F.le hl; clear hl)) | ((with_reducible refine listN F ?_); clear F; intro wN F))
    go_ret
    exact ⟨ret_b E.out.symm, F.below⟩
  have p0 := hid h0
  rw [h0] at HR
  clear h0
  rcases bool_ft (sameT b o xD nD bZ oZ xDZ nDZ) with h1 | h1
  · have E := hid (show (sameB r rZ && sameT b o xD nD bZ oZ xDZ nDZ && sameIns xI xIZ nI nIZ) = false by simp [p0.out, h1])
    rw [h1] at HT
    clear h1
    have F := ((Frg.nil w).box 70 #[.float .f32 r, .float .f32 b, .float .f32 o, sD, sI, sE]).box 70 #[.float .f32 rZ, .float .f32 bZ, .float .f32 oZ, sDZ, sIZ, sEZ]
    simp only [World.size_alloc] at F
    go_enter Try.func64, Try.ntmps64
    go_wp2_with (first | ((with_reducible refine at_load rfl ?_); first | (with_reducible refine wpList_load1C rfl (g := w.heap.size) (f := 0) rfl (v := .float .f32 r) (by kernel_rfl) (F.row m1) rfl ukindFloat32 ?_) | (with_reducible refine wpList_load1C rfl (g := w.heap.size) (f := 4) rfl (v := sI) (by kernel_rfl) (F.row m1) rfl ukindInstrumentSI ?_) | (with_reducible refine wpList_load1C rfl (g := w.heap.size) (f := 5) rfl (v := sE) (by kernel_rfl) (F.row m1) rfl ukindEventSI ?_) | (with_reducible refine wpList_loadWC rfl (p := ⟨w.heap.size, 1, none⟩) rfl [.float .f32 b, .float .f32 o, sD] (by kernel_rfl) (Row.at_part (F.row m1) (tunAt r b o sD sI sE)) Try.underlying66 rfl uinfoTuningI rfl ?_) | (with_reducible refine wpList_load1C rfl (g := w.heap.size + 1) (f := 0) rfl (v := .float .f32 rZ) (by kernel_rfl) (F.row m0) rfl ukindFloat32 ?_) | (with_reducible refine wpList_load1C rfl (g := w.heap.size + 1) (f := 4) rfl (v := sIZ) (by kernel_rfl) (F.row m0) rfl ukindInstrumentSI ?_) | (with_reducible refine wpList_load1C rfl (g := w.heap.size + 1) (f := 5) rfl (v := sEZ) (by kernel_rfl) (F.row m0) rfl ukindEventSI ?_) | (with_reducible refine wpList_loadWC rfl (p := ⟨w.heap.size + 1, 1, none⟩) rfl [.float .f32 bZ, .float .f32 oZ, sDZ] (by kernel_rfl) (Row.at_part (F.row m0) (tunAt rZ bZ oZ sDZ sIZ sEZ)) Try.underlying66 rfl uinfoTuningI rfl ?_)) | (go_at_call 103; ((with_reducible refine (HR.out _).mono ?_); rintro e w1 ⟨rfl, rfl⟩)) | (go_at_call 104; ((with_reducible refine (HT.out _ F.below).mono ?_); rintro e w1 ⟨rfl, hl⟩; replace F := F.le hl; clear hl)) | (go_at_call 105; ((with_reducible refine (HN.out _ F.below).mono ?_); rintro e w1 ⟨rfl, hl⟩; replace F := F.le hl; clear hl)) | ((with_reducible refine listN F ?_); clear F; intro wN F))
    go_ret
    exact ⟨ret_b E.out.symm, F.below⟩
  have p1 := hid h1
  rw [h1] at HT
  clear h1
  · have E := hid (show (sameB r rZ && sameT b o xD nD bZ oZ xDZ nDZ && sameIns xI xIZ nI nIZ) = sameIns xI xIZ nI nIZ by simp [p0.out, p1.out])
    have F := ((Frg.nil w).box 70 #[.float .f32 r, .float .f32 b, .float .f32 o, sD, sI, sE]).box 70 #[.float .f32 rZ, .float .f32 bZ, .float .f32 oZ, sDZ, sIZ, sEZ]
    simp only [World.size_alloc] at F
    go_enter Try.func64, Try.ntmps64
    go_wp2_with (first | ((with_reducible refine at_load rfl ?_); first | (with_reducible refine wpList_load1C rfl (g := w.heap.size) (f := 0) rfl (v := .float .f32 r) (by kernel_rfl) (F.row m1) rfl ukindFloat32 ?_) | (with_reducible refine wpList_load1C rfl (g := w.heap.size) (f := 4) rfl (v := sI) (by kernel_rfl) (F.row m1) rfl ukindInstrumentSI ?_) | (with_reducible refine wpList_load1C rfl (g := w.heap.size) (f := 5) rfl (v := sE) (by kernel_rfl) (F.row m1) rfl ukindEventSI ?_) | (with_reducible refine wpList_loadWC rfl (p := ⟨w.heap.size, 1, none⟩) rfl [.float .f32 b, .float .f32 o, sD] (by kernel_rfl) (Row.at_part (F.row m1) (tunAt r b o sD sI sE)) Try.underlying66 rfl uinfoTuningI rfl ?_) | (with_reducible refine wpList_load1C rfl (g := w.heap.size + 1) (f := 0) rfl (v := .float .f32 rZ) (by kernel_rfl) (F.row m0) rfl ukindFloat32 ?_) | (with_reducible refine wpList_load1C rfl (g := w.heap.size + 1) (f := 4) rfl (v := sIZ) (by kernel_rfl) (F.row m0) rfl ukindInstrumentSI ?_) | (with_reducible refine wpList_load1C rfl (g := w.heap.size + 1) (f := 5) rfl (v := sEZ) (by kernel_rfl) (F.row m0) rfl ukindEventSI ?_) | (with_reducible refine wpList_loadWC rfl (p := ⟨w.heap.size + 1, 1, none⟩) rfl [.float .f32 bZ, .float .f32 oZ, sDZ] (by kernel_rfl) (Row.at_part (F.row m0) (tunAt rZ bZ oZ sDZ sIZ sEZ)) Try.underlying66 rfl uinfoTuningI rfl ?_)) | (go_at_call 103; ((with_reducible refine (HR.out _).mono ?_); rintro e w1 ⟨rfl, rfl⟩)) | (go_at_call 104; ((with_reducible refine (HT.out _ F.below).mono ?_); rintro e w1 ⟨rfl, hl⟩; replace F := F.le hl; clear hl)) | (go_at_call 105; ((with_reducible refine (HN.out _ F.below).mono ?_); rintro e w1 ⟨rfl, hl⟩; replace F := F.le hl; clear hl)) | ((with_reducible refine listN F ?_); clear F; intro wN F))
    go_ret
    exact ⟨ret_b E.out.symm, F.below⟩
set_option maxRecDepth 100000 in
set_option maxHeartbeats 4000000 in
theorem i_SameScore (B BZ : Nat) (sD sI sE sDZ sIZ sEZ : Value) (r b o : Nat) (xD : Nat → Nat) (nD : Nat) (xI : Nat → CD) (nI : Nat) (xE : Nat → CD) (nE : Nat) (rZ bZ oZ : Nat) (xDZ : Nat → Nat) (nDZ : Nat) (xIZ : Nat → CD) (nIZ : Nat) (xEZ : Nat → CD) (nEZ : Nat) (w : World) (hD : (slT xD nD).RdN w B sD) (hI : (CD.sl 5 nI xI).RdN w B sI) (hE : (CD.sl 6 nE xE).RdN w B sE) (kI : InsOk xI nI) (kE : EvsOk xE nE) (hDZ : (slT xDZ nDZ).RdN w BZ sDZ) (hIZ : (CD.sl 5 nIZ xIZ).RdN w BZ sIZ) (hEZ : (CD.sl 6 nEZ xEZ).RdN w BZ sEZ) (kIZ : InsOk xIZ nIZ) (kEZ : EvsOk xEZ nEZ) : Calls Try.prog 26 #[.agg #[.float .f32 r, .float .f32 b, .float .f32 o, sD, sI, sE], .agg #[.float .f32 rZ, .float .f32 bZ, .float .f32 oZ, sDZ, sIZ, sEZ]] w (Out_b (sameSc r b o xD nD xI nI xE nE rZ bZ oZ xDZ nDZ xIZ nIZ xEZ nEZ) w) := by
  have HL := hid (fun (w1 : World) (hl : le w w1) => i_isLike B BZ sD sI sE sDZ sIZ sEZ r b o xD nD xI nI xE nE rZ bZ oZ xDZ nDZ xIZ nIZ xEZ nEZ w1 (hD.le hl) (hI.le hl) (hE.le hl) kI kE (hDZ.le hl) (hIZ.le hl) (hEZ.le hl) kIZ kEZ)
  have HE := hid (fun (w1 : World) (hl : le w w1) => i_EqualEvents B BZ sE sEZ xE xEZ nE nEZ w1 (hE.le hl) (hEZ.le hl) kE kEZ)
  clear hD hI hE kI kE hDZ hIZ hEZ kIZ kEZ
  rcases bool_ft (sameB r rZ && sameT b o xD nD bZ oZ xDZ nDZ && sameIns xI xIZ nI nIZ) with h | h
  · have E := hid (show sameSc r b o xD nD xI nI xE nE rZ bZ oZ xDZ nDZ xIZ nIZ xEZ nEZ = false by unfold sameSc; rw [h, Bool.false_and])
    rw [h] at HL
    clear h
    have F := ((Frg.nil w).box 70 #[.float .f32 r, .float .f32 b, .float .f32 o, sD, sI, sE]).box 70 #[.float .f32 rZ, .float .f32 bZ, .float .f32 oZ, sDZ, sIZ, sEZ]
    simp only [World.size_alloc] at F
    go_enter Try.func26, Try.ntmps26
    go_wp2_with (first | ((with_reducible refine at_load rfl ?_); first | (with_reducible refine wpList_loadG F rfl rfl rfl (by first | exact m0 | exact m1) Try.underlying70 rfl uinfoScoreI rfl ?_) | (with_reducible refine wpList_load1C rfl (g := w.heap.size) (f := 0) rfl (v := .float .f32 r) (by kernel_rfl) (F.row m1) rfl ukindFloat32 ?_) | (with_reducible refine wpList_load1C rfl (g := w.heap.size) (f := 4) rfl (v := sI) (by kernel_rfl) (F.row m1) rfl ukindInstrumentSI ?_) | (with_reducible refine wpList_load1C rfl (g := w.heap.size) (f := 5) rfl (v := sE) (by kernel_rfl) (F.row m1) rfl ukindEventSI ?_) | (with_reducible refine wpList_loadWC rfl (p := ⟨w.heap.size, 1, none⟩) rfl [.float .f32 b, .float .f32 o, sD] (by kernel_rfl) (Row.at_part (F.row m1) (tunAt r b o sD sI sE)) Try.underlying66 rfl uinfoTuningI rfl ?_) | (with_reducible refine wpList_load1C rfl (g := w.heap.size + 1) (f := 0) rfl (v := .float .f32 rZ) (by kernel_rfl) (F.row m0) rfl ukindFloat32 ?_) | (with_reducible refine wpList_load1C rfl (g := w.heap.size + 1) (f := 4) rfl (v := sIZ) (by kernel_rfl) (F.row m0) rfl ukindInstrumentSI ?_) | (with_reducible refine wpList_load1C rfl (g := w.heap.size + 1) (f := 5) rfl (v := sEZ) (by kernel_rfl) (F.row m0) rfl ukindEventSI ?_) | (with_reducible refine wpList_loadWC rfl (p := ⟨w.heap.size + 1, 1, none⟩) rfl [.float .f32 bZ, .float .f32 oZ, sDZ] (by kernel_rfl) (Row.at_part (F.row m0) (tunAt rZ bZ oZ sDZ sIZ sEZ)) Try.underlying66 rfl uinfoTuningI rfl ?_)) | (go_at_call 64; ((with_reducible refine (HL.out _ F.below).mono ?_); rintro e w1 ⟨rfl, hl⟩; replace F := F.le hl; clear hl)) | (go_at_call 65; ((with_reducible refine (HE.out _ F.below).mono ?_); rintro e w1 ⟨rfl, hl⟩; replace F := F.le hl; clear hl)) | ((with_reducible refine listN F ?_); clear F; intro wN F))
    go_ret
    exact ⟨ret_b E.out.symm, F.below⟩
  · have E := hid (show sameSc r b o xD nD xI nI xE nE rZ bZ oZ xDZ nDZ xIZ nIZ xEZ nEZ = sameEvs xE xEZ nE nEZ by unfold sameSc; rw [h, Bool.true_and])
    rw [h] at HL
    clear h
    have F := ((Frg.nil w).box 70 #[.float .f32 r, .float .f32 b, .float .f32 o, sD, sI, sE]).box 70 #[.float .f32 rZ, .float .f32 bZ, .float .f32 oZ, sDZ, sIZ, sEZ]
    simp only [World.size_alloc] at F
    go_enter Try.func26, Try.ntmps26
    go_wp2_with (first | ((with_reducible refine at_load rfl ?_); first | (with_reducible refine wpList_loadG F rfl rfl rfl (by first | exact m0 | exact m1) Try.underlying70 rfl uinfoScoreI rfl ?_) | (with_reducible refine wpList_load1C rfl (g := w.heap.size) (f := 0) rfl (v := .float .f32 r) (by kernel_rfl) (F.row m1) rfl ukindFloat32 ?_) | (with_reducible refine wpList_load1C rfl (g := w.heap.size) (f := 4) rfl (v := sI) (by kernel_rfl) (F.row m1) rfl ukindInstrumentSI ?_) | (with_reducible refine wpList_load1C rfl (g := w.heap.size) (f := 5) rfl (v := sE) (by kernel_rfl) (F.row m1) rfl ukindEventSI ?_) | (with_reducible refine wpList_loadWC rfl (p := ⟨w.heap.size, 1, none⟩) rfl [.float .f32 b, .float .f32 o, sD] (by kernel_rfl) (Row.at_part (F.row m1) (tunAt r b o sD sI sE)) Try.underlying66 rfl uinfoTuningI rfl ?_) | (with_reducible refine wpList_load1C rfl (g := w.heap.size + 1) (f := 0) rfl (v := .float .f32 rZ) (by kernel_rfl) (F.row m0) rfl ukindFloat32 ?_) | (with_reducible refine wpList_load1C rfl (g := w.heap.size + 1) (f := 4) rfl (v := sIZ) (by kernel_rfl) (F.row m0) rfl ukindInstrumentSI ?_) | (with_reducible refine wpList_load1C rfl (g := w.heap.size + 1) (f := 5) rfl (v := sEZ) (by kernel_rfl) (F.row m0) rfl ukindEventSI ?_) | (with_reducible refine wpList_loadWC rfl (p := ⟨w.heap.size + 1, 1, none⟩) rfl [.float .f32 bZ, .float .f32 oZ, sDZ] (by kernel_rfl) (Row.at_part (F.row m0) (tunAt rZ bZ oZ sDZ sIZ sEZ)) Try.underlying66 rfl uinfoTuningI rfl ?_)) | (go_at_call 64; ((with_reducible refine (HL.out _ F.below).mono ?_); rintro e w1 ⟨rfl, hl⟩; replace F := F.le hl; clear hl)) | (go_at_call 65; ((with_reducible refine (HE.out _ F.below).mono ?_); rintro e w1 ⟨rfl, hl⟩; replace F := F.le hl; clear hl)) | ((with_reducible refine listN F ?_); clear F; intro wN F))
    go_ret
    exact ⟨ret_b E.out.symm, F.below⟩
set_option maxRecDepth 100000 in
set_option maxHeartbeats 4000000 in
theorem s_SameScore (B BZ : Nat) (sD sI sE sDZ sIZ sEZ : Value) (r b o : Nat) (xD : Nat → Nat) (nD : Nat) (xI : Nat → CD) (nI : Nat) (xE : Nat → CD) (nE : Nat) (rZ bZ oZ : Nat) (xDZ : Nat → Nat) (nDZ : Nat) (xIZ : Nat → CD) (nIZ : Nat) (xEZ : Nat → CD) (nEZ : Nat) (w : World) (hD : (slT xD nD).RdN w B sD) (hI : (CD.sl 5 nI xI).RdN w B sI) (hE : (CD.sl 6 nE xE).RdN w B sE) (kI : InsOk xI nI) (kE : EvsOk xE nE) (hDZ : (slT xDZ nDZ).RdN w BZ sDZ) (hIZ : (CD.sl 5 nIZ xIZ).RdN w BZ sIZ) (hEZ : (CD.sl 6 nEZ xEZ).RdN w BZ sEZ) (kIZ : InsOk xIZ nIZ) (kEZ : EvsOk xEZ nEZ) : Calls Try.prog 24 #[.agg #[.float .f32 r, .float .f32 b, .float .f32 o, sD, sI, sE], .agg #[.float .f32 rZ, .float .f32 bZ, .float .f32 oZ, sDZ, sIZ, sEZ]] w (Out_b (sameSc r b o xD nD xI nI xE nE rZ bZ oZ xDZ nDZ xIZ nIZ xEZ nEZ) w) := by
  have HR := hid (fun (w' : World) => s_l01Same r rZ w')
  have HT := hid (fun (w1 : World) (hl : le w w1) => s_SameTuning b o bZ oZ xD xDZ nD nDZ B BZ sD sDZ w1 (hD.le hl) (hDZ.le hl))
  have HN := hid (fun (w1 : World) (hl : le w w1) => s_l08SameInstruments B BZ sI sIZ xI xIZ nI nIZ w1 (hI.le hl) (hIZ.le hl) kI kIZ)
  have hfE := hE.form
  have hfZ := hEZ.form
  rcases bool_ft (sameB r rZ) with h0 | h0
  · have E := hid (show sameSc r b o xD nD xI nI xE nE rZ bZ oZ xDZ nDZ xIZ nIZ xEZ nEZ = false by unfold sameSc; simp [h0])
    rw [h0] at HR
    clear h0 hD hI hE kI kE hDZ hIZ hEZ kIZ kEZ hfE hfZ
    have F := ((Frg.nil w).box 70 #[.float .f32 r, .float .f32 b, .float .f32 o, sD, sI, sE]).box 70 #[.float .f32 rZ, .float .f32 bZ, .float .f32 oZ, sDZ, sIZ, sEZ]
    simp only [World.size_alloc] at F
    go_enter Try.func24, Try.ntmps24
    go_wp2_with (first | ((with_reducible refine at_load rfl ?_); first | (with_reducible refine wpList_load1C rfl (g := w.heap.size) (f := 0) rfl (v := .float .f32 r) (by kernel_rfl) (F.row m1) rfl ukindFloat32 ?_) | (with_reducible refine wpList_load1C rfl (g := w.heap.size) (f := 4) rfl (v := sI) (by kernel_rfl) (F.row m1) rfl ukindInstrumentSI ?_) | (with_reducible refine wpList_load1C rfl (g := w.heap.size) (f := 5) rfl (v := sE) (by kernel_rfl) (F.row m1) rfl ukindEventSI ?_) | (with_reducible refine wpList_loadWC rfl (p := ⟨w.heap.size, 1, none⟩) rfl [.float .f32 b, .float .f32 o, sD] (by kernel_rfl) (Row.at_part (F.row m1) (tunAt r b o sD sI sE)) Try.underlying66 rfl uinfoTuningI rfl ?_) | (with_reducible refine wpList_load1C rfl (g := w.heap.size + 1) (f := 0) rfl (v := .float .f32 rZ) (by kernel_rfl) (F.row m0) rfl ukindFloat32 ?_) | (with_reducible refine wpList_load1C rfl (g := w.heap.size + 1) (f := 4) rfl (v := sIZ) (by kernel_rfl) (F.row m0) rfl ukindInstrumentSI ?_) | (with_reducible refine wpList_load1C rfl (g := w.heap.size + 1) (f := 5) rfl (v := sEZ) (by kernel_rfl) (F.row m0) rfl ukindEventSI ?_) | (with_reducible refine wpList_loadWC rfl (p := ⟨w.heap.size + 1, 1, none⟩) rfl [.float .f32 bZ, .float .f32 oZ, sDZ] (by kernel_rfl) (Row.at_part (F.row m0) (tunAt rZ bZ oZ sDZ sIZ sEZ)) Try.underlying66 rfl uinfoTuningI rfl ?_)) | (go_at_call 58; ((with_reducible refine (HR.out _).mono ?_); rintro e w1 ⟨rfl, rfl⟩)) | (go_at_call 59; ((with_reducible refine (HT.out _ F.below).mono ?_); rintro e w1 ⟨rfl, hl⟩; replace F := F.le hl; clear hl)) | (go_at_call 60; ((with_reducible refine (HN.out _ F.below).mono ?_); rintro e w1 ⟨rfl, hl⟩; replace F := F.le hl; clear hl)) | ((with_reducible refine listN F ?_); clear F; intro wN F))
    go_ret
    exact ⟨ret_b E.out.symm, F.below⟩
  have p0 := hid h0
  rw [h0] at HR
  clear h0
  rcases bool_ft (sameT b o xD nD bZ oZ xDZ nDZ) with h1 | h1
  · have E := hid (show sameSc r b o xD nD xI nI xE nE rZ bZ oZ xDZ nDZ xIZ nIZ xEZ nEZ = false by unfold sameSc; simp [p0.out, h1])
    rw [h1] at HT
    clear h1 hD hI hE kI kE hDZ hIZ hEZ kIZ kEZ hfE hfZ
    have F := ((Frg.nil w).box 70 #[.float .f32 r, .float .f32 b, .float .f32 o, sD, sI, sE]).box 70 #[.float .f32 rZ, .float .f32 bZ, .float .f32 oZ, sDZ, sIZ, sEZ]
    simp only [World.size_alloc] at F
    go_enter Try.func24, Try.ntmps24
    go_wp2_with (first | ((with_reducible refine at_load rfl ?_); first | (with_reducible refine wpList_load1C rfl (g := w.heap.size) (f := 0) rfl (v := .float .f32 r) (by kernel_rfl) (F.row m1) rfl ukindFloat32 ?_) | (with_reducible refine wpList_load1C rfl (g := w.heap.size) (f := 4) rfl (v := sI) (by kernel_rfl) (F.row m1) rfl ukindInstrumentSI ?_) | (with_reducible refine wpList_load1C rfl (g := w.heap.size) (f := 5) rfl (v := sE) (by kernel_rfl) (F.row m1) rfl ukindEventSI ?_) | (with_reducible refine wpList_loadWC rfl (p := ⟨w.heap.size, 1, none⟩) rfl [.float .f32 b, .float .f32 o, sD] (by kernel_rfl) (Row.at_part (F.row m1) (tunAt r b o sD sI sE)) Try.underlying66 rfl uinfoTuningI rfl ?_) | (with_reducible refine wpList_load1C rfl (g := w.heap.size + 1) (f := 0) rfl (v := .float .f32 rZ) (by kernel_rfl) (F.row m0) rfl ukindFloat32 ?_) | (with_reducible refine wpList_load1C rfl (g := w.heap.size + 1) (f := 4) rfl (v := sIZ) (by kernel_rfl) (F.row m0) rfl ukindInstrumentSI ?_) | (with_reducible refine wpList_load1C rfl (g := w.heap.size + 1) (f := 5) rfl (v := sEZ) (by kernel_rfl) (F.row m0) rfl ukindEventSI ?_) | (with_reducible refine wpList_loadWC rfl (p := ⟨w.heap.size + 1, 1, none⟩) rfl [.float .f32 bZ, .float .f32 oZ, sDZ] (by kernel_rfl) (Row.at_part (F.row m0) (tunAt rZ bZ oZ sDZ sIZ sEZ)) Try.underlying66 rfl uinfoTuningI rfl ?_)) | (go_at_call 58; ((with_reducible refine (HR.out _).mono ?_); rintro e w1 ⟨rfl, rfl⟩)) | (go_at_call 59; ((with_reducible refine (HT.out _ F.below).mono ?_); rintro e w1 ⟨rfl, hl⟩; replace F := F.le hl; clear hl)) | (go_at_call 60; ((with_reducible refine (HN.out _ F.below).mono ?_); rintro e w1 ⟨rfl, hl⟩; replace F := F.le hl; clear hl)) | ((with_reducible refine listN F ?_); clear F; intro wN F))
    go_ret
    exact ⟨ret_b E.out.symm, F.below⟩
  have p1 := hid h1
  rw [h1] at HT
  clear h1
  rcases bool_ft (sameIns xI xIZ nI nIZ) with h2 | h2
  · have E := hid (show sameSc r b o xD nD xI nI xE nE rZ bZ oZ xDZ nDZ xIZ nIZ xEZ nEZ = false by unfold sameSc; simp [p0.out, p1.out, h2])
    rw [h2] at HN
    clear h2 hD hI hE kI kE hDZ hIZ hEZ kIZ kEZ hfE hfZ
    have F := ((Frg.nil w).box 70 #[.float .f32 r, .float .f32 b, .float .f32 o, sD, sI, sE]).box 70 #[.float .f32 rZ, .float .f32 bZ, .float .f32 oZ, sDZ, sIZ, sEZ]
    simp only [World.size_alloc] at F
    go_enter Try.func24, Try.ntmps24
    go_wp2_with (first | ((with_reducible refine at_load rfl ?_); first | (with_reducible refine wpList_load1C rfl (g := w.heap.size) (f := 0) rfl (v := .float .f32 r) (by kernel_rfl) (F.row m1) rfl ukindFloat32 ?_) | (with_reducible refine wpList_load1C rfl (g := w.heap.size) (f := 4) rfl (v := sI) (by kernel_rfl) (F.row m1) rfl ukindInstrumentSI ?_) | (with_reducible refine wpList_load1C rfl (g := w.heap.size) (f := 5) rfl (v := sE) (by kernel_rfl) (F.row m1) rfl ukindEventSI ?_) | (with_reducible refine wpList_loadWC rfl (p := ⟨w.heap.size, 1, none⟩) rfl [.float .f32 b, .float .f32 o, sD] (by kernel_rfl) (Row.at_part (F.row m1) (tunAt r b o sD sI sE)) Try.underlying66 rfl uinfoTuningI rfl ?_) | (with_reducible refine wpList_load1C rfl (g := w.heap.size + 1) (f := 0) rfl (v := .float .f32 rZ) (by kernel_rfl) (F.row m0) rfl ukindFloat32 ?_) | (with_reducible refine wpList_load1C rfl (g := w.heap.size + 1) (f := 4) rfl (v := sIZ) (by kernel_rfl) (F.row m0) rfl ukindInstrumentSI ?_) | (with_reducible refine wpList_load1C rfl (g := w.heap.size + 1) (f := 5) rfl (v := sEZ) (by kernel_rfl) (F.row m0) rfl ukindEventSI ?_) | (with_reducible refine wpList_loadWC rfl (p := ⟨w.heap.size + 1, 1, none⟩) rfl [.float .f32 bZ, .float .f32 oZ, sDZ] (by kernel_rfl) (Row.at_part (F.row m0) (tunAt rZ bZ oZ sDZ sIZ sEZ)) Try.underlying66 rfl uinfoTuningI rfl ?_)) | (go_at_call 58; ((with_reducible refine (HR.out _).mono ?_); rintro e w1 ⟨rfl, rfl⟩)) | (go_at_call 59; ((with_reducible refine (HT.out _ F.below).mono ?_); rintro e w1 ⟨rfl, hl⟩; replace F := F.le hl; clear hl)) | (go_at_call 60; ((with_reducible refine (HN.out _ F.below).mono ?_); rintro e w1 ⟨rfl, hl⟩; replace F := F.le hl; clear hl)) | ((with_reducible refine listN F ?_); clear F; intro wN F))
    go_ret
    exact ⟨ret_b E.out.symm, F.below⟩
  have p2 := hid h2
  rw [h2] at HN
  clear h2
  have EQ := hid (show sameSc r b o xD nD xI nI xE nE rZ bZ oZ xDZ nDZ xIZ nIZ xEZ nEZ = sameEvs xE xEZ nE nEZ by unfold sameSc; simp [p0.out, p1.out, p2.out])
  rw [EQ.out]
  clear EQ p0 p1 p2
  by_cases hne : nE = nEZ
  rotate_left
  · rw [sameEvs_ne hne]
    have hne' : ¬ (nE : Int) = (nEZ : Int) := by omega
    clear hD hI hE kI kE hDZ hIZ hEZ kIZ kEZ
    have F := ((Frg.nil w).box 70 #[.float .f32 r, .float .f32 b, .float .f32 o, sD, sI, sE]).box 70 #[.float .f32 rZ, .float .f32 bZ, .float .f32 oZ, sDZ, sIZ, sEZ]
    simp only [World.size_alloc] at F
    rcases hfE with ⟨rfl, rfl⟩ | ⟨b8, o8, cap, rfl, hc, hm⟩ <;> rcases hfZ with ⟨rfl, rfl⟩ | ⟨b9, o9, cap9, rfl, hc', hm'⟩
    all_goals first | exact absurd rfl hne | skip
    all_goals
      try unfold maxLen at hm
      try unfold maxLen at hm'
      go_enter Try.func24, Try.ntmps24
      go_wp2_with (first | ((with_reducible refine at_load rfl ?_); first | (with_reducible refine wpList_load1C rfl (g := w.heap.size) (f := 0) rfl (v := .float .f32 r) (by kernel_rfl) (F.row m1) rfl ukindFloat32 ?_) | (with_reducible refine wpList_load1C rfl (g := w.heap.size) (f := 4) rfl (v := sI) (by kernel_rfl) (F.row m1) rfl ukindInstrumentSI ?_) | (with_reducible refine wpList_load1C rfl (g := w.heap.size) (f := 5) rfl (v := _) (by kernel_rfl) (F.row m1) rfl ukindEventSI ?_) | (with_reducible refine wpList_loadWC rfl (p := ⟨w.heap.size, 1, none⟩) rfl [.float .f32 b, .float .f32 o, sD] (by kernel_rfl) (Row.at_part (F.row m1) (tunAt _ _ _ _ _ _)) Try.underlying66 rfl uinfoTuningI rfl ?_) | (with_reducible refine wpList_load1C rfl (g := w.heap.size + 1) (f := 0) rfl (v := .float .f32 rZ) (by kernel_rfl) (F.row m0) rfl ukindFloat32 ?_) | (with_reducible refine wpList_load1C rfl (g := w.heap.size + 1) (f := 4) rfl (v := sIZ) (by kernel_rfl) (F.row m0) rfl ukindInstrumentSI ?_) | (with_reducible refine wpList_load1C rfl (g := w.heap.size + 1) (f := 5) rfl (v := _) (by kernel_rfl) (F.row m0) rfl ukindEventSI ?_) | (with_reducible refine wpList_loadWC rfl (p := ⟨w.heap.size + 1, 1, none⟩) rfl [.float .f32 bZ, .float .f32 oZ, sDZ] (by kernel_rfl) (Row.at_part (F.row m0) (tunAt _ _ _ _ _ _)) Try.underlying66 rfl uinfoTuningI rfl ?_)) | (go_at_call 58; ((with_reducible refine (HR.out _).mono ?_); rintro e w1 ⟨rfl, rfl⟩)) | (go_at_call 59; ((with_reducible refine (HT.out _ F.below).mono ?_); rintro e w1 ⟨rfl, hl⟩; replace F := F.le hl; clear hl)) | (go_at_call 60; ((with_reducible refine (HN.out _ F.below).mono ?_); rintro e w1 ⟨rfl, hl⟩; replace F := F.le hl; clear hl)) | ((with_reducible refine listN F ?_); clear F; intro wN F))
      go_ret
      exact ⟨rfl, F.below⟩
  subst hne
  rw [sameEvs_eq]
  by_cases h0 : nE = 0
  · subst h0
    clear hD hI hE kI kE hDZ hIZ hEZ kIZ kEZ
    have F := ((Frg.nil w).box 70 #[.float .f32 r, .float .f32 b, .float .f32 o, sD, sI, sE]).box 70 #[.float .f32 rZ, .float .f32 bZ, .float .f32 oZ, sDZ, sIZ, sEZ]
    simp only [World.size_alloc] at F
    rcases hfE with ⟨rfl, _⟩ | ⟨b8, o8, cap, rfl, hc, hm⟩ <;> rcases hfZ with ⟨rfl, _⟩ | ⟨b9, o9, cap9, rfl, hc', hm'⟩
    all_goals
      go_enter Try.func24, Try.ntmps24
      go_wp2_with (first | ((with_reducible refine at_load rfl ?_); first | (with_reducible refine wpList_load1C rfl (g := w.heap.size) (f := 0) rfl (v := .float .f32 r) (by kernel_rfl) (F.row m1) rfl ukindFloat32 ?_) | (with_reducible refine wpList_load1C rfl (g := w.heap.size) (f := 4) rfl (v := sI) (by kernel_rfl) (F.row m1) rfl ukindInstrumentSI ?_) | (with_reducible refine wpList_load1C rfl (g := w.heap.size) (f := 5) rfl (v := _) (by kernel_rfl) (F.row m1) rfl ukindEventSI ?_) | (with_reducible refine wpList_loadWC rfl (p := ⟨w.heap.size, 1, none⟩) rfl [.float .f32 b, .float .f32 o, sD] (by kernel_rfl) (Row.at_part (F.row m1) (tunAt _ _ _ _ _ _)) Try.underlying66 rfl uinfoTuningI rfl ?_) | (with_reducible refine wpList_load1C rfl (g := w.heap.size + 1) (f := 0) rfl (v := .float .f32 rZ) (by kernel_rfl) (F.row m0) rfl ukindFloat32 ?_) | (with_reducible refine wpList_load1C rfl (g := w.heap.size + 1) (f := 4) rfl (v := sIZ) (by kernel_rfl) (F.row m0) rfl ukindInstrumentSI ?_) | (with_reducible refine wpList_load1C rfl (g := w.heap.size + 1) (f := 5) rfl (v := _) (by kernel_rfl) (F.row m0) rfl ukindEventSI ?_) | (with_reducible refine wpList_loadWC rfl (p := ⟨w.heap.size + 1, 1, none⟩) rfl [.float .f32 bZ, .float .f32 oZ, sDZ] (by kernel_rfl) (Row.at_part (F.row m0) (tunAt _ _ _ _ _ _)) Try.underlying66 rfl uinfoTuningI rfl ?_)) | (go_at_call 58; ((with_reducible refine (HR.out _).mono ?_); rintro e w1 ⟨rfl, rfl⟩)) | (go_at_call 59; ((with_reducible refine (HT.out _ F.below).mono ?_); rintro e w1 ⟨rfl, hl⟩; replace F := F.le hl; clear hl)) | (go_at_call 60; ((with_reducible refine (HN.out _ F.below).mono ?_); rintro e w1 ⟨rfl, hl⟩; replace F := F.le hl; clear hl)) | ((with_reducible refine listN F ?_); clear F; intro wN F))
      have L0 := hid F
      clear F
      go_loop [5] (fun i => i = .int .i64 0) (fun _ => 0)
      case atStart => rfl
      case round =>
        obtain rfl := hrel
        have F := L0.out
        go_wp2_with (first | ((with_reducible refine at_load rfl ?_); first | (with_reducible refine wpList_load1C rfl (g := w.heap.size) (f := 0) rfl (v := .float .f32 r) (by kernel_rfl) (F.row m1) rfl ukindFloat32 ?_) | (with_reducible refine wpList_load1C rfl (g := w.heap.size) (f := 4) rfl (v := sI) (by kernel_rfl) (F.row m1) rfl ukindInstrumentSI ?_) | (with_reducible refine wpList_load1C rfl (g := w.heap.size) (f := 5) rfl (v := _) (by kernel_rfl) (F.row m1) rfl ukindEventSI ?_) | (with_reducible refine wpList_loadWC rfl (p := ⟨w.heap.size, 1, none⟩) rfl [.float .f32 b, .float .f32 o, sD] (by kernel_rfl) (Row.at_part (F.row m1) (tunAt _ _ _ _ _ _)) Try.underlying66 rfl uinfoTuningI rfl ?_) | (with_reducible refine wpList_load1C rfl (g := w.heap.size + 1) (f := 0) rfl (v := .float .f32 rZ) (by kernel_rfl) (F.row m0) rfl ukindFloat32 ?_) | (with_reducible refine wpList_load1C rfl (g := w.heap.size + 1) (f := 4) rfl (v := sIZ) (by kernel_rfl) (F.row m0) rfl ukindInstrumentSI ?_) | (with_reducible refine wpList_load1C rfl (g := w.heap.size + 1) (f := 5) rfl (v := _) (by kernel_rfl) (F.row m0) rfl ukindEventSI ?_) | (with_reducible refine wpList_loadWC rfl (p := ⟨w.heap.size + 1, 1, none⟩) rfl [.float .f32 bZ, .float .f32 oZ, sDZ] (by kernel_rfl) (Row.at_part (F.row m0) (tunAt _ _ _ _ _ _)) Try.underlying66 rfl uinfoTuningI rfl ?_)) | (go_at_call 58; ((with_reducible refine (HR.out _).mono ?_); rintro e w1 ⟨rfl, rfl⟩)) | (go_at_call 59; ((with_reducible refine (HT.out _ F.below).mono ?_); rintro e w1 ⟨rfl, hl⟩; replace F := F.le hl; clear hl)) | (go_at_call 60; ((with_reducible refine (HN.out _ F.below).mono ?_); rintro e w1 ⟨rfl, hl⟩; replace F := F.le hl; clear hl)) | ((with_reducible refine listN F ?_); clear F; intro wN F))
        go_ret
        exact ⟨rfl, F.below⟩
  rcases hfE with ⟨_, e0⟩ | ⟨b8, o8, cap, rfl, hc, hm⟩
  · exact absurd e0 h0
  rcases hfZ with ⟨_, e0⟩ | ⟨b9, o9, cap9, rfl, hc', hm'⟩
  · exact absurd e0 h0
  have HA := hid (fun k (hk : k < nE) => kE.vals hE hk)
  have HA' := hid (fun k (hk : k < nE) => kEZ.vals hEZ hk)
  unfold maxLen at hm hm'
  clear hD hI hE kI kE hDZ hIZ hEZ kIZ kEZ h0
  have F := ((Frg.nil w).box 70 #[.float .f32 r, .float .f32 b, .float .f32 o, sD, sI, .slice (some ⟨b8, o8, none⟩) nE cap]).box 70 #[.float .f32 rZ, .float .f32 bZ, .float .f32 oZ, sDZ, sIZ, .slice (some ⟨b9, o9, none⟩) nE cap9]
  simp only [World.size_alloc] at F
  go_enter Try.func24, Try.ntmps24
  go_wp2_with (first | ((with_reducible refine at_load rfl ?_); first | (with_reducible refine wpList_load1C rfl (g := w.heap.size) (f := 0) rfl (v := .float .f32 r) (by kernel_rfl) (F.row m1) rfl ukindFloat32 ?_) | (with_reducible refine wpList_load1C rfl (g := w.heap.size) (f := 4) rfl (v := sI) (by kernel_rfl) (F.row m1) rfl ukindInstrumentSI ?_) | (with_reducible refine wpList_load1C rfl (g := w.heap.size) (f := 5) rfl (v := _) (by kernel_rfl) (F.row m1) rfl ukindEventSI ?_) | (with_reducible refine wpList_loadWC rfl (p := ⟨w.heap.size, 1, none⟩) rfl [.float .f32 b, .float .f32 o, sD] (by kernel_rfl) (Row.at_part (F.row m1) (tunAt _ _ _ _ _ _)) Try.underlying66 rfl uinfoTuningI rfl ?_) | (with_reducible refine wpList_load1C rfl (g := w.heap.size + 1) (f := 0) rfl (v := .float .f32 rZ) (by kernel_rfl) (F.row m0) rfl ukindFloat32 ?_) | (with_reducible refine wpList_load1C rfl (g := w.heap.size + 1) (f := 4) rfl (v := sIZ) (by kernel_rfl) (F.row m0) rfl ukindInstrumentSI ?_) | (with_reducible refine wpList_load1C rfl (g := w.heap.size + 1) (f := 5) rfl (v := _) (by kernel_rfl) (F.row m0) rfl ukindEventSI ?_) | (with_reducible refine wpList_loadWC rfl (p := ⟨w.heap.size + 1, 1, none⟩) rfl [.float .f32 bZ, .float .f32 oZ, sDZ] (by kernel_rfl) (Row.at_part (F.row m0) (tunAt _ _ _ _ _ _)) Try.underlying66 rfl uinfoTuningI rfl ?_)) | (go_at_call 58; ((with_reducible refine (HR.out _).mono ?_); rintro e w1 ⟨rfl, rfl⟩)) | (go_at_call 59; ((with_reducible refine (HT.out _ F.below).mono ?_); rintro e w1 ⟨rfl, hl⟩; replace F := F.le hl; clear hl)) | (go_at_call 60; ((with_reducible refine (HN.out _ F.below).mono ?_); rintro e w1 ⟨rfl, hl⟩; replace F := F.le hl; clear hl)) | ((with_reducible refine listN F ?_); clear F; intro wN F))
  clear HR HT HN
  have F0 := hid F
  clear F
  go_loopw [5] (fun i wr => ∃ j : Nat, j ≤ nE ∧ i = .int .i64 j ∧ Hid (∀ i, i < j → sameEv xE xEZ i = true) ∧ Hid (Frg w wr [rowF (w.heap.size + 1) 70 #[.float .f32 rZ, .float .f32 bZ, .float .f32 oZ, sDZ, sIZ, .slice (some ⟨b9, o9, none⟩) nE cap9], rowF w.heap.size 70 #[.float .f32 r, .float .f32 b, .float .f32 o, sD, sI, .slice (some ⟨b8, o8, none⟩) nE cap]])) (fun i _ => nE - (intOf i).toNat)
  case atStart => exact ⟨0, by omega, rfl, fun i hi => absurd hi (by omega), F0.out⟩
  case round =>
    clear F0
    obtain ⟨j, hj, rfl, HJ, HF⟩ := hrel
    rename_i wr _
    have F := HF.out
    by_cases hlt : j < nE
    · obtain ⟨y, _, G, _, cu⟩ := HA.out j hlt
      obtain ⟨y', _, Gp, _, cu'⟩ := HA'.out j hlt
      have SE : sameV (evA xE j) (evA xEZ j) (evK xE j) (evK xEZ j) (evN xE j) (evN xEZ j) (evI xE j) (evI xEZ j) (evY xE j) (evY xEZ j) y y' = sameEv xE xEZ j := by unfold sameEv; rw [← G, ← Gp]; unfold sameV; simp only [sameB_can]
      replace SE := hid SE
      clear G Gp HA HA'
      have CU := hid (fun (w' : World) (hl : le w w') (q : Nat) (v : Value) (hv : [Value.int .i64 (evA xE j), .int .i64 (evK xE j), .int .i64 (evN xE j), .int .i64 (evI xE j), .int .i64 (evY xE j), .float .f32 y][q]? = some v) => (Below.cell hl (cell_lt' (cu q v hv))).trans (cu q v hv))
      have CU' := hid (fun (w' : World) (hl : le w w') (q : Nat) (v : Value) (hv : [Value.int .i64 (evA xEZ j), .int .i64 (evK xEZ j), .int .i64 (evN xEZ j), .int .i64 (evI xEZ j), .int .i64 (evY xEZ j), .float .f32 y'][q]? = some v) => (Below.cell hl (cell_lt' (cu' q v hv))).trans (cu' q v hv))
      clear cu cu'
      have H5 := hid (fun (w' : World) => s_l01Same y y' w')
      rcases bool_ft (((evA xE j) == (evA xEZ j))) with h0 | h0
      · have hb := hid (SE.out.symm.trans (show sameV (evA xE j) (evA xEZ j) (evK xE j) (evK xEZ j) (evN xE j) (evN xEZ j) (evI xE j) (evI xEZ j) (evY xE j) (evY xEZ j) y y' = false by unfold sameV; simp only [h0, Bool.and_false, Bool.false_and, Bool.and_true, Bool.true_and]))
        have h0b : ((evA xE j) != (evA xEZ j)) = true := by rw [bne, h0]; rfl
        clear SE
        go_wp2_with (first | ((with_reducible refine listN F ?_); clear F; intro wN F) | (go_at_call 58; ((with_reducible refine (H5.out _).mono ?_); rintro e w1 ⟨rfl, rfl⟩; skip)) | (with_reducible refine wpList_indexW0 rfl rfl rfl rfl Try.underlying68 uinfoEventI hlt ?_) | ((with_reducible refine at_load rfl ?_); first | (with_reducible refine wpList_load1C rfl (g := w.heap.size) (f := 5) rfl (v := _) (by kernel_rfl) (F.row m1) rfl ukindEventSI ?_) | (with_reducible refine wpList_load1C rfl (g := w.heap.size) (f := 5) rfl (v := _) (by kernel_rfl) (F.row m2) rfl ukindEventSI ?_) | (with_reducible refine wpList_load1C rfl (g := w.heap.size) (f := 5) rfl (v := _) (by kernel_rfl) (F.row m3) rfl ukindEventSI ?_) | (with_reducible refine wpList_load1C rfl (g := w.heap.size + 1) (f := 5) rfl (v := _) (by kernel_rfl) (F.row m0) rfl ukindEventSI ?_) | (with_reducible refine wpList_load1C rfl (g := w.heap.size + 1) (f := 5) rfl (v := _) (by kernel_rfl) (F.row m1) rfl ukindEventSI ?_) | (with_reducible refine wpList_load1C rfl (g := w.heap.size + 1) (f := 5) rfl (v := _) (by kernel_rfl) (F.row m2) rfl ukindEventSI ?_) | (with_reducible refine wpList_loadW rfl rfl rfl [.int .i64 (evA xE j), .int .i64 (evK xE j), .int .i64 (evN xE j), .int .i64 (evI xE j), .int .i64 (evY xE j), .float .f32 y] (CU.out _ F.below) Try.underlying111 rfl uinfoEventI rfl ?_) | (with_reducible refine wpList_loadW rfl rfl rfl [.int .i64 (evA xEZ j), .int .i64 (evK xEZ j), .int .i64 (evN xEZ j), .int .i64 (evI xEZ j), .int .i64 (evY xEZ j), .float .f32 y'] (CU'.out _ F.below) Try.underlying111 rfl uinfoEventI rfl ?_) | (with_reducible refine wpList_load1C rfl (f := 0) rfl (v := .int .i64 _) (by kernel_rfl) (F.row m1) rfl ukindInt64 ?_) | (with_reducible refine wpList_load1C rfl (f := 1) rfl (v := .int .i64 _) (by kernel_rfl) (F.row m1) rfl ukindInt64 ?_) | (with_reducible refine wpList_load1C rfl (f := 2) rfl (v := .int .i64 _) (by kernel_rfl) (F.row m1) rfl ukindInt64 ?_) | (with_reducible refine wpList_load1C rfl (f := 3) rfl (v := .int .i64 _) (by kernel_rfl) (F.row m1) rfl ukindInt64 ?_) | (with_reducible refine wpList_load1C rfl (f := 4) rfl (v := .int .i64 _) (by kernel_rfl) (F.row m1) rfl ukindInt64 ?_) | (with_reducible refine wpList_load1C rfl (f := 5) rfl (v := .float .f32 y) (by kernel_rfl) (F.row m1) rfl ukindFloat32 ?_) | (with_reducible refine wpList_load1C rfl (f := 0) rfl (v := .int .i64 _) (by kernel_rfl) (F.row m0) rfl ukindInt64 ?_) | (with_reducible refine wpList_load1C rfl (f := 1) rfl (v := .int .i64 _) (by kernel_rfl) (F.row m0) rfl ukindInt64 ?_) | (with_reducible refine wpList_load1C rfl (f := 2) rfl (v := .int .i64 _) (by kernel_rfl) (F.row m0) rfl ukindInt64 ?_) | (with_reducible refine wpList_load1C rfl (f := 3) rfl (v := .int .i64 _) (by kernel_rfl) (F.row m0) rfl ukindInt64 ?_) | (with_reducible refine wpList_load1C rfl (f := 4) rfl (v := .int .i64 _) (by kernel_rfl) (F.row m0) rfl ukindInt64 ?_) | (with_reducible refine wpList_load1C rfl (f := 5) rfl (v := .float .f32 y') (by kernel_rfl) (F.row m0) rfl ukindFloat32 ?_)) | ((with_reducible refine at_store rfl ?_); (refine wpList_storeG F rfl rfl rfl rfl rfl uinfoEventI rfl (by (simp only [List.all_toArray', List.all_cons, List.all_nil, Bool.and_true, Bool.true_and]) <;> rfl) ?_; clear F; intro W F zW; clear zW)))
        go_ret
        exact ⟨ret_b (allB_no hlt hb.out).symm, F.below⟩
      have p0 := hid h0
      have h0b : ((evA xE j) != (evA xEZ j)) = false := by rw [bne, h0]; rfl
      rcases bool_ft (((evK xE j) == (evK xEZ j))) with h1 | h1
      · have hb := hid (SE.out.symm.trans (show sameV (evA xE j) (evA xEZ j) (evK xE j) (evK xEZ j) (evN xE j) (evN xEZ j) (evI xE j) (evI xEZ j) (evY xE j) (evY xEZ j) y y' = false by unfold sameV; simp only [p0.out, h1, Bool.and_false, Bool.false_and, Bool.and_true, Bool.true_and]))
        have h1b : ((evK xE j) != (evK xEZ j)) = true := by rw [bne, h1]; rfl
        clear SE
        go_wp2_with (first | ((with_reducible refine listN F ?_); clear F; intro wN F) | (go_at_call 58; ((with_reducible refine (H5.out _).mono ?_); rintro e w1 ⟨rfl, rfl⟩; skip)) | (with_reducible refine wpList_indexW0 rfl rfl rfl rfl Try.underlying68 uinfoEventI hlt ?_) | ((with_reducible refine at_load rfl ?_); first | (with_reducible refine wpList_load1C rfl (g := w.heap.size) (f := 5) rfl (v := _) (by kernel_rfl) (F.row m1) rfl ukindEventSI ?_) | (with_reducible refine wpList_load1C rfl (g := w.heap.size) (f := 5) rfl (v := _) (by kernel_rfl) (F.row m2) rfl ukindEventSI ?_) | (with_reducible refine wpList_load1C rfl (g := w.heap.size) (f := 5) rfl (v := _) (by kernel_rfl) (F.row m3) rfl ukindEventSI ?_) | (with_reducible refine wpList_load1C rfl (g := w.heap.size + 1) (f := 5) rfl (v := _) (by kernel_rfl) (F.row m0) rfl ukindEventSI ?_) | (with_reducible refine wpList_load1C rfl (g := w.heap.size + 1) (f := 5) rfl (v := _) (by kernel_rfl) (F.row m1) rfl ukindEventSI ?_) | (with_reducible refine wpList_load1C rfl (g := w.heap.size + 1) (f := 5) rfl (v := _) (by kernel_rfl) (F.row m2) rfl ukindEventSI ?_) | (with_reducible refine wpList_loadW rfl rfl rfl [.int .i64 (evA xE j), .int .i64 (evK xE j), .int .i64 (evN xE j), .int .i64 (evI xE j), .int .i64 (evY xE j), .float .f32 y] (CU.out _ F.below) Try.underlying111 rfl uinfoEventI rfl ?_) | (with_reducible refine wpList_loadW rfl rfl rfl [.int .i64 (evA xEZ j), .int .i64 (evK xEZ j), .int .i64 (evN xEZ j), .int .i64 (evI xEZ j), .int .i64 (evY xEZ j), .float .f32 y'] (CU'.out _ F.below) Try.underlying111 rfl uinfoEventI rfl ?_) | (with_reducible refine wpList_load1C rfl (f := 0) rfl (v := .int .i64 _) (by kernel_rfl) (F.row m1) rfl ukindInt64 ?_) | (with_reducible refine wpList_load1C rfl (f := 1) rfl (v := .int .i64 _) (by kernel_rfl) (F.row m1) rfl ukindInt64 ?_) | (with_reducible refine wpList_load1C rfl (f := 2) rfl (v := .int .i64 _) (by kernel_rfl) (F.row m1) rfl ukindInt64 ?_) | (with_reducible refine wpList_load1C rfl (f := 3) rfl (v := .int .i64 _) (by kernel_rfl) (F.row m1) rfl ukindInt64 ?_) | (with_reducible refine wpList_load1C rfl (f := 4) rfl (v := .int .i64 _) (by kernel_rfl) (F.row m1) rfl ukindInt64 ?_) | (with_reducible refine wpList_load1C rfl (f := 5) rfl (v := .float .f32 y) (by kernel_rfl) (F.row m1) rfl ukindFloat32 ?_) | (with_reducible refine wpList_load1C rfl (f := 0) rfl (v := .int .i64 _) (by kernel_rfl) (F.row m0) rfl ukindInt64 ?_) | (with_reducible refine wpList_load1C rfl (f := 1) rfl (v := .int .i64 _) (by kernel_rfl) (F.row m0) rfl ukindInt64 ?_) | (with_reducible refine wpList_load1C rfl (f := 2) rfl (v := .int .i64 _) (by kernel_rfl) (F.row m0) rfl ukindInt64 ?_) | (with_reducible refine wpList_load1C rfl (f := 3) rfl (v := .int .i64 _) (by kernel_rfl) (F.row m0) rfl ukindInt64 ?_) | (with_reducible refine wpList_load1C rfl (f := 4) rfl (v := .int .i64 _) (by kernel_rfl) (F.row m0) rfl ukindInt64 ?_) | (with_reducible refine wpList_load1C rfl (f := 5) rfl (v := .float .f32 y') (by kernel_rfl) (F.row m0) rfl ukindFloat32 ?_)) | ((with_reducible refine at_store rfl ?_); (refine wpList_storeG F rfl rfl rfl rfl rfl uinfoEventI rfl (by (simp only [List.all_toArray', List.all_cons, List.all_nil, Bool.and_true, Bool.true_and]) <;> rfl) ?_; clear F; intro W F zW; clear zW)))
        go_ret
        exact ⟨ret_b (allB_no hlt hb.out).symm, F.below⟩
      have p1 := hid h1
      have h1b : ((evK xE j) != (evK xEZ j)) = false := by rw [bne, h1]; rfl
      rcases bool_ft (((evN xE j) == (evN xEZ j))) with h2 | h2
      · have hb := hid (SE.out.symm.trans (show sameV (evA xE j) (evA xEZ j) (evK xE j) (evK xEZ j) (evN xE j) (evN xEZ j) (evI xE j) (evI xEZ j) (evY xE j) (evY xEZ j) y y' = false by unfold sameV; simp only [p0.out, p1.out, h2, Bool.and_false, Bool.false_and, Bool.and_true, Bool.true_and]))
        have h2b : ((evN xE j) != (evN xEZ j)) = true := by rw [bne, h2]; rfl
        clear SE
        go_wp2_with (first | ((with_reducible refine listN F ?_); clear F; intro wN F) | (go_at_call 58; ((with_reducible refine (H5.out _).mono ?_); rintro e w1 ⟨rfl, rfl⟩; skip)) | (with_reducible refine wpList_indexW0 rfl rfl rfl rfl Try.underlying68 uinfoEventI hlt ?_) | ((with_reducible refine at_load rfl ?_); first | (with_reducible refine wpList_load1C rfl (g := w.heap.size) (f := 5) rfl (v := _) (by kernel_rfl) (F.row m1) rfl ukindEventSI ?_) | (with_reducible refine wpList_load1C rfl (g := w.heap.size) (f := 5) rfl (v := _) (by kernel_rfl) (F.row m2) rfl ukindEventSI ?_) | (with_reducible refine wpList_load1C rfl (g := w.heap.size) (f := 5) rfl (v := _) (by kernel_rfl) (F.row m3) rfl ukindEventSI ?_) | (with_reducible refine wpList_load1C rfl (g := w.heap.size + 1) (f := 5) rfl (v := _) (by kernel_rfl) (F.row m0) rfl ukindEventSI ?_) | (with_reducible refine wpList_load1C rfl (g := w.heap.size + 1) (f := 5) rfl (v := _) (by kernel_rfl) (F.row m1) rfl ukindEventSI ?_) | (with_reducible refine wpList_load1C rfl (g := w.heap.size + 1) (f := 5) rfl (v := _) (by kernel_rfl) (F.row m2) rfl ukindEventSI ?_) | (with_reducible refine wpList_loadW rfl rfl rfl [.int .i64 (evA xE j), .int .i64 (evK xE j), .int .i64 (evN xE j), .int .i64 (evI xE j), .int .i64 (evY xE j), .float .f32 y] (CU.out _ F.below) Try.underlying111 rfl uinfoEventI rfl ?_) | (with_reducible refine wpList_loadW rfl rfl rfl [.int .i64 (evA xEZ j), .int .i64 (evK xEZ j), .int .i64 (evN xEZ j), .int .i64 (evI xEZ j), .int .i64 (evY xEZ j), .float .f32 y'] (CU'.out _ F.below) Try.underlying111 rfl uinfoEventI rfl ?_) | (with_reducible refine wpList_load1C rfl (f := 0) rfl (v := .int .i64 _) (by kernel_rfl) (F.row m1) rfl ukindInt64 ?_) | (with_reducible refine wpList_load1C rfl (f := 1) rfl (v := .int .i64 _) (by kernel_rfl) (F.row m1) rfl ukindInt64 ?_) | (with_reducible refine wpList_load1C rfl (f := 2) rfl (v := .int .i64 _) (by kernel_rfl) (F.row m1) rfl ukindInt64 ?_) | (with_reducible refine wpList_load1C rfl (f := 3) rfl (v := .int .i64 _) (by kernel_rfl) (F.row m1) rfl ukindInt64 ?_) | (with_reducible refine wpList_load1C rfl (f := 4) rfl (v := .int .i64 _) (by kernel_rfl) (F.row m1) rfl ukindInt64 ?_) | (with_reducible refine wpList_load1C rfl (f := 5) rfl (v := .float .f32 y) (by kernel_rfl) (F.row m1) rfl ukindFloat32 ?_) | (with_reducible refine wpList_load1C rfl (f := 0) rfl (v := .int .i64 _) (by kernel_rfl) (F.row m0) rfl ukindInt64 ?_) | (with_reducible refine wpList_load1C rfl (f := 1) rfl (v := .int .i64 _) (by kernel_rfl) (F.row m0) rfl ukindInt64 ?_) | (with_reducible refine wpList_load1C rfl (f := 2) rfl (v := .int .i64 _) (by kernel_rfl) (F.row m0) rfl ukindInt64 ?_) | (with_reducible refine wpList_load1C rfl (f := 3) rfl (v := .int .i64 _) (by kernel_rfl) (F.row m0) rfl ukindInt64 ?_) | (with_reducible refine wpList_load1C rfl (f := 4) rfl (v := .int .i64 _) (by kernel_rfl) (F.row m0) rfl ukindInt64 ?_) | (with_reducible refine wpList_load1C rfl (f := 5) rfl (v := .float .f32 y') (by kernel_rfl) (F.row m0) rfl ukindFloat32 ?_)) | ((with_reducible refine at_store rfl ?_); (refine wpList_storeG F rfl rfl rfl rfl rfl uinfoEventI rfl (by (simp only [List.all_toArray', List.all_cons, List.all_nil, Bool.and_true, Bool.true_and]) <;> rfl) ?_; clear F; intro W F zW; clear zW)))
        go_ret
        exact ⟨ret_b (allB_no hlt hb.out).symm, F.below⟩
      have p2 := hid h2
      have h2b : ((evN xE j) != (evN xEZ j)) = false := by rw [bne, h2]; rfl
      rcases bool_ft (((evI xE j) == (evI xEZ j))) with h3 | h3
      · have hb := hid (SE.out.symm.trans (show sameV (evA xE j) (evA xEZ j) (evK xE j) (evK xEZ j) (evN xE j) (evN xEZ j) (evI xE j) (evI xEZ j) (evY xE j) (evY xEZ j) y y' = false by unfold sameV; simp only [p0.out, p1.out, p2.out, h3, Bool.and_false, Bool.false_and, Bool.and_true, Bool.true_and]))
        have h3b : ((evI xE j) != (evI xEZ j)) = true := by rw [bne, h3]; rfl
        clear SE
        go_wp2_with (first | ((with_reducible refine listN F ?_); clear F; intro wN F) | (go_at_call 58; ((with_reducible refine (H5.out _).mono ?_); rintro e w1 ⟨rfl, rfl⟩; skip)) | (with_reducible refine wpList_indexW0 rfl rfl rfl rfl Try.underlying68 uinfoEventI hlt ?_) | ((with_reducible refine at_load rfl ?_); first | (with_reducible refine wpList_load1C rfl (g := w.heap.size) (f := 5) rfl (v := _) (by kernel_rfl) (F.row m1) rfl ukindEventSI ?_) | (with_reducible refine wpList_load1C rfl (g := w.heap.size) (f := 5) rfl (v := _) (by kernel_rfl) (F.row m2) rfl ukindEventSI ?_) | (with_reducible refine wpList_load1C rfl (g := w.heap.size) (f := 5) rfl (v := _) (by kernel_rfl) (F.row m3) rfl ukindEventSI ?_) | (with_reducible refine wpList_load1C rfl (g := w.heap.size + 1) (f := 5) rfl (v := _) (by kernel_rfl) (F.row m0) rfl ukindEventSI ?_) | (with_reducible refine wpList_load1C rfl (g := w.heap.size + 1) (f := 5) rfl (v := _) (by kernel_rfl) (F.row m1) rfl ukindEventSI ?_) | (with_reducible refine wpList_load1C rfl (g := w.heap.size + 1) (f := 5) rfl (v := _) (by kernel_rfl) (F.row m2) rfl ukindEventSI ?_) | (with_reducible refine wpList_loadW rfl rfl rfl [.int .i64 (evA xE j), .int .i64 (evK xE j), .int .i64 (evN xE j), .int .i64 (evI xE j), .int .i64 (evY xE j), .float .f32 y] (CU.out _ F.below) Try.underlying111 rfl uinfoEventI rfl ?_) | (with_reducible refine wpList_loadW rfl rfl rfl [.int .i64 (evA xEZ j), .int .i64 (evK xEZ j), .int .i64 (evN xEZ j), .int .i64 (evI xEZ j), .int .i64 (evY xEZ j), .float .f32 y'] (CU'.out _ F.below) Try.underlying111 rfl uinfoEventI rfl ?_) | (with_reducible refine wpList_load1C rfl (f := 0) rfl (v := .int .i64 _) (by kernel_rfl) (F.row m1) rfl ukindInt64 ?_) | (with_reducible refine wpList_load1C rfl (f := 1) rfl (v := .int .i64 _) (by kernel_rfl) (F.row m1) rfl ukindInt64 ?_) | (with_reducible refine wpList_load1C rfl (f := 2) rfl (v := .int .i64 _) (by kernel_rfl) (F.row m1) rfl ukindInt64 ?_) | (with_reducible refine wpList_load1C rfl (f := 3) rfl (v := .int .i64 _) (by kernel_rfl) (F.row m1) rfl ukindInt64 ?_) | (with_reducible refine wpList_load1C rfl (f := 4) rfl (v := .int .i64 _) (by kernel_rfl) (F.row m1) rfl ukindInt64 ?_) | (with_reducible refine wpList_load1C rfl (f := 5) rfl (v := .float .f32 y) (by kernel_rfl) (F.row m1) rfl ukindFloat32 ?_) | (with_reducible refine wpList_load1C rfl (f := 0) rfl (v := .int .i64 _) (by kernel_rfl) (F.row m0) rfl ukindInt64 ?_) | (with_reducible refine wpList_load1C rfl (f := 1) rfl (v := .int .i64 _) (by kernel_rfl) (F.row m0) rfl ukindInt64 ?_) | (with_reducible refine wpList_load1C rfl (f := 2) rfl (v := .int .i64 _) (by kernel_rfl) (F.row m0) rfl ukindInt64 ?_) | (with_reducible refine wpList_load1C rfl (f := 3) rfl (v := .int .i64 _) (by kernel_rfl) (F.row m0) rfl ukindInt64 ?_) | (with_reducible refine wpList_load1C rfl (f := 4) rfl (v := .int .i64 _) (by kernel_rfl) (F.row m0) rfl ukindInt64 ?_) | (with_reducible refine wpList_load1C rfl (f := 5) rfl (v := .float .f32 y') (by kernel_rfl) (F.row m0) rfl ukindFloat32 ?_)) | ((with_reducible refine at_store rfl ?_); (refine wpList_storeG F rfl rfl rfl rfl rfl uinfoEventI rfl (by (simp only [List.all_toArray', List.all_cons, List.all_nil, Bool.and_true, Bool.true_and]) <;> rfl) ?_; clear F; intro W F zW; clear zW)))
        go_ret
        exact ⟨ret_b (allB_no hlt hb.out).symm, F.below⟩
      have p3 := hid h3
      have h3b : ((evI xE j) != (evI xEZ j)) = false := by rw [bne, h3]; rfl
      rcases bool_ft (((evY xE j) == (evY xEZ j))) with h4 | h4
      · have hb := hid (SE.out.symm.trans (show sameV (evA xE j) (evA xEZ j) (evK xE j) (evK xEZ j) (evN xE j) (evN xEZ j) (evI xE j) (evI xEZ j) (evY xE j) (evY xEZ j) y y' = false by unfold sameV; simp only [p0.out, p1.out, p2.out, p3.out, h4, Bool.and_false, Bool.false_and, Bool.and_true, Bool.true_and]))
        have h4b : ((evY xE j) != (evY xEZ j)) = true := by rw [bne, h4]; rfl
        clear SE
        go_wp2_with (first | ((with_reducible refine listN F ?_); clear F; intro wN F) | (go_at_call 58; ((with_reducible refine (H5.out _).mono ?_); rintro e w1 ⟨rfl, rfl⟩; skip)) | (with_reducible refine wpList_indexW0 rfl rfl rfl rfl Try.underlying68 uinfoEventI hlt ?_) | ((with_reducible refine at_load rfl ?_); first | (with_reducible refine wpList_load1C rfl (g := w.heap.size) (f := 5) rfl (v := _) (by kernel_rfl) (F.row m1) rfl ukindEventSI ?_) | (with_reducible refine wpList_load1C rfl (g := w.heap.size) (f := 5) rfl (v := _) (by kernel_rfl) (F.row m2) rfl ukindEventSI ?_) | (with_reducible refine wpList_load1C rfl (g := w.heap.size) (f := 5) rfl (v := _) (by kernel_rfl) (F.row m3) rfl ukindEventSI ?_) | (with_reducible refine wpList_load1C rfl (g := w.heap.size + 1) (f := 5) rfl (v := _) (by kernel_rfl) (F.row m0) rfl ukindEventSI ?_) | (with_reducible refine wpList_load1C rfl (g := w.heap.size + 1) (f := 5) rfl (v := _) (by kernel_rfl) (F.row m1) rfl ukindEventSI ?_) | (with_reducible refine wpList_load1C rfl (g := w.heap.size + 1) (f := 5) rfl (v := _) (by kernel_rfl) (F.row m2) rfl ukindEventSI ?_) | (with_reducible refine wpList_loadW rfl rfl rfl [.int .i64 (evA xE j), .int .i64 (evK xE j), .int .i64 (evN xE j), .int .i64 (evI xE j), .int .i64 (evY xE j), .float .f32 y] (CU.out _ F.below) Try.underlying111 rfl uinfoEventI rfl ?_) | (with_reducible refine wpList_loadW rfl rfl rfl [.int .i64 (evA xEZ j), .int .i64 (evK xEZ j), .int .i64 (evN xEZ j), .int .i64 (evI xEZ j), .int .i64 (evY xEZ j), .float .f32 y'] (CU'.out _ F.below) Try.underlying111 rfl uinfoEventI rfl ?_) | (with_reducible refine wpList_load1C rfl (f := 0) rfl (v := .int .i64 _) (by kernel_rfl) (F.row m1) rfl ukindInt64 ?_) | (with_reducible refine wpList_load1C rfl (f := 1) rfl (v := .int .i64 _) (by kernel_rfl) (F.row m1) rfl ukindInt64 ?_) | (with_reducible refine wpList_load1C rfl (f := 2) rfl (v := .int .i64 _) (by kernel_rfl) (F.row m1) rfl ukindInt64 ?_) | (with_reducible refine wpList_load1C rfl (f := 3) rfl (v := .int .i64 _) (by kernel_rfl) (F.row m1) rfl ukindInt64 ?_) | (with_reducible refine wpList_load1C rfl (f := 4) rfl (v := .int .i64 _) (by kernel_rfl) (F.row m1) rfl ukindInt64 ?_) | (with_reducible refine wpList_load1C rfl (f := 5) rfl (v := .float .f32 y) (by kernel_rfl) (F.row m1) rfl ukindFloat32 ?_) | (with_reducible refine wpList_load1C rfl (f := 0) rfl (v := .int .i64 _) (by kernel_rfl) (F.row m0) rfl ukindInt64 ?_) | (with_reducible refine wpList_load1C rfl (f := 1) rfl (v := .int .i64 _) (by kernel_rfl) (F.row m0) rfl ukindInt64 ?_) | (with_reducible refine wpList_load1C rfl (f := 2) rfl (v := .int .i64 _) (by kernel_rfl) (F.row m0) rfl ukindInt64 ?_) | (with_reducible refine wpList_load1C rfl (f := 3) rfl (v := .int .i64 _) (by kernel_rfl) (F.row m0) rfl ukindInt64 ?_) | (with_reducible refine wpList_load1C rfl (f := 4) rfl (v := .int .i64 _) (by kernel_rfl) (F.row m0) rfl ukindInt64 ?_) | (with_reducible refine wpList_load1C rfl (f := 5) rfl (v := .float .f32 y') (by kernel_rfl) (F.row m0) rfl ukindFloat32 ?_)) | ((with_reducible refine at_store rfl ?_); (refine wpList_storeG F rfl rfl rfl rfl rfl uinfoEventI rfl (by (simp only [List.all_toArray', List.all_cons, List.all_nil, Bool.and_true, Bool.true_and]) <;> rfl) ?_; clear F; intro W F zW; clear zW)))
        go_ret
        exact ⟨ret_b (allB_no hlt hb.out).symm, F.below⟩
      have p4 := hid h4
      have h4b : ((evY xE j) != (evY xEZ j)) = false := by rw [bne, h4]; rfl
      rcases bool_ft (sameB y y') with h5 | h5
      · have hb := hid (SE.out.symm.trans (show sameV (evA xE j) (evA xEZ j) (evK xE j) (evK xEZ j) (evN xE j) (evN xEZ j) (evI xE j) (evI xEZ j) (evY xE j) (evY xEZ j) y y' = false by unfold sameV; simp only [p0.out, p1.out, p2.out, p3.out, p4.out, h5, Bool.and_false, Bool.false_and, Bool.and_true, Bool.true_and]))
        rw [h5] at H5
        clear h5
        clear SE
        go_wp2_with (first | ((with_reducible refine listN F ?_); clear F; intro wN F) | (go_at_call 58; ((with_reducible refine (H5.out _).mono ?_); rintro e w1 ⟨rfl, rfl⟩; skip)) | (with_reducible refine wpList_indexW0 rfl rfl rfl rfl Try.underlying68 uinfoEventI hlt ?_) | ((with_reducible refine at_load rfl ?_); first | (with_reducible refine wpList_load1C rfl (g := w.heap.size) (f := 5) rfl (v := _) (by kernel_rfl) (F.row m1) rfl ukindEventSI ?_) | (with_reducible refine wpList_load1C rfl (g := w.heap.size) (f := 5) rfl (v := _) (by kernel_rfl) (F.row m2) rfl ukindEventSI ?_) | (with_reducible refine wpList_load1C rfl (g := w.heap.size) (f := 5) rfl (v := _) (by kernel_rfl) (F.row m3) rfl ukindEventSI ?_) | (with_reducible refine wpList_load1C rfl (g := w.heap.size + 1) (f := 5) rfl (v := _) (by kernel_rfl) (F.row m0) rfl ukindEventSI ?_) | (with_reducible refine wpList_load1C rfl (g := w.heap.size + 1) (f := 5) rfl (v := _) (by kernel_rfl) (F.row m1) rfl ukindEventSI ?_) | (with_reducible refine wpList_load1C rfl (g := w.heap.size + 1) (f := 5) rfl (v := _) (by kernel_rfl) (F.row m2) rfl ukindEventSI ?_) | (with_reducible refine wpList_loadW rfl rfl rfl [.int .i64 (evA xE j), .int .i64 (evK xE j), .int .i64 (evN xE j), .int .i64 (evI xE j), .int .i64 (evY xE j), .float .f32 y] (CU.out _ F.below) Try.underlying111 rfl uinfoEventI rfl ?_) | (with_reducible refine wpList_loadW rfl rfl rfl [.int .i64 (evA xEZ j), .int .i64 (evK xEZ j), .int .i64 (evN xEZ j), .int .i64 (evI xEZ j), .int .i64 (evY xEZ j), .float .f32 y'] (CU'.out _ F.below) Try.underlying111 rfl uinfoEventI rfl ?_) | (with_reducible refine wpList_load1C rfl (f := 0) rfl (v := .int .i64 _) (by kernel_rfl) (F.row m1) rfl ukindInt64 ?_) | (with_reducible refine wpList_load1C rfl (f := 1) rfl (v := .int .i64 _) (by kernel_rfl) (F.row m1) rfl ukindInt64 ?_) | (with_reducible refine wpList_load1C rfl (f := 2) rfl (v := .int .i64 _) (by kernel_rfl) (F.row m1) rfl ukindInt64 ?_) | (with_reducible refine wpList_load1C rfl (f := 3) rfl (v := .int .i64 _) (by kernel_rfl) (F.row m1) rfl ukindInt64 ?_) | (with_reducible refine wpList_load1C rfl (f := 4) rfl (v := .int .i64 _) (by kernel_rfl) (F.row m1) rfl ukindInt64 ?_) | (with_reducible refine wpList_load1C rfl (f := 5) rfl (v := .float .f32 y) (by kernel_rfl) (F.row m1) rfl ukindFloat32 ?_) | (with_reducible refine wpList_load1C rfl (f := 0) rfl (v := .int .i64 _) (by kernel_rfl) (F.row m0) rfl ukindInt64 ?_) | (with_reducible refine wpList_load1C rfl (f := 1) rfl (v := .int .i64 _) (by kernel_rfl) (F.row m0) rfl ukindInt64 ?_) | (with_reducible refine wpList_load1C rfl (f := 2) rfl (v := .int .i64 _) (by kernel_rfl) (F.row m0) rfl ukindInt64 ?_) | (with_reducible refine wpList_load1C rfl (f := 3) rfl (v := .int .i64 _) (by kernel_rfl) (F.row m0) rfl ukindInt64 ?_) | (with_reducible refine wpList_load1C rfl (f := 4) rfl (v := .int .i64 _) (by kernel_rfl) (F.row m0) rfl ukindInt64 ?_) | (with_reducible refine wpList_load1C rfl (f := 5) rfl (v := .float .f32 y') (by kernel_rfl) (F.row m0) rfl ukindFloat32 ?_)) | ((with_reducible refine at_store rfl ?_); (refine wpList_storeG F rfl rfl rfl rfl rfl uinfoEventI rfl (by (simp only [List.all_toArray', List.all_cons, List.all_nil, Bool.and_true, Bool.true_and]) <;> rfl) ?_; clear F; intro W F zW; clear zW)))
        go_ret
        exact ⟨ret_b (allB_no hlt hb.out).symm, F.below⟩
      have p5 := hid h5
      rw [h5] at H5
      clear h5
      have hb := hid (SE.out.symm.trans (show sameV (evA xE j) (evA xEZ j) (evK xE j) (evK xEZ j) (evN xE j) (evN xEZ j) (evI xE j) (evI xEZ j) (evY xE j) (evY xEZ j) y y' = true by unfold sameV; simp only [p0.out, p1.out, p2.out, p3.out, p4.out, p5.out, Bool.and_false, Bool.false_and, Bool.and_true, Bool.true_and]))
      clear SE
      go_wp2_with (first | ((with_reducible refine listN F ?_); clear F; intro wN F) | (go_at_call 58; ((with_reducible refine (H5.out _).mono ?_); rintro e w1 ⟨rfl, rfl⟩; skip)) | (with_reducible refine wpList_indexW0 rfl rfl rfl rfl Try.underlying68 uinfoEventI hlt ?_) | ((with_reducible refine at_load rfl ?_); first | (with_reducible refine wpList_load1C rfl (g := w.heap.size) (f := 5) rfl (v := _) (by kernel_rfl) (F.row m1) rfl ukindEventSI ?_) | (with_reducible refine wpList_load1C rfl (g := w.heap.size) (f := 5) rfl (v := _) (by kernel_rfl) (F.row m2) rfl ukindEventSI ?_) | (with_reducible refine wpList_load1C rfl (g := w.heap.size) (f := 5) rfl (v := _) (by kernel_rfl) (F.row m3) rfl ukindEventSI ?_) | (with_reducible refine wpList_load1C rfl (g := w.heap.size + 1) (f := 5) rfl (v := _) (by kernel_rfl) (F.row m0) rfl ukindEventSI ?_) | (with_reducible refine wpList_load1C rfl (g := w.heap.size + 1) (f := 5) rfl (v := _) (by kernel_rfl) (F.row m1) rfl ukindEventSI ?_) | (with_reducible refine wpList_load1C rfl (g := w.heap.size + 1) (f := 5) rfl (v := _) (by kernel_rfl) (F.row m2) rfl ukindEventSI ?_) | (with_reducible refine wpList_loadW rfl rfl rfl [.int .i64 (evA xE j), .int .i64 (evK xE j), .int .i64 (evN xE j), .int .i64 (evI xE j), .int .i64 (evY xE j), .float .f32 y] (CU.out _ F.below) Try.underlying111 rfl uinfoEventI rfl ?_) | (with_reducible refine wpList_loadW rfl rfl rfl [.int .i64 (evA xEZ j), .int .i64 (evK xEZ j), .int .i64 (evN xEZ j), .int .i64 (evI xEZ j), .int .i64 (evY xEZ j), .float .f32 y'] (CU'.out _ F.below) Try.underlying111 rfl uinfoEventI rfl ?_) | (with_reducible refine wpList_load1C rfl (f := 0) rfl (v := .int .i64 _) (by kernel_rfl) (F.row m1) rfl ukindInt64 ?_) | (with_reducible refine wpList_load1C rfl (f := 1) rfl (v := .int .i64 _) (by kernel_rfl) (F.row m1) rfl ukindInt64 ?_) | (with_reducible refine wpList_load1C rfl (f := 2) rfl (v := .int .i64 _) (by kernel_rfl) (F.row m1) rfl ukindInt64 ?_) | (with_reducible refine wpList_load1C rfl (f := 3) rfl (v := .int .i64 _) (by kernel_rfl) (F.row m1) rfl ukindInt64 ?_) | (with_reducible refine wpList_load1C rfl (f := 4) rfl (v := .int .i64 _) (by kernel_rfl) (F.row m1) rfl ukindInt64 ?_) | (with_reducible refine wpList_load1C rfl (f := 5) rfl (v := .float .f32 y) (by kernel_rfl) (F.row m1) rfl ukindFloat32 ?_) | (with_reducible refine wpList_load1C rfl (f := 0) rfl (v := .int .i64 _) (by kernel_rfl) (F.row m0) rfl ukindInt64 ?_) | (with_reducible refine wpList_load1C rfl (f := 1) rfl (v := .int .i64 _) (by kernel_rfl) (F.row m0) rfl ukindInt64 ?_) | (with_reducible refine wpList_load1C rfl (f := 2) rfl (v := .int .i64 _) (by kernel_rfl) (F.row m0) rfl ukindInt64 ?_) | (with_reducible refine wpList_load1C rfl (f := 3) rfl (v := .int .i64 _) (by kernel_rfl) (F.row m0) rfl ukindInt64 ?_) | (with_reducible refine wpList_load1C rfl (f := 4) rfl (v := .int .i64 _) (by kernel_rfl) (F.row m0) rfl ukindInt64 ?_) | (with_reducible refine wpList_load1C rfl (f := 5) rfl (v := .float .f32 y') (by kernel_rfl) (F.row m0) rfl ukindFloat32 ?_)) | ((with_reducible refine at_store rfl ?_); (refine wpList_storeG F rfl rfl rfl rfl rfl uinfoEventI rfl (by (simp only [List.all_toArray', List.all_cons, List.all_nil, Bool.and_true, Bool.true_and]) <;> rfl) ?_; clear F; intro W F zW; clear zW)))
      go_roundw
      case rel => exact ⟨j + 1, by omega, by go_num, fun i hi => by rcases Nat.lt_or_ge i j with h | h; exact HJ.out i h; rw [show i = j by omega]; exact hb.out, F.tl.tl⟩
      case measure => simp [intOf]; omega
    · obtain rfl : j = nE := by omega
      go_wp2_with (first | ((with_reducible refine at_load rfl ?_); first | (with_reducible refine wpList_load1C rfl (g := w.heap.size) (f := 5) rfl (v := _) (by kernel_rfl) (F.row m1) rfl ukindEventSI ?_) | (with_reducible refine wpList_load1C rfl (g := w.heap.size) (f := 5) rfl (v := _) (by kernel_rfl) (F.row m2) rfl ukindEventSI ?_) | (with_reducible refine wpList_load1C rfl (g := w.heap.size) (f := 5) rfl (v := _) (by kernel_rfl) (F.row m3) rfl ukindEventSI ?_) | (with_reducible refine wpList_load1C rfl (g := w.heap.size + 1) (f := 5) rfl (v := _) (by kernel_rfl) (F.row m0) rfl ukindEventSI ?_) | (with_reducible refine wpList_load1C rfl (g := w.heap.size + 1) (f := 5) rfl (v := _) (by kernel_rfl) (F.row m1) rfl ukindEventSI ?_) | (with_reducible refine wpList_load1C rfl (g := w.heap.size + 1) (f := 5) rfl (v := _) (by kernel_rfl) (F.row m2) rfl ukindEventSI ?_)) | ((with_reducible refine listN F ?_); clear F; intro wN F))
      go_ret
      exact ⟨ret_b (allB_yes HJ.out).symm, F.below⟩
end Go.Proofs.Ytnkjmgadnejdlac

/- Scores as trees; 'SameScore' of both over them. -/
namespace Go.Proofs.Ytnkjmgadnejdlac
open Go.RowKit Go.Fk
theorem score_data {cs : List CD} (h : HasShL shScore cs) : ∃ (r b o : Nat) (xD : Nat → CD) (nD : Nat) (xI : Nat → CD) (nI : Nat) (xE : Nat → CD) (nE : Nat), cs = [.flt .f32 r, .flt .f32 b, .flt .f32 o, .sl 1 nD xD, .sl 5 nI xI, .sl 6 nE xE] ∧ (∀ i, i < nD → (xD i).flk = some .f32) ∧ InsOk (fun i => (xI i).cn) nI ∧ EvsOk (fun i => (xE i).cn) nE := by
  obtain ⟨c0, cs, rfl, q0, h⟩ := h.inv
  obtain ⟨c1, cs, rfl, q1, h⟩ := h.inv
  obtain ⟨c2, cs, rfl, q2, h⟩ := h.inv
  obtain ⟨c3, cs, rfl, q3, h⟩ := h.inv
  obtain ⟨c4, cs, rfl, q4, h⟩ := h.inv
  obtain ⟨c5, cs, rfl, q5, h⟩ := h.inv
  obtain rfl := h.inv0
  obtain ⟨r, rfl⟩ := q0
  obtain ⟨b, rfl⟩ := q1
  obtain ⟨o, rfl⟩ := q2
  obtain ⟨nD, xD, rfl, r0⟩ := q3
  obtain ⟨nI, xI, rfl, r1⟩ := q4
  obtain ⟨nE, xE, rfl, r2⟩ := q5
  refine ⟨r, b, o, xD, nD, xI, nI, xE, nE, rfl, fun i hi => ShOk.flts (fun i hi j hj => (r0 i hi j hj).ok) rfl i hi, ?_, ?_⟩
  · exact ins_ok (x := fun i => (xI i).cn) (fun i hi j hj => ((r1 i hi j hj).ok).cn) rfl rfl rfl rfl rfl
  · exact evs_ok (x := fun i => (xE i).cn) (fun i hi j hj => ((r2 i hi j hj).ok).cn) rfl rfl rfl rfl rfl rfl
theorem score_open {r b o nD nI nE : Nat} {xD xI xE : Nat → CD} {w : World} {B : Nat} {u : List Value} (h : RdLN w B (([.flt .f32 r, .flt .f32 b, .flt .f32 o, .sl 1 nD xD, .sl 5 nI xI, .sl 6 nE xE] : List CD).map CD.cp) u) (hx : ∀ i, i < nD → (xD i).flk = some .f32) : ∃ sD sI sE : Value, u = [.float .f32 r, .float .f32 b, .float .f32 o, sD, sI, sE] ∧ (slT (fun i => (xD i).fx) nD).RdN w B sD ∧ (CD.sl 5 nI (fun i => (xI i).cn)).RdN w B sI ∧ (CD.sl 6 nE (fun i => (xE i).cn)).RdN w B sE ∧ fits .f32 r ∧ fits .f32 b ∧ fits .f32 o := by
  simp only [List.map_cons, List.map_nil] at h
  obtain ⟨v0, u0, rfl, q0, hh0⟩ := h.inv
  obtain ⟨v1, u1, rfl, q1, hh1⟩ := hh0.inv
  obtain ⟨v2, u2, rfl, q2, hh2⟩ := hh1.inv
  obtain ⟨v3, u3, rfl, q3, hh3⟩ := hh2.inv
  obtain ⟨v4, u4, rfl, q4, hh4⟩ := hh3.inv
  obtain ⟨v5, u5, rfl, q5, hh5⟩ := hh4.inv
  obtain rfl := hh5.inv0
  obtain ⟨rfl, f0⟩ := q0
  obtain ⟨rfl, f1⟩ := q1
  obtain ⟨rfl, f2⟩ := q2
  exact ⟨v3, v4, v5, rfl, q3.congr (slT_cp hx), q4, q5, f0, f1, f2⟩
theorem both_SameScore (cs cs' : List CD) (h : HasShL shScore cs) (h' : HasShL shScore cs') : ∃ ar0 : Bool, (∀ (w : World) (B : Nat) (u : List Value) (B' : Nat) (u' : List Value), RdLN w B (cs.map CD.cp) u → RdLN w B' (cs'.map CD.cp) u' → Calls Try.prog 24 #[.agg u.toArray, .agg u'.toArray] w (Out_b ar0 w)) ∧ (∀ (w : World) (B : Nat) (u : List Value) (B' : Nat) (u' : List Value), RdLN w B (cs.map CD.cp) u → RdLN w B' (cs'.map CD.cp) u' → Calls Try.prog 26 #[.agg u.toArray, .agg u'.toArray] w (Out_b ar0 w)) := by
  obtain ⟨r, b, o, xD, nD, xI, nI, xE, nE, rfl, hx, kI, kE⟩ := score_data h
  obtain ⟨r', b', o', xD', nD', xI', nI', xE', nE', rfl, hx', kI', kE'⟩ := score_data h'
  refine ⟨sameSc r b o (fun i => (xD i).fx) nD (fun i => (xI i).cn) nI (fun i => (xE i).cn) nE r' b' o' (fun i => (xD' i).fx) nD' (fun i => (xI' i).cn) nI' (fun i => (xE' i).cn) nE', fun w B u B' u' hu hu' => ?_, fun w B u B' u' hu hu' => ?_⟩
  · obtain ⟨sD, sI, sE, rfl, hD, hI, hE, _⟩ := score_open hu hx
    obtain ⟨sD', sI', sE', rfl, hD', hI', hE', _⟩ := score_open hu' hx'
    exact s_SameScore B B' sD sI sE sD' sI' sE' _ _ _ _ _ _ _ _ _ _ _ _ _ _ _ _ _ _ w hD hI hE kI kE hD' hI' hE' kI' kE'
  · obtain ⟨sD, sI, sE, rfl, hD, hI, hE, _⟩ := score_open hu hx
    obtain ⟨sD', sI', sE', rfl, hD', hI', hE', _⟩ := score_open hu' hx'
    exact i_SameScore B B' sD sI sE sD' sI' sE' _ _ _ _ _ _ _ _ _ _ _ _ _ _ _ _ _ _ w hD hI hE kI kE hD' hI' hE' kI' kE'
end Go.Proofs.Ytnkjmgadnejdlac

/- The walk of 'FnExactSameScore'. -/
namespace Go.Proofs.Ytnkjmgadnejdlac.fnExactSameScore
open Go.RowKit Go.Fk
set_option maxRecDepth 100000 in
set_option maxHeartbeats 4000000 in
theorem core (cs0 : List CD) (vs0 : List Value) (cs1 : List CD) (vs1 : List Value) (ar0 : Bool) (w : World) (z0 : RdL w w.heap.size cs0 vs0) (k0 : HasShL shScore cs0) (z1 : RdL w w.heap.size cs1 vs1) (k1 : HasShL shScore cs1) (hz : szL cs0 + szL cs1 ≤ 1048576)
    (hS : ∀ (w : World) (B0 : Nat) (u0 : List Value) (B1 : Nat) (u1 : List Value), RdLN w B0 (cs0.map CD.cp) u0 → RdLN w B1 (cs1.map CD.cp) u1 → Calls Try.prog 24 #[.agg u0.toArray, .agg u1.toArray] w (Out_b ar0 w))
    (hI : ∀ (w : World) (B0 : Nat) (u0 : List Value) (B1 : Nat) (u1 : List Value), RdLN w B0 (cs0.map CD.cp) u0 → RdLN w B1 (cs1.map CD.cp) u1 → Calls Try.prog 26 #[.agg u0.toArray, .agg u1.toArray] w (Out_b ar0 w)) :
    Calls Try.prog 5 #[.agg vs0.toArray, .agg vs1.toArray] w fun e w' => e = .returned (.bool true) ∧ Below w.heap.size w w' := by
  have Z0 := hid z0; have K0 := hid k0.ok; have HH0 := hid k0; have hl0 : Hid (vs0.length = 6) := z0.1.trans k0.1; clear z0 k0
  have Z1 := hid z1; have K1 := hid k1.ok; have HH1 := hid k1; have hl1 : Hid (vs1.length = 6) := z1.1.trans k1.1; clear z1 k1
  have hz0 : szL cs0 ≤ 1048576 := by omega
  have hz1 : szL cs1 ≤ 1048576 := by omega
  have hm0 : ¬ (1048576 : Int) - (szL cs0 : Nat) < 0 := by omega
  have hm1 : ¬ (1048576 : Int) - (szL cs0 : Nat) - (szL cs1 : Nat) < 0 := by omega
  have HS := hid hS; have HI := hid hI; clear hS hI
  have F := Frg.nil w
  replace F := F.box 63 vs0.toArray
  replace F := F.box 63 vs1.toArray
  simp only [World.size_alloc] at F
  go_enter Try.func5, Try.ntmps5
  go_wp2_with (first | (((with_reducible refine listN F ?_); clear F; intro wN F)) | ((with_reducible refine at_loadU rfl rfl ?_); first | (with_reducible refine wpList_loadG F rfl rfl rfl (by first | exact m0 | exact m1 | exact m2 | exact m3 | exact m4 | exact m5 | exact m6 | exact m7 | exact m8 | exact m9 | exact m10 | exact m11) Try.underlying70 rfl uinfoScoreI (by simp only [List.size_toArray]; first | exact hl0.out | exact hl1.out | exact huB0.out | exact huB1.out) ?_) | (with_reducible refine wpList_loadG F rfl rfl rfl (by first | exact m0 | exact m1 | exact m2 | exact m3 | exact m4 | exact m5 | exact m6 | exact m7 | exact m8 | exact m9 | exact m10 | exact m11) Try.underlying63 rfl uinfoScoreL (by simp only [List.size_toArray]; first | exact hl0.out | exact hl1.out | exact huB0.out | exact huB1.out) ?_)) | (go_at_call 23; ((with_reducible refine (szU_Score _ cs0 vs0 (1048576 : Int) ((1048576 : Int) - (szL cs0 : Nat)) _ (Z0.out.le F.below) K0.out (by omega) (by omega) (lessBy_pos (by omega))).mono ?_); rintro e w1 ⟨rfl, hb1⟩; replace F := F.le hb1)) | (go_at_call 23; ((with_reducible refine (szU_Score _ cs1 vs1 ((1048576 : Int) - (szL cs0 : Nat)) (((1048576 : Int) - (szL cs0 : Nat)) - (szL cs1 : Nat)) _ (Z1.out.le F.below) K1.out (by omega) (by omega) (lessBy_pos (by omega))).mono ?_); rintro e w1 ⟨rfl, hb1⟩; replace F := F.le hb1)))
  first | (refine wpAt0 F ?_; clear F; intro wN F) | (refine wpAtN F ?_; clear F; intro wN F)
  refine region_freeD (E := leX) (fun f args w v => if f = 25 then KT shScore wN args w v else v = .bool ar0) (by kernel_rfl) (by kernel_rfl) ?_
  refine wpFreeD_loadG F rfl rfl rfl rfl (by first | exact m0 | exact m1 | exact m2 | exact m3 | exact m4 | exact m5 | exact m6 | exact m7 | exact m8 | exact m9 | exact m10 | exact m11) Try.underlying63 rfl uinfoScoreL (by simp only [List.size_toArray]; exact hl0.out) ?_
  simp only [Act.put, List.setIfInBounds_toArray, List.set_cons_succ, List.set_cons_zero]
  refine wpFreeD_callB rfl rfl Try.func25 (by kernel_rfl) (by kernel_rfl) (args := #[.agg vs0.toArray]) (by simp [Act.eval]) (fun v w1 w2 hw hv => by simp only [if_true] at hv ⊢; exact hv.le hw) (fun w1 hw1 _ => (toU_Score _ cs0 vs0 w1 (Z0.out.le (le_trans (F.drewN _).below hw1)) K0.out hz0).mono ?_) ?_
  · rintro e w2 ⟨us, rfl, ho, hl⟩
    exact ⟨_, rfl, hl, by simp only [if_true]; exact KT.mk (Z0.out.le F.below) HH0.out (ho.rdN (fun _ hj => hj.2))⟩
  rintro v ⟨_, _, _, hv⟩
  simp only [if_true] at hv
  obtain ⟨u0, Bu0, rfl, _⟩ := hv vs0 cs0 _ rfl (Z0.out.le F.below) HH0.out
  simp only [Act.put, List.setIfInBounds_toArray, List.set_cons_succ, List.set_cons_zero]
  refine wpFreeD_loadG F rfl rfl rfl rfl (by first | exact m0 | exact m1 | exact m2 | exact m3 | exact m4 | exact m5 | exact m6 | exact m7 | exact m8 | exact m9 | exact m10 | exact m11) Try.underlying63 rfl uinfoScoreL (by simp only [List.size_toArray]; exact hl1.out) ?_
  simp only [Act.put, List.setIfInBounds_toArray, List.set_cons_succ, List.set_cons_zero]
  refine wpFreeD_callB rfl rfl Try.func25 (by kernel_rfl) (by kernel_rfl) (args := #[.agg vs1.toArray]) (by simp [Act.eval]) (fun v w1 w2 hw hv => by simp only [if_true] at hv ⊢; exact hv.le hw) (fun w1 hw1 _ => (toU_Score _ cs1 vs1 w1 (Z1.out.le (le_trans (F.drewN _).below hw1)) K1.out hz1).mono ?_) ?_
  · rintro e w2 ⟨us, rfl, ho, hl⟩
    exact ⟨_, rfl, hl, by simp only [if_true]; exact KT.mk (Z1.out.le F.below) HH1.out (ho.rdN (fun _ hj => hj.2))⟩
  rintro v ⟨_, _, _, hv⟩
  simp only [if_true] at hv
  obtain ⟨u1, Bu1, rfl, _⟩ := hv vs1 cs1 _ rfl (Z1.out.le F.below) HH1.out
  simp only [Act.put, List.setIfInBounds_toArray, List.set_cons_succ, List.set_cons_zero]
  refine wpFreeD_callB rfl rfl Try.func24 (by kernel_rfl) (by kernel_rfl) (args := #[.agg u0.toArray, .agg u1.toArray]) (by simp [Act.eval]) (fun v w1 w2 hw hv => by simp only [show ¬ (24 = 25) by decide, if_false] at hv ⊢; exact hv) (fun w1 hw1 hbe => ?_) ?_
  · skip
    have hk0 := (hbe ⟨1, Ground.data⟩ (by simp) (by kernel_rfl)).1.1.2 rfl
    simp only [if_true] at hk0
    obtain ⟨v0, B0, he0, hr0⟩ := hk0 vs0 cs0 _ rfl (Z0.out.le F.below) HH0.out
    obtain rfl : u0 = v0 := by simpa using he0
    have hk1 := (hbe ⟨3, Ground.data⟩ (by simp) (by kernel_rfl)).2 rfl
    simp only [if_true] at hk1
    obtain ⟨v1, B1, he1, hr1⟩ := hk1 vs1 cs1 _ rfl (Z1.out.le F.below) HH1.out
    obtain rfl : u1 = v1 := by simpa using he1
    refine (HS.out _ _ _ _ _ hr0 hr1).mono ?_
    rintro e w2 ⟨rfl, hl⟩
    exact ⟨_, rfl, hl, by simp only [show ¬ (24 = 25) by decide, if_false]⟩
  rintro v ⟨_, _, _, hv⟩
  simp only [show ¬ (24 = 25) by decide, if_false] at hv
  subst hv
  simp only [Act.put, List.setIfInBounds_toArray, List.set_cons_succ, List.set_cons_zero]
  refine wpFreeD_one rfl (.bool ar0) (fun w1 _ => by kernel_rfl) ?_
  simp only [Act.put, List.setIfInBounds_toArray, List.set_cons_succ, List.set_cons_zero]
  refine wpFreeD_nil (fun wR hwR _ => ?_)
  replace F := (F.drewN 1).le hwR
  clear hwR
  go_wp2_with (first | (((with_reducible refine listN F ?_); clear F; intro wN F)) | ((with_reducible refine at_store rfl ?_); first | (refine wpList_storeG F rfl rfl rfl rfl rfl (by simp only [List.size_toArray]; rw [huB0.out]; exact uinfoScoreI) (by simp only [List.size_toArray]; rw [huB0.out]; rfl) (by exact hoB0.out) ?_; clear F; intro W F zW; clear zW) | (refine wpList_storeG F rfl rfl rfl rfl rfl (by simp only [List.size_toArray]; rw [huB1.out]; exact uinfoScoreI) (by simp only [List.size_toArray]; rw [huB1.out]; rfl) (by exact hoB1.out) ?_; clear F; intro W F zW; clear zW)) | ((with_reducible refine at_loadU rfl rfl ?_); first | (with_reducible refine wpList_loadG F rfl rfl rfl (by first | exact m0 | exact m1 | exact m2 | exact m3 | exact m4 | exact m5 | exact m6 | exact m7 | exact m8 | exact m9 | exact m10 | exact m11) Try.underlying70 rfl uinfoScoreI (by simp only [List.size_toArray]; first | exact hl0.out | exact hl1.out | exact huB0.out | exact huB1.out) ?_) | (with_reducible refine wpList_loadG F rfl rfl rfl (by first | exact m0 | exact m1 | exact m2 | exact m3 | exact m4 | exact m5 | exact m6 | exact m7 | exact m8 | exact m9 | exact m10 | exact m11) Try.underlying63 rfl uinfoScoreL (by simp only [List.size_toArray]; first | exact hl0.out | exact hl1.out | exact huB0.out | exact huB1.out) ?_)) | (go_at_call 25; ((with_reducible refine (toU_Score _ cs0 vs0 _ (Z0.out.le F.below) K0.out hz0).mono ?_); rintro e w1 ⟨usB0, rfl, ho, hl⟩; have huB0 : Hid (usB0.length = 6) := ho.1.trans ((List.length_map ..).trans K0.out.1); have hoB0 := hid ho.all_one; replace F := F.lay1 hl ho; clear ho hl)) | (go_at_call 25; ((with_reducible refine (toU_Score _ cs1 vs1 _ (Z1.out.le F.below) K1.out hz1).mono ?_); rintro e w1 ⟨usB1, rfl, ho, hl⟩; have huB1 : Hid (usB1.length = 6) := ho.1.trans ((List.length_map ..).trans K1.out.1); have hoB1 := hid ho.all_one; replace F := F.lay1 hl ho; clear ho hl)))
  first | ((with_reducible refine callAt0 F ?_); clear F; intro wN2 F) | ((with_reducible refine callAtN F ?_); clear F; intro wN2 F)
  refine (HI.out _ _ _ _ _ (F.layN (by first | exact m0 | exact m1 | exact m2 | exact m3 | exact m4 | exact m5 | exact m6 | exact m7 | exact m8 | exact m9 | exact m10 | exact m11)) (F.layN (by first | exact m0 | exact m1 | exact m2 | exact m3 | exact m4 | exact m5 | exact m6 | exact m7 | exact m8 | exact m9 | exact m10 | exact m11))).mono ?_
  rintro e wI ⟨rfl, hlI⟩
  replace F := F.le hlI
  go_wp2_with (first | (((with_reducible refine listN F ?_); clear F; intro wN F)) | ((with_reducible refine at_store rfl ?_); first | (refine wpList_storeG F rfl rfl rfl rfl rfl (by simp only [List.size_toArray]; rw [huB0.out]; exact uinfoScoreI) (by simp only [List.size_toArray]; rw [huB0.out]; rfl) (by exact hoB0.out) ?_; clear F; intro W F zW; clear zW) | (refine wpList_storeG F rfl rfl rfl rfl rfl (by simp only [List.size_toArray]; rw [huB1.out]; exact uinfoScoreI) (by simp only [List.size_toArray]; rw [huB1.out]; rfl) (by exact hoB1.out) ?_; clear F; intro W F zW; clear zW)) | ((with_reducible refine at_loadU rfl rfl ?_); first | (with_reducible refine wpList_loadG F rfl rfl rfl (by first | exact m0 | exact m1 | exact m2 | exact m3 | exact m4 | exact m5 | exact m6 | exact m7 | exact m8 | exact m9 | exact m10 | exact m11) Try.underlying70 rfl uinfoScoreI (by simp only [List.size_toArray]; first | exact hl0.out | exact hl1.out | exact huB0.out | exact huB1.out) ?_) | (with_reducible refine wpList_loadG F rfl rfl rfl (by first | exact m0 | exact m1 | exact m2 | exact m3 | exact m4 | exact m5 | exact m6 | exact m7 | exact m8 | exact m9 | exact m10 | exact m11) Try.underlying63 rfl uinfoScoreL (by simp only [List.size_toArray]; first | exact hl0.out | exact hl1.out | exact huB0.out | exact huB1.out) ?_)))
  first | (refine wpAt0 F ?_; clear F; intro wM0 F) | (refine wpAtN F ?_; clear F; intro wM0 F)
  refine region_freeD (E := leX) (fun f _ w v => if f = 25 then ∃ (us : List Value) (B : Nat), v = .agg us.toArray ∧ RdL w B (cs0.map CD.cp) us else v = .bool true) (by kernel_rfl) (by kernel_rfl) ?_
  refine wpFreeD_loadG F rfl rfl rfl rfl (by first | exact m0 | exact m1 | exact m2 | exact m3 | exact m4 | exact m5 | exact m6 | exact m7 | exact m8 | exact m9 | exact m10 | exact m11) Try.underlying70 rfl uinfoScoreI (by simp only [List.size_toArray]; exact huB0.out) ?_
  simp only [Act.put, List.setIfInBounds_toArray, List.set_cons_succ, List.set_cons_zero]
  refine wpFreeD_loadG F rfl rfl rfl rfl (by first | exact m0 | exact m1 | exact m2 | exact m3 | exact m4 | exact m5 | exact m6 | exact m7 | exact m8 | exact m9 | exact m10 | exact m11) Try.underlying63 rfl uinfoScoreL (by simp only [List.size_toArray]; exact hl0.out) ?_
  simp only [Act.put, List.setIfInBounds_toArray, List.set_cons_succ, List.set_cons_zero]
  refine wpFreeD_callB rfl rfl Try.func25 (by kernel_rfl) (by kernel_rfl) (args := #[.agg vs0.toArray]) (by simp [Act.eval]) (fun v w1 w2 hw hv => by simp only [if_true] at hv ⊢; obtain ⟨u, B, h1, h2⟩ := hv; exact ⟨u, B, h1, h2.le hw⟩) (fun w1 hw1 _ => (toU_Score _ cs0 vs0 w1 (Z0.out.le (le_trans (F.drewN _).below hw1)) K0.out hz0).mono ?_) ?_
  · rintro e w2 ⟨u, rfl, ho, hl⟩
    exact ⟨_, rfl, hl, by simp only [if_true]; exact ⟨u, _, rfl, ho.rd (fun _ hj => hj.2)⟩⟩
  rintro v ⟨_, _, _, hv⟩
  simp only [if_true] at hv
  obtain ⟨ud0, Bud0, rfl, _⟩ := hv
  simp only [Act.put, List.setIfInBounds_toArray, List.set_cons_succ, List.set_cons_zero]
  refine wpFreeD_callB rfl rfl Try.func27 (by kernel_rfl) (by kernel_rfl) (args := #[.agg usB0.toArray, .agg ud0.toArray]) (by simp [Act.eval]) (fun v w1 w2 hw hv => by simp only [show ¬ (27 = 25) by decide, if_false] at hv ⊢; exact hv) (fun w1 hw1 hbe => ?_) ?_
  · have hk := (hbe ⟨2, Ground.data⟩ (by simp) (by kernel_rfl)).2 rfl
    simp only [if_true] at hk
    obtain ⟨u', B', he, hr⟩ := hk
    obtain rfl : ud0 = u' := by simpa using he
    refine (eqU_Score _ _ (cs0.map CD.cp) _ _ _ (((F.drewN 1).le hw1).layR (by first | exact m0 | exact m1 | exact m2 | exact m3 | exact m4 | exact m5 | exact m6 | exact m7 | exact m8 | exact m9 | exact m10 | exact m11)) hr K0.out.cp (by rw [szL_cp]; exact hz0)).mono ?_
    rintro e w2 ⟨rfl, hl⟩
    exact ⟨_, rfl, hl, by simp only [show ¬ (27 = 25) by decide, if_false]⟩
  rintro v ⟨_, _, _, hv⟩
  simp only [show ¬ (27 = 25) by decide, if_false] at hv
  subst hv
  simp only [Act.put, List.setIfInBounds_toArray, List.set_cons_succ, List.set_cons_zero]
  refine wpFreeD_one rfl (.bool false) (fun w1 _ => by kernel_rfl) ?_
  simp only [Act.put, List.setIfInBounds_toArray, List.set_cons_succ, List.set_cons_zero]
  refine wpFreeD_nil (fun wR hwR _ => ?_)
  replace F := (F.drewN 1).le hwR
  clear hwR
  go_wp2_with (first | (((with_reducible refine listN F ?_); clear F; intro wN F)) | ((with_reducible refine at_loadU rfl rfl ?_); first | (with_reducible refine wpList_loadG F rfl rfl rfl (by first | exact m0 | exact m1 | exact m2 | exact m3 | exact m4 | exact m5 | exact m6 | exact m7 | exact m8 | exact m9 | exact m10 | exact m11) Try.underlying70 rfl uinfoScoreI (by simp only [List.size_toArray]; first | exact hl0.out | exact hl1.out | exact huB0.out | exact huB1.out) ?_) | (with_reducible refine wpList_loadG F rfl rfl rfl (by first | exact m0 | exact m1 | exact m2 | exact m3 | exact m4 | exact m5 | exact m6 | exact m7 | exact m8 | exact m9 | exact m10 | exact m11) Try.underlying63 rfl uinfoScoreL (by simp only [List.size_toArray]; first | exact hl0.out | exact hl1.out | exact huB0.out | exact huB1.out) ?_)))
  first | (refine wpAt0 F ?_; clear F; intro wM1 F) | (refine wpAtN F ?_; clear F; intro wM1 F)
  refine region_freeD (E := leX) (fun f _ w v => if f = 25 then ∃ (us : List Value) (B : Nat), v = .agg us.toArray ∧ RdL w B (cs1.map CD.cp) us else v = .bool true) (by kernel_rfl) (by kernel_rfl) ?_
  refine wpFreeD_loadG F rfl rfl rfl rfl (by first | exact m0 | exact m1 | exact m2 | exact m3 | exact m4 | exact m5 | exact m6 | exact m7 | exact m8 | exact m9 | exact m10 | exact m11) Try.underlying70 rfl uinfoScoreI (by simp only [List.size_toArray]; exact huB1.out) ?_
  simp only [Act.put, List.setIfInBounds_toArray, List.set_cons_succ, List.set_cons_zero]
  refine wpFreeD_loadG F rfl rfl rfl rfl (by first | exact m0 | exact m1 | exact m2 | exact m3 | exact m4 | exact m5 | exact m6 | exact m7 | exact m8 | exact m9 | exact m10 | exact m11) Try.underlying63 rfl uinfoScoreL (by simp only [List.size_toArray]; exact hl1.out) ?_
  simp only [Act.put, List.setIfInBounds_toArray, List.set_cons_succ, List.set_cons_zero]
  refine wpFreeD_callB rfl rfl Try.func25 (by kernel_rfl) (by kernel_rfl) (args := #[.agg vs1.toArray]) (by simp [Act.eval]) (fun v w1 w2 hw hv => by simp only [if_true] at hv ⊢; obtain ⟨u, B, h1, h2⟩ := hv; exact ⟨u, B, h1, h2.le hw⟩) (fun w1 hw1 _ => (toU_Score _ cs1 vs1 w1 (Z1.out.le (le_trans (F.drewN _).below hw1)) K1.out hz1).mono ?_) ?_
  · rintro e w2 ⟨u, rfl, ho, hl⟩
    exact ⟨_, rfl, hl, by simp only [if_true]; exact ⟨u, _, rfl, ho.rd (fun _ hj => hj.2)⟩⟩
  rintro v ⟨_, _, _, hv⟩
  simp only [if_true] at hv
  obtain ⟨ud1, Bud1, rfl, _⟩ := hv
  simp only [Act.put, List.setIfInBounds_toArray, List.set_cons_succ, List.set_cons_zero]
  refine wpFreeD_callB rfl rfl Try.func27 (by kernel_rfl) (by kernel_rfl) (args := #[.agg usB1.toArray, .agg ud1.toArray]) (by simp [Act.eval]) (fun v w1 w2 hw hv => by simp only [show ¬ (27 = 25) by decide, if_false] at hv ⊢; exact hv) (fun w1 hw1 hbe => ?_) ?_
  · have hk := (hbe ⟨2, Ground.data⟩ (by simp) (by kernel_rfl)).2 rfl
    simp only [if_true] at hk
    obtain ⟨u', B', he, hr⟩ := hk
    obtain rfl : ud1 = u' := by simpa using he
    refine (eqU_Score _ _ (cs1.map CD.cp) _ _ _ (((F.drewN 1).le hw1).layR (by first | exact m0 | exact m1 | exact m2 | exact m3 | exact m4 | exact m5 | exact m6 | exact m7 | exact m8 | exact m9 | exact m10 | exact m11)) hr K1.out.cp (by rw [szL_cp]; exact hz1)).mono ?_
    rintro e w2 ⟨rfl, hl⟩
    exact ⟨_, rfl, hl, by simp only [show ¬ (27 = 25) by decide, if_false]⟩
  rintro v ⟨_, _, _, hv⟩
  simp only [show ¬ (27 = 25) by decide, if_false] at hv
  subst hv
  simp only [Act.put, List.setIfInBounds_toArray, List.set_cons_succ, List.set_cons_zero]
  refine wpFreeD_one rfl (.bool false) (fun w1 _ => by kernel_rfl) ?_
  simp only [Act.put, List.setIfInBounds_toArray, List.set_cons_succ, List.set_cons_zero]
  refine wpFreeD_nil (fun wR hwR _ => ?_)
  replace F := (F.drewN 1).le hwR
  clear hwR
  go_wp2_with (first | (((with_reducible refine listN F ?_); clear F; intro wN F)) | ((with_reducible refine at_loadU rfl rfl ?_); first | (with_reducible refine wpList_loadG F rfl rfl rfl (by first | exact m0 | exact m1 | exact m2 | exact m3 | exact m4 | exact m5 | exact m6 | exact m7 | exact m8 | exact m9 | exact m10 | exact m11) Try.underlying70 rfl uinfoScoreI (by simp only [List.size_toArray]; first | exact hl0.out | exact hl1.out | exact huB0.out | exact huB1.out) ?_) | (with_reducible refine wpList_loadG F rfl rfl rfl (by first | exact m0 | exact m1 | exact m2 | exact m3 | exact m4 | exact m5 | exact m6 | exact m7 | exact m8 | exact m9 | exact m10 | exact m11) Try.underlying63 rfl uinfoScoreL (by simp only [List.size_toArray]; first | exact hl0.out | exact hl1.out | exact huB0.out | exact huB1.out) ?_)))
  go_ret
  first | exact ⟨rfl, F.below⟩ | exact ⟨rfl, below_drewN F.below _⟩
set_option maxRecDepth 100000 in
set_option maxHeartbeats 4000000 in
theorem large0 (cs0 : List CD) (vs0 : List Value) (cs1 : List CD) (vs1 : List Value) (w : World) (z0 : RdL w w.heap.size cs0 vs0) (k0 : HasShL shScore cs0) (z1 : RdL w w.heap.size cs1 vs1) (k1 : HasShL shScore cs1)  (hg : ¬ szL cs0 ≤ 1048576) :
    Calls Try.prog 5 #[.agg vs0.toArray, .agg vs1.toArray] w fun e w' => e = .returned (.bool true) ∧ Below w.heap.size w w' := by
  have Z0 := hid z0; have K0 := hid k0.ok; have hl0 : Hid (vs0.length = 6) := z0.1.trans k0.1; clear z0 k0
  have Z1 := hid z1; have K1 := hid k1.ok; have hl1 : Hid (vs1.length = 6) := z1.1.trans k1.1; clear z1 k1
  have hn0 : (1048576 : Int) - (szL cs0 : Nat) < 0 := by omega
  have F := Frg.nil w
  replace F := F.box 63 vs0.toArray
  replace F := F.box 63 vs1.toArray
  simp only [World.size_alloc] at F
  go_enter Try.func5, Try.ntmps5
  go_wp2_with (first | (((with_reducible refine listN F ?_); clear F; intro wN F)) | ((with_reducible refine at_loadU rfl rfl ?_); first | (with_reducible refine wpList_loadG F rfl rfl rfl (by first | exact m0 | exact m1 | exact m2 | exact m3 | exact m4 | exact m5 | exact m6 | exact m7 | exact m8 | exact m9 | exact m10 | exact m11) Try.underlying70 rfl uinfoScoreI (by simp only [List.size_toArray]; first | exact hl0.out | exact hl1.out | exact huB0.out | exact huB1.out) ?_) | (with_reducible refine wpList_loadG F rfl rfl rfl (by first | exact m0 | exact m1 | exact m2 | exact m3 | exact m4 | exact m5 | exact m6 | exact m7 | exact m8 | exact m9 | exact m10 | exact m11) Try.underlying63 rfl uinfoScoreL (by simp only [List.size_toArray]; first | exact hl0.out | exact hl1.out | exact huB0.out | exact huB1.out) ?_)) | (go_at_call 23; ((with_reducible refine (szU_Score _ cs0 vs0 (1048576 : Int) (-1 : Int) _ (Z0.out.le F.below) K0.out (by omega) (by omega) (lessBy_neg (by omega))).mono ?_); rintro e w1 ⟨rfl, hb1⟩; replace F := F.le hb1)))
  go_ret
  first | exact ⟨rfl, F.below⟩ | exact ⟨rfl, below_drewN F.below _⟩
set_option maxRecDepth 100000 in
set_option maxHeartbeats 4000000 in
theorem large1 (cs0 : List CD) (vs0 : List Value) (cs1 : List CD) (vs1 : List Value) (w : World) (z0 : RdL w w.heap.size cs0 vs0) (k0 : HasShL shScore cs0) (z1 : RdL w w.heap.size cs1 vs1) (k1 : HasShL shScore cs1) (g0 : szL cs0 ≤ 1048576) (hg : ¬ szL cs0 + szL cs1 ≤ 1048576) :
    Calls Try.prog 5 #[.agg vs0.toArray, .agg vs1.toArray] w fun e w' => e = .returned (.bool true) ∧ Below w.heap.size w w' := by
  have Z0 := hid z0; have K0 := hid k0.ok; have hl0 : Hid (vs0.length = 6) := z0.1.trans k0.1; clear z0 k0
  have Z1 := hid z1; have K1 := hid k1.ok; have hl1 : Hid (vs1.length = 6) := z1.1.trans k1.1; clear z1 k1
  have hm0 : ¬ (1048576 : Int) - (szL cs0 : Nat) < 0 := by omega
  have hn1 : ((1048576 : Int) - (szL cs0 : Nat)) - (szL cs1 : Nat) < 0 := by omega
  have F := Frg.nil w
  replace F := F.box 63 vs0.toArray
  replace F := F.box 63 vs1.toArray
  simp only [World.size_alloc] at F
  go_enter Try.func5, Try.ntmps5
  go_wp2_with (first | (((with_reducible refine listN F ?_); clear F; intro wN F)) | ((with_reducible refine at_loadU rfl rfl ?_); first | (with_reducible refine wpList_loadG F rfl rfl rfl (by first | exact m0 | exact m1 | exact m2 | exact m3 | exact m4 | exact m5 | exact m6 | exact m7 | exact m8 | exact m9 | exact m10 | exact m11) Try.underlying70 rfl uinfoScoreI (by simp only [List.size_toArray]; first | exact hl0.out | exact hl1.out | exact huB0.out | exact huB1.out) ?_) | (with_reducible refine wpList_loadG F rfl rfl rfl (by first | exact m0 | exact m1 | exact m2 | exact m3 | exact m4 | exact m5 | exact m6 | exact m7 | exact m8 | exact m9 | exact m10 | exact m11) Try.underlying63 rfl uinfoScoreL (by simp only [List.size_toArray]; first | exact hl0.out | exact hl1.out | exact huB0.out | exact huB1.out) ?_)) | (go_at_call 23; ((with_reducible refine (szU_Score _ cs0 vs0 (1048576 : Int) ((1048576 : Int) - (szL cs0 : Nat)) _ (Z0.out.le F.below) K0.out (by omega) (by omega) (lessBy_pos (by omega))).mono ?_); rintro e w1 ⟨rfl, hb1⟩; replace F := F.le hb1)) | (go_at_call 23; ((with_reducible refine (szU_Score _ cs1 vs1 ((1048576 : Int) - (szL cs0 : Nat)) (-1 : Int) _ (Z1.out.le F.below) K1.out (by omega) (by omega) (lessBy_neg (by omega))).mono ?_); rintro e w1 ⟨rfl, hb1⟩; replace F := F.le hb1)))
  go_ret
  first | exact ⟨rfl, F.below⟩ | exact ⟨rfl, below_drewN F.below _⟩
theorem walk (cs0 : List CD) (vs0 : List Value) (cs1 : List CD) (vs1 : List Value) (w : World) (k0 : HasShL shScore cs0) (z0 : RdL w w.heap.size cs0 vs0) (k1 : HasShL shScore cs1) (z1 : RdL w w.heap.size cs1 vs1) :
    Calls Try.prog 5 #[.agg vs0.toArray, .agg vs1.toArray] w fun e w' => e = .returned (.bool true) ∧ Below w.heap.size w w' := by
  by_cases g0 : szL cs0 ≤ 1048576
  · by_cases g1 : szL cs0 + szL cs1 ≤ 1048576
    · obtain ⟨ar0, hS, hI⟩ := both_SameScore cs0 cs1 k0 k1
      exact core cs0 vs0 cs1 vs1 ar0 w z0 k0 z1 k1 g1 (fun w B0 u0 B1 u1 h0 h1 => hS w B0 u0 B1 u1 h0 h1) (fun w B0 u0 B1 u1 h0 h1 => hI w B0 u0 B1 u1 h0 h1)
    · exact large1 cs0 vs0 cs1 vs1 w z0 k0 z1 k1 g0 g1
  · exact large0 cs0 vs0 cs1 vs1 w z0 k0 z1 k1 g0
end Go.Proofs.Ytnkjmgadnejdlac.fnExactSameScore
