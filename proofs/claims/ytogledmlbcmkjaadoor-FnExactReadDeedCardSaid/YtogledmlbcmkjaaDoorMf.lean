/- Texts of the walk, laid in one file. -/
import Derived.BigQuiet
import Derived.Test.YtogledmlbcmkjaaDoorMe
set_option linter.unusedVariables false
set_option linter.unusedSimpArgs false
/- The text of a deed, of both. -/
namespace Go.Fk
open Go Go.RowKit
/-- The word of a kind. -/
def wordD (k : Int) : ByteArray := ([⟨#[]⟩, ⟨#[103, 105, 118, 101]⟩, ⟨#[119, 111, 114, 107]⟩, ⟨#[100, 101, 108, 105, 118, 101, 114]⟩, ⟨#[99, 111, 112, 121]⟩, ⟨#[100, 114, 111, 112]⟩, ⟨#[115, 112, 111, 105, 108]⟩, ⟨#[115, 121, 110, 99]⟩, ⟨#[99, 114, 97, 115, 104]⟩, ⟨#[113, 117, 105, 116]⟩] : List ByteArray).getD k.toNat ⟨#[]⟩
/-- The text of a deed. -/
def deedT (k a b : Int) : ByteArray := if okD k a b then jnB spB (([wordD k, decT a.toNat, decT b.toNat] : List ByteArray).take (1 + (numD k).toNat)) else ⟨#[]⟩
theorem isD_nat {a : Int} {m : Bool} (h : isD a m = true) : ∃ n : Nat, a = n ∧ n ≤ 999 := by
  unfold isD at h
  simp only [Bool.or_eq_true, Bool.and_eq_true, decide_eq_true_eq] at h
  refine ⟨a.toNat, ?_, ?_⟩ <;> omega
theorem okD_parts {k a b : Int} (h : okD k a b = true) : (k = 1 ∨ k = 2 ∨ k = 3 ∨ k = 4 ∨ k = 5 ∨ k = 6 ∨ k = 7 ∨ k = 8 ∨ k = 9) ∧ (∃ n : Nat, a = n ∧ n ≤ 999) ∧ (∃ n : Nat, b = n ∧ n ≤ 999) := by
  unfold okD at h
  simp only [Bool.and_eq_true, decide_eq_true_eq] at h
  exact ⟨by omega, isD_nat h.1.2, isD_nat h.2⟩
end Go.Fk
namespace Go.Proofs.YtogledmlbcmkjaaDoor
open Go.RowKit Go.Fk
set_option maxRecDepth 100000 in
set_option maxHeartbeats 4000000 in
theorem infoNames : (Tryd.prog.info? 9).map (fun i => (i.zero, i.size, i.bytes)) = some (some (.string ⟨#[]⟩), 1, 16) := by kernel_rfl
set_option maxRecDepth 100000 in
set_option maxHeartbeats 4000000 in
theorem s_l10Names (w : World) : Calls Tryd.prog 18 #[] w fun e w' => ∃ z, e = .returned (.slice (some ⟨z, 0, none⟩) 10 10) ∧ Row w' z 9 #[.string ⟨#[]⟩, .string ⟨#[103, 105, 118, 101]⟩, .string ⟨#[119, 111, 114, 107]⟩, .string ⟨#[100, 101, 108, 105, 118, 101, 114]⟩, .string ⟨#[99, 111, 112, 121]⟩, .string ⟨#[100, 114, 111, 112]⟩, .string ⟨#[115, 112, 111, 105, 108]⟩, .string ⟨#[115, 121, 110, 99]⟩, .string ⟨#[99, 114, 97, 115, 104]⟩, .string ⟨#[113, 117, 105, 116]⟩] ∧ w.heap.size ≤ z ∧ le w w' := by
  have F := Frg.nil w
  go_enter Tryd.func18, Tryd.ntmps18
  go_wp2
  go_ret
  exact ⟨_, rfl, Row.new _ _ _, Nat.le_refl _, le_alloc _ _⟩
set_option maxRecDepth 100000 in
set_option maxHeartbeats 4000000 in
theorem s_DeedText (k a b : Int) (w : World) : Calls Tryd.prog 6 #[.agg #[.int .i64 k, .int .i64 a, .int .i64 b]] w (Out_t (deedT k a b) w) := by
  obtain ⟨v, hv⟩ : ∃ v, v = okD k a b := ⟨_, rfl⟩
  have HV := hid (fun (w' : World) => s_ValidDeed k a b w')
  rw [← hv] at HV
  cases v
  · have E := hid (show deedT k a b = ⟨#[]⟩ by unfold deedT; rw [← hv]; rfl)
    clear hv
    have F := (Frg.nil w).box 25 #[.int .i64 k, .int .i64 a, .int .i64 b]
    go_enter Tryd.func6, Tryd.ntmps6
    go_wp2_with (first | ((with_reducible refine listN F ?_); clear F; intro wN F) | ((with_reducible refine at_load rfl ?_); (with_reducible refine wpList_loadG F rfl rfl rfl m0 Tryd.underlying25 rfl uinfoDeedI rfl ?_)) | (go_at_call 17; ((with_reducible refine (HV.out _).mono ?_); rintro e w1 ⟨rfl, hl1⟩; replace F := F.le hl1; clear hl1)))
    go_ret
    exact ⟨by rw [E.out]; rfl, F.below⟩
  obtain ⟨hk, ⟨na, rfl, ha⟩, nb, rfl, hb⟩ := okD_parts hv.symm
  have HN := hid (fun (w : World) => s_l10Numbers k w)
  have HL := hid s_l10Names
  have HD := hid s_Decimal
  have za := decT_size na (by omega)
  have zb := decT_size nb (by omega)
  rcases hk with rfl | hk
  · have F := (Frg.nil w).box 25 #[.int .i64 1, .int .i64 (na : Nat), .int .i64 (nb : Nat)]
    have E := hid (show deedT 1 (na : Int) (nb : Int) = jnB spB [wordD 1, decT na] by unfold deedT; rw [← hv]; rfl)
    have HN1 := hid (show ∀ w, Calls Tryd.prog 19 #[.int .i64 1] w (fun e w' => e = .returned (.int .i64 1) ∧ w = w') from HN.out)
    have E2 := hid (show deedT 1 (na : Int) (nb : Int) = wordD 1 ++ ((⟨#[32]⟩ : ByteArray) ++ decT na) by rw [E.out]; simp only [jnB_cons, jnB_one, ba_assoc]; rfl)
    have zw : (wordD 1).size = 4 := rfl
    clear hv HN
    go_enter Tryd.func6, Tryd.ntmps6
    go_wp2_with (first | ((with_reducible refine listN F ?_); clear F; intro wN F) | ((with_reducible refine at_load rfl ?_); (with_reducible refine wpList_loadG F rfl rfl rfl m0 Tryd.underlying25 rfl uinfoDeedI rfl ?_)) | (go_at_call 17; ((with_reducible refine (HV.out _).mono ?_); rintro e w1 ⟨rfl, hl1⟩; replace F := F.le hl1; clear hl1)))
    first | (refine wpAt0 F ?_; clear F; intro wN F) | (refine wpAtN F ?_; clear F; intro wN F)
    have FD := F.drewN 1
    refine region_tailD (E := leX) (fun f args w v => ∃ z, v = .slice (some ⟨z, 0, none⟩) 10 10 ∧ Row w z 9 #[.string ⟨#[]⟩, .string ⟨#[103, 105, 118, 101]⟩, .string ⟨#[119, 111, 114, 107]⟩, .string ⟨#[100, 101, 108, 105, 118, 101, 114]⟩, .string ⟨#[99, 111, 112, 121]⟩, .string ⟨#[100, 114, 111, 112]⟩, .string ⟨#[115, 112, 111, 105, 108]⟩, .string ⟨#[115, 121, 110, 99]⟩, .string ⟨#[99, 114, 97, 115, 104]⟩, .string ⟨#[113, 117, 105, 116]⟩]) 3 (by kernel_rfl) (by kernel_rfl) ?_
    simp only [List.take_succ_cons, List.take_zero, List.drop_succ_cons, List.drop_zero]
    refine wpFreeD_callB rfl rfl Tryd.func18 (by kernel_rfl) (by kernel_rfl) (args := #[]) (by simp [Act.eval]) (fun v w1 w2 hw hv => by obtain ⟨z, h1, h2⟩ := hv; exact ⟨z, h1, h2.le hw⟩) (fun w1 hw1 _ => (HL.out w1).mono ?_) ?_
    · rintro e w2 ⟨z, rfl, hr, _, hl⟩
      exact ⟨_, rfl, hl, z, rfl, hr⟩
    rintro v ⟨_, _, _, z, rfl, _⟩
    simp only [Act.put, List.setIfInBounds_toArray, List.set_cons_succ, List.set_cons_zero]
    refine wpFreeD_one rfl (.pointer (some ⟨w.heap.size, 0, none⟩)) (fun w1 _ => by kernel_rfl) ?_
    simp only [Act.put, List.setIfInBounds_toArray, List.set_cons_succ, List.set_cons_zero]
    refine wpFreeD_load1 rfl rfl rfl (p := ⟨w.heap.size, 0, none⟩) (v := .int .i64 1) (fun w1 h1 => by rw [((FD.le h1).row m0).cell?]; rfl) ukindInt64 ?_
    simp only [Act.put, List.setIfInBounds_toArray, List.set_cons_succ, List.set_cons_zero]
    refine wpFreeD_nil (fun wR hwR hF => ?_)
    obtain ⟨z', hz', hrow⟩ := (hF 0).1.1.2 rfl
    clear hF
    simp only [Value.slice.injEq, Option.some.injEq, Addr.mk.injEq] at hz'
    obtain ⟨⟨rfl, _⟩, _⟩ := hz'
    replace F := FD.le hwR
    clear hwR FD
    have cz := hid (show wR.cell? ⟨z, 1, none⟩ = some (.string (wordD 1)) by rw [hrow.cell?]; rfl)
    have rz := hrow
    clear hrow
    go_wp2_with (first | ((with_reducible refine listN F ?_); clear F; intro wN F) | ((with_reducible refine at_load rfl ?_); first | (with_reducible refine wpList_load1G rfl (p := ⟨z, 1, none⟩) rfl (v := .string (wordD 1)) (by kernel_rfl) cz.out ukindString ?_) | (with_reducible refine wpList_load1C rfl (g := w.heap.size) (f := 0) rfl (v := .int .i64 1) (by kernel_rfl) (F.row m0) rfl ukindInt64 ?_) | (with_reducible refine wpList_load1C rfl (g := w.heap.size) (f := 1) rfl (v := .int .i64 (na : Nat)) (by kernel_rfl) (F.row m0) rfl ukindInt64 ?_) | (with_reducible refine wpList_load1C rfl (g := w.heap.size) (f := 2) rfl (v := .int .i64 (nb : Nat)) (by kernel_rfl) (F.row m0) rfl ukindInt64 ?_)) | (go_at_call 19; ((with_reducible refine (HN1.out _).mono ?_); rintro e w1 ⟨rfl, rfl⟩; skip)) | (go_at_call 20; ((with_reducible refine (HD.out _ (by omega) _).mono ?_); rintro e w1 ⟨rfl, hl1⟩; replace F := F.le hl1; clear hl1)))
    go_ret
    exact ⟨by rw [E2.out]; rfl, F.below⟩
  rcases hk with rfl | hk
  · have F := (Frg.nil w).box 25 #[.int .i64 2, .int .i64 (na : Nat), .int .i64 (nb : Nat)]
    have E := hid (show deedT 2 (na : Int) (nb : Int) = jnB spB [wordD 2, decT na] by unfold deedT; rw [← hv]; rfl)
    have HN1 := hid (show ∀ w, Calls Tryd.prog 19 #[.int .i64 2] w (fun e w' => e = .returned (.int .i64 1) ∧ w = w') from HN.out)
    have E2 := hid (show deedT 2 (na : Int) (nb : Int) = wordD 2 ++ ((⟨#[32]⟩ : ByteArray) ++ decT na) by rw [E.out]; simp only [jnB_cons, jnB_one, ba_assoc]; rfl)
    have zw : (wordD 2).size = 4 := rfl
    clear hv HN
    go_enter Tryd.func6, Tryd.ntmps6
    go_wp2_with (first | ((with_reducible refine listN F ?_); clear F; intro wN F) | ((with_reducible refine at_load rfl ?_); (with_reducible refine wpList_loadG F rfl rfl rfl m0 Tryd.underlying25 rfl uinfoDeedI rfl ?_)) | (go_at_call 17; ((with_reducible refine (HV.out _).mono ?_); rintro e w1 ⟨rfl, hl1⟩; replace F := F.le hl1; clear hl1)))
    first | (refine wpAt0 F ?_; clear F; intro wN F) | (refine wpAtN F ?_; clear F; intro wN F)
    have FD := F.drewN 1
    refine region_tailD (E := leX) (fun f args w v => ∃ z, v = .slice (some ⟨z, 0, none⟩) 10 10 ∧ Row w z 9 #[.string ⟨#[]⟩, .string ⟨#[103, 105, 118, 101]⟩, .string ⟨#[119, 111, 114, 107]⟩, .string ⟨#[100, 101, 108, 105, 118, 101, 114]⟩, .string ⟨#[99, 111, 112, 121]⟩, .string ⟨#[100, 114, 111, 112]⟩, .string ⟨#[115, 112, 111, 105, 108]⟩, .string ⟨#[115, 121, 110, 99]⟩, .string ⟨#[99, 114, 97, 115, 104]⟩, .string ⟨#[113, 117, 105, 116]⟩]) 3 (by kernel_rfl) (by kernel_rfl) ?_
    simp only [List.take_succ_cons, List.take_zero, List.drop_succ_cons, List.drop_zero]
    refine wpFreeD_callB rfl rfl Tryd.func18 (by kernel_rfl) (by kernel_rfl) (args := #[]) (by simp [Act.eval]) (fun v w1 w2 hw hv => by obtain ⟨z, h1, h2⟩ := hv; exact ⟨z, h1, h2.le hw⟩) (fun w1 hw1 _ => (HL.out w1).mono ?_) ?_
    · rintro e w2 ⟨z, rfl, hr, _, hl⟩
      exact ⟨_, rfl, hl, z, rfl, hr⟩
    rintro v ⟨_, _, _, z, rfl, _⟩
    simp only [Act.put, List.setIfInBounds_toArray, List.set_cons_succ, List.set_cons_zero]
    refine wpFreeD_one rfl (.pointer (some ⟨w.heap.size, 0, none⟩)) (fun w1 _ => by kernel_rfl) ?_
    simp only [Act.put, List.setIfInBounds_toArray, List.set_cons_succ, List.set_cons_zero]
    refine wpFreeD_load1 rfl rfl rfl (p := ⟨w.heap.size, 0, none⟩) (v := .int .i64 2) (fun w1 h1 => by rw [((FD.le h1).row m0).cell?]; rfl) ukindInt64 ?_
    simp only [Act.put, List.setIfInBounds_toArray, List.set_cons_succ, List.set_cons_zero]
    refine wpFreeD_nil (fun wR hwR hF => ?_)
    obtain ⟨z', hz', hrow⟩ := (hF 0).1.1.2 rfl
    clear hF
    simp only [Value.slice.injEq, Option.some.injEq, Addr.mk.injEq] at hz'
    obtain ⟨⟨rfl, _⟩, _⟩ := hz'
    replace F := FD.le hwR
    clear hwR FD
    have cz := hid (show wR.cell? ⟨z, 2, none⟩ = some (.string (wordD 2)) by rw [hrow.cell?]; rfl)
    have rz := hrow
    clear hrow
    go_wp2_with (first | ((with_reducible refine listN F ?_); clear F; intro wN F) | ((with_reducible refine at_load rfl ?_); first | (with_reducible refine wpList_load1G rfl (p := ⟨z, 2, none⟩) rfl (v := .string (wordD 2)) (by kernel_rfl) cz.out ukindString ?_) | (with_reducible refine wpList_load1C rfl (g := w.heap.size) (f := 0) rfl (v := .int .i64 2) (by kernel_rfl) (F.row m0) rfl ukindInt64 ?_) | (with_reducible refine wpList_load1C rfl (g := w.heap.size) (f := 1) rfl (v := .int .i64 (na : Nat)) (by kernel_rfl) (F.row m0) rfl ukindInt64 ?_) | (with_reducible refine wpList_load1C rfl (g := w.heap.size) (f := 2) rfl (v := .int .i64 (nb : Nat)) (by kernel_rfl) (F.row m0) rfl ukindInt64 ?_)) | (go_at_call 19; ((with_reducible refine (HN1.out _).mono ?_); rintro e w1 ⟨rfl, rfl⟩; skip)) | (go_at_call 20; ((with_reducible refine (HD.out _ (by omega) _).mono ?_); rintro e w1 ⟨rfl, hl1⟩; replace F := F.le hl1; clear hl1)))
    go_ret
    exact ⟨by rw [E2.out]; rfl, F.below⟩
  rcases hk with rfl | hk
  · have F := (Frg.nil w).box 25 #[.int .i64 3, .int .i64 (na : Nat), .int .i64 (nb : Nat)]
    have E := hid (show deedT 3 (na : Int) (nb : Int) = jnB spB [wordD 3, decT na] by unfold deedT; rw [← hv]; rfl)
    have HN1 := hid (show ∀ w, Calls Tryd.prog 19 #[.int .i64 3] w (fun e w' => e = .returned (.int .i64 1) ∧ w = w') from HN.out)
    have E2 := hid (show deedT 3 (na : Int) (nb : Int) = wordD 3 ++ ((⟨#[32]⟩ : ByteArray) ++ decT na) by rw [E.out]; simp only [jnB_cons, jnB_one, ba_assoc]; rfl)
    have zw : (wordD 3).size = 7 := rfl
    clear hv HN
    go_enter Tryd.func6, Tryd.ntmps6
    go_wp2_with (first | ((with_reducible refine listN F ?_); clear F; intro wN F) | ((with_reducible refine at_load rfl ?_); (with_reducible refine wpList_loadG F rfl rfl rfl m0 Tryd.underlying25 rfl uinfoDeedI rfl ?_)) | (go_at_call 17; ((with_reducible refine (HV.out _).mono ?_); rintro e w1 ⟨rfl, hl1⟩; replace F := F.le hl1; clear hl1)))
    first | (refine wpAt0 F ?_; clear F; intro wN F) | (refine wpAtN F ?_; clear F; intro wN F)
    have FD := F.drewN 1
    refine region_tailD (E := leX) (fun f args w v => ∃ z, v = .slice (some ⟨z, 0, none⟩) 10 10 ∧ Row w z 9 #[.string ⟨#[]⟩, .string ⟨#[103, 105, 118, 101]⟩, .string ⟨#[119, 111, 114, 107]⟩, .string ⟨#[100, 101, 108, 105, 118, 101, 114]⟩, .string ⟨#[99, 111, 112, 121]⟩, .string ⟨#[100, 114, 111, 112]⟩, .string ⟨#[115, 112, 111, 105, 108]⟩, .string ⟨#[115, 121, 110, 99]⟩, .string ⟨#[99, 114, 97, 115, 104]⟩, .string ⟨#[113, 117, 105, 116]⟩]) 3 (by kernel_rfl) (by kernel_rfl) ?_
    simp only [List.take_succ_cons, List.take_zero, List.drop_succ_cons, List.drop_zero]
    refine wpFreeD_callB rfl rfl Tryd.func18 (by kernel_rfl) (by kernel_rfl) (args := #[]) (by simp [Act.eval]) (fun v w1 w2 hw hv => by obtain ⟨z, h1, h2⟩ := hv; exact ⟨z, h1, h2.le hw⟩) (fun w1 hw1 _ => (HL.out w1).mono ?_) ?_
    · rintro e w2 ⟨z, rfl, hr, _, hl⟩
      exact ⟨_, rfl, hl, z, rfl, hr⟩
    rintro v ⟨_, _, _, z, rfl, _⟩
    simp only [Act.put, List.setIfInBounds_toArray, List.set_cons_succ, List.set_cons_zero]
    refine wpFreeD_one rfl (.pointer (some ⟨w.heap.size, 0, none⟩)) (fun w1 _ => by kernel_rfl) ?_
    simp only [Act.put, List.setIfInBounds_toArray, List.set_cons_succ, List.set_cons_zero]
    refine wpFreeD_load1 rfl rfl rfl (p := ⟨w.heap.size, 0, none⟩) (v := .int .i64 3) (fun w1 h1 => by rw [((FD.le h1).row m0).cell?]; rfl) ukindInt64 ?_
    simp only [Act.put, List.setIfInBounds_toArray, List.set_cons_succ, List.set_cons_zero]
    refine wpFreeD_nil (fun wR hwR hF => ?_)
    obtain ⟨z', hz', hrow⟩ := (hF 0).1.1.2 rfl
    clear hF
    simp only [Value.slice.injEq, Option.some.injEq, Addr.mk.injEq] at hz'
    obtain ⟨⟨rfl, _⟩, _⟩ := hz'
    replace F := FD.le hwR
    clear hwR FD
    have cz := hid (show wR.cell? ⟨z, 3, none⟩ = some (.string (wordD 3)) by rw [hrow.cell?]; rfl)
    have rz := hrow
    clear hrow
    go_wp2_with (first | ((with_reducible refine listN F ?_); clear F; intro wN F) | ((with_reducible refine at_load rfl ?_); first | (with_reducible refine wpList_load1G rfl (p := ⟨z, 3, none⟩) rfl (v := .string (wordD 3)) (by kernel_rfl) cz.out ukindString ?_) | (with_reducible refine wpList_load1C rfl (g := w.heap.size) (f := 0) rfl (v := .int .i64 3) (by kernel_rfl) (F.row m0) rfl ukindInt64 ?_) | (with_reducible refine wpList_load1C rfl (g := w.heap.size) (f := 1) rfl (v := .int .i64 (na : Nat)) (by kernel_rfl) (F.row m0) rfl ukindInt64 ?_) | (with_reducible refine wpList_load1C rfl (g := w.heap.size) (f := 2) rfl (v := .int .i64 (nb : Nat)) (by kernel_rfl) (F.row m0) rfl ukindInt64 ?_)) | (go_at_call 19; ((with_reducible refine (HN1.out _).mono ?_); rintro e w1 ⟨rfl, rfl⟩; skip)) | (go_at_call 20; ((with_reducible refine (HD.out _ (by omega) _).mono ?_); rintro e w1 ⟨rfl, hl1⟩; replace F := F.le hl1; clear hl1)))
    go_ret
    exact ⟨by rw [E2.out]; rfl, F.below⟩
  rcases hk with rfl | hk
  · have F := (Frg.nil w).box 25 #[.int .i64 4, .int .i64 (na : Nat), .int .i64 (nb : Nat)]
    have E := hid (show deedT 4 (na : Int) (nb : Int) = jnB spB [wordD 4, decT na] by unfold deedT; rw [← hv]; rfl)
    have HN1 := hid (show ∀ w, Calls Tryd.prog 19 #[.int .i64 4] w (fun e w' => e = .returned (.int .i64 1) ∧ w = w') from HN.out)
    have E2 := hid (show deedT 4 (na : Int) (nb : Int) = wordD 4 ++ ((⟨#[32]⟩ : ByteArray) ++ decT na) by rw [E.out]; simp only [jnB_cons, jnB_one, ba_assoc]; rfl)
    have zw : (wordD 4).size = 4 := rfl
    clear hv HN
    go_enter Tryd.func6, Tryd.ntmps6
    go_wp2_with (first | ((with_reducible refine listN F ?_); clear F; intro wN F) | ((with_reducible refine at_load rfl ?_); (with_reducible refine wpList_loadG F rfl rfl rfl m0 Tryd.underlying25 rfl uinfoDeedI rfl ?_)) | (go_at_call 17; ((with_reducible refine (HV.out _).mono ?_); rintro e w1 ⟨rfl, hl1⟩; replace F := F.le hl1; clear hl1)))
    first | (refine wpAt0 F ?_; clear F; intro wN F) | (refine wpAtN F ?_; clear F; intro wN F)
    have FD := F.drewN 1
    refine region_tailD (E := leX) (fun f args w v => ∃ z, v = .slice (some ⟨z, 0, none⟩) 10 10 ∧ Row w z 9 #[.string ⟨#[]⟩, .string ⟨#[103, 105, 118, 101]⟩, .string ⟨#[119, 111, 114, 107]⟩, .string ⟨#[100, 101, 108, 105, 118, 101, 114]⟩, .string ⟨#[99, 111, 112, 121]⟩, .string ⟨#[100, 114, 111, 112]⟩, .string ⟨#[115, 112, 111, 105, 108]⟩, .string ⟨#[115, 121, 110, 99]⟩, .string ⟨#[99, 114, 97, 115, 104]⟩, .string ⟨#[113, 117, 105, 116]⟩]) 3 (by kernel_rfl) (by kernel_rfl) ?_
    simp only [List.take_succ_cons, List.take_zero, List.drop_succ_cons, List.drop_zero]
    refine wpFreeD_callB rfl rfl Tryd.func18 (by kernel_rfl) (by kernel_rfl) (args := #[]) (by simp [Act.eval]) (fun v w1 w2 hw hv => by obtain ⟨z, h1, h2⟩ := hv; exact ⟨z, h1, h2.le hw⟩) (fun w1 hw1 _ => (HL.out w1).mono ?_) ?_
    · rintro e w2 ⟨z, rfl, hr, _, hl⟩
      exact ⟨_, rfl, hl, z, rfl, hr⟩
    rintro v ⟨_, _, _, z, rfl, _⟩
    simp only [Act.put, List.setIfInBounds_toArray, List.set_cons_succ, List.set_cons_zero]
    refine wpFreeD_one rfl (.pointer (some ⟨w.heap.size, 0, none⟩)) (fun w1 _ => by kernel_rfl) ?_
    simp only [Act.put, List.setIfInBounds_toArray, List.set_cons_succ, List.set_cons_zero]
    refine wpFreeD_load1 rfl rfl rfl (p := ⟨w.heap.size, 0, none⟩) (v := .int .i64 4) (fun w1 h1 => by rw [((FD.le h1).row m0).cell?]; rfl) ukindInt64 ?_
    simp only [Act.put, List.setIfInBounds_toArray, List.set_cons_succ, List.set_cons_zero]
    refine wpFreeD_nil (fun wR hwR hF => ?_)
    obtain ⟨z', hz', hrow⟩ := (hF 0).1.1.2 rfl
    clear hF
    simp only [Value.slice.injEq, Option.some.injEq, Addr.mk.injEq] at hz'
    obtain ⟨⟨rfl, _⟩, _⟩ := hz'
    replace F := FD.le hwR
    clear hwR FD
    have cz := hid (show wR.cell? ⟨z, 4, none⟩ = some (.string (wordD 4)) by rw [hrow.cell?]; rfl)
    have rz := hrow
    clear hrow
    go_wp2_with (first | ((with_reducible refine listN F ?_); clear F; intro wN F) | ((with_reducible refine at_load rfl ?_); first | (with_reducible refine wpList_load1G rfl (p := ⟨z, 4, none⟩) rfl (v := .string (wordD 4)) (by kernel_rfl) cz.out ukindString ?_) | (with_reducible refine wpList_load1C rfl (g := w.heap.size) (f := 0) rfl (v := .int .i64 4) (by kernel_rfl) (F.row m0) rfl ukindInt64 ?_) | (with_reducible refine wpList_load1C rfl (g := w.heap.size) (f := 1) rfl (v := .int .i64 (na : Nat)) (by kernel_rfl) (F.row m0) rfl ukindInt64 ?_) | (with_reducible refine wpList_load1C rfl (g := w.heap.size) (f := 2) rfl (v := .int .i64 (nb : Nat)) (by kernel_rfl) (F.row m0) rfl ukindInt64 ?_)) | (go_at_call 19; ((with_reducible refine (HN1.out _).mono ?_); rintro e w1 ⟨rfl, rfl⟩; skip)) | (go_at_call 20; ((with_reducible refine (HD.out _ (by omega) _).mono ?_); rintro e w1 ⟨rfl, hl1⟩; replace F := F.le hl1; clear hl1)))
    go_ret
    exact ⟨by rw [E2.out]; rfl, F.below⟩
  rcases hk with rfl | hk
  · have F := (Frg.nil w).box 25 #[.int .i64 5, .int .i64 (na : Nat), .int .i64 (nb : Nat)]
    have E := hid (show deedT 5 (na : Int) (nb : Int) = jnB spB [wordD 5, decT na] by unfold deedT; rw [← hv]; rfl)
    have HN1 := hid (show ∀ w, Calls Tryd.prog 19 #[.int .i64 5] w (fun e w' => e = .returned (.int .i64 1) ∧ w = w') from HN.out)
    have E2 := hid (show deedT 5 (na : Int) (nb : Int) = wordD 5 ++ ((⟨#[32]⟩ : ByteArray) ++ decT na) by rw [E.out]; simp only [jnB_cons, jnB_one, ba_assoc]; rfl)
    have zw : (wordD 5).size = 4 := rfl
    clear hv HN
    go_enter Tryd.func6, Tryd.ntmps6
    go_wp2_with (first | ((with_reducible refine listN F ?_); clear F; intro wN F) | ((with_reducible refine at_load rfl ?_); (with_reducible refine wpList_loadG F rfl rfl rfl m0 Tryd.underlying25 rfl uinfoDeedI rfl ?_)) | (go_at_call 17; ((with_reducible refine (HV.out _).mono ?_); rintro e w1 ⟨rfl, hl1⟩; replace F := F.le hl1; clear hl1)))
    first | (refine wpAt0 F ?_; clear F; intro wN F) | (refine wpAtN F ?_; clear F; intro wN F)
    have FD := F.drewN 1
    refine region_tailD (E := leX) (fun f args w v => ∃ z, v = .slice (some ⟨z, 0, none⟩) 10 10 ∧ Row w z 9 #[.string ⟨#[]⟩, .string ⟨#[103, 105, 118, 101]⟩, .string ⟨#[119, 111, 114, 107]⟩, .string ⟨#[100, 101, 108, 105, 118, 101, 114]⟩, .string ⟨#[99, 111, 112, 121]⟩, .string ⟨#[100, 114, 111, 112]⟩, .string ⟨#[115, 112, 111, 105, 108]⟩, .string ⟨#[115, 121, 110, 99]⟩, .string ⟨#[99, 114, 97, 115, 104]⟩, .string ⟨#[113, 117, 105, 116]⟩]) 3 (by kernel_rfl) (by kernel_rfl) ?_
    simp only [List.take_succ_cons, List.take_zero, List.drop_succ_cons, List.drop_zero]
    refine wpFreeD_callB rfl rfl Tryd.func18 (by kernel_rfl) (by kernel_rfl) (args := #[]) (by simp [Act.eval]) (fun v w1 w2 hw hv => by obtain ⟨z, h1, h2⟩ := hv; exact ⟨z, h1, h2.le hw⟩) (fun w1 hw1 _ => (HL.out w1).mono ?_) ?_
    · rintro e w2 ⟨z, rfl, hr, _, hl⟩
      exact ⟨_, rfl, hl, z, rfl, hr⟩
    rintro v ⟨_, _, _, z, rfl, _⟩
    simp only [Act.put, List.setIfInBounds_toArray, List.set_cons_succ, List.set_cons_zero]
    refine wpFreeD_one rfl (.pointer (some ⟨w.heap.size, 0, none⟩)) (fun w1 _ => by kernel_rfl) ?_
    simp only [Act.put, List.setIfInBounds_toArray, List.set_cons_succ, List.set_cons_zero]
    refine wpFreeD_load1 rfl rfl rfl (p := ⟨w.heap.size, 0, none⟩) (v := .int .i64 5) (fun w1 h1 => by rw [((FD.le h1).row m0).cell?]; rfl) ukindInt64 ?_
    simp only [Act.put, List.setIfInBounds_toArray, List.set_cons_succ, List.set_cons_zero]
    refine wpFreeD_nil (fun wR hwR hF => ?_)
    obtain ⟨z', hz', hrow⟩ := (hF 0).1.1.2 rfl
    clear hF
    simp only [Value.slice.injEq, Option.some.injEq, Addr.mk.injEq] at hz'
    obtain ⟨⟨rfl, _⟩, _⟩ := hz'
    replace F := FD.le hwR
    clear hwR FD
    have cz := hid (show wR.cell? ⟨z, 5, none⟩ = some (.string (wordD 5)) by rw [hrow.cell?]; rfl)
    have rz := hrow
    clear hrow
    go_wp2_with (first | ((with_reducible refine listN F ?_); clear F; intro wN F) | ((with_reducible refine at_load rfl ?_); first | (with_reducible refine wpList_load1G rfl (p := ⟨z, 5, none⟩) rfl (v := .string (wordD 5)) (by kernel_rfl) cz.out ukindString ?_) | (with_reducible refine wpList_load1C rfl (g := w.heap.size) (f := 0) rfl (v := .int .i64 5) (by kernel_rfl) (F.row m0) rfl ukindInt64 ?_) | (with_reducible refine wpList_load1C rfl (g := w.heap.size) (f := 1) rfl (v := .int .i64 (na : Nat)) (by kernel_rfl) (F.row m0) rfl ukindInt64 ?_) | (with_reducible refine wpList_load1C rfl (g := w.heap.size) (f := 2) rfl (v := .int .i64 (nb : Nat)) (by kernel_rfl) (F.row m0) rfl ukindInt64 ?_)) | (go_at_call 19; ((with_reducible refine (HN1.out _).mono ?_); rintro e w1 ⟨rfl, rfl⟩; skip)) | (go_at_call 20; ((with_reducible refine (HD.out _ (by omega) _).mono ?_); rintro e w1 ⟨rfl, hl1⟩; replace F := F.le hl1; clear hl1)))
    go_ret
    exact ⟨by rw [E2.out]; rfl, F.below⟩
  rcases hk with rfl | hk
  · have F := (Frg.nil w).box 25 #[.int .i64 6, .int .i64 (na : Nat), .int .i64 (nb : Nat)]
    have E := hid (show deedT 6 (na : Int) (nb : Int) = jnB spB [wordD 6, decT na, decT nb] by unfold deedT; rw [← hv]; rfl)
    have HN1 := hid (show ∀ w, Calls Tryd.prog 19 #[.int .i64 6] w (fun e w' => e = .returned (.int .i64 2) ∧ w = w') from HN.out)
    have E2 := hid (show deedT 6 (na : Int) (nb : Int) = wordD 6 ++ ((⟨#[32]⟩ : ByteArray) ++ decT na) ++ ((⟨#[32]⟩ : ByteArray) ++ decT nb) by rw [E.out]; simp only [jnB_cons, jnB_one, ba_assoc]; rfl)
    have zw : (wordD 6).size = 5 := rfl
    clear hv HN
    go_enter Tryd.func6, Tryd.ntmps6
    go_wp2_with (first | ((with_reducible refine listN F ?_); clear F; intro wN F) | ((with_reducible refine at_load rfl ?_); (with_reducible refine wpList_loadG F rfl rfl rfl m0 Tryd.underlying25 rfl uinfoDeedI rfl ?_)) | (go_at_call 17; ((with_reducible refine (HV.out _).mono ?_); rintro e w1 ⟨rfl, hl1⟩; replace F := F.le hl1; clear hl1)))
    first | (refine wpAt0 F ?_; clear F; intro wN F) | (refine wpAtN F ?_; clear F; intro wN F)
    have FD := F.drewN 1
    refine region_tailD (E := leX) (fun f args w v => ∃ z, v = .slice (some ⟨z, 0, none⟩) 10 10 ∧ Row w z 9 #[.string ⟨#[]⟩, .string ⟨#[103, 105, 118, 101]⟩, .string ⟨#[119, 111, 114, 107]⟩, .string ⟨#[100, 101, 108, 105, 118, 101, 114]⟩, .string ⟨#[99, 111, 112, 121]⟩, .string ⟨#[100, 114, 111, 112]⟩, .string ⟨#[115, 112, 111, 105, 108]⟩, .string ⟨#[115, 121, 110, 99]⟩, .string ⟨#[99, 114, 97, 115, 104]⟩, .string ⟨#[113, 117, 105, 116]⟩]) 3 (by kernel_rfl) (by kernel_rfl) ?_
    simp only [List.take_succ_cons, List.take_zero, List.drop_succ_cons, List.drop_zero]
    refine wpFreeD_callB rfl rfl Tryd.func18 (by kernel_rfl) (by kernel_rfl) (args := #[]) (by simp [Act.eval]) (fun v w1 w2 hw hv => by obtain ⟨z, h1, h2⟩ := hv; exact ⟨z, h1, h2.le hw⟩) (fun w1 hw1 _ => (HL.out w1).mono ?_) ?_
    · rintro e w2 ⟨z, rfl, hr, _, hl⟩
      exact ⟨_, rfl, hl, z, rfl, hr⟩
    rintro v ⟨_, _, _, z, rfl, _⟩
    simp only [Act.put, List.setIfInBounds_toArray, List.set_cons_succ, List.set_cons_zero]
    refine wpFreeD_one rfl (.pointer (some ⟨w.heap.size, 0, none⟩)) (fun w1 _ => by kernel_rfl) ?_
    simp only [Act.put, List.setIfInBounds_toArray, List.set_cons_succ, List.set_cons_zero]
    refine wpFreeD_load1 rfl rfl rfl (p := ⟨w.heap.size, 0, none⟩) (v := .int .i64 6) (fun w1 h1 => by rw [((FD.le h1).row m0).cell?]; rfl) ukindInt64 ?_
    simp only [Act.put, List.setIfInBounds_toArray, List.set_cons_succ, List.set_cons_zero]
    refine wpFreeD_nil (fun wR hwR hF => ?_)
    obtain ⟨z', hz', hrow⟩ := (hF 0).1.1.2 rfl
    clear hF
    simp only [Value.slice.injEq, Option.some.injEq, Addr.mk.injEq] at hz'
    obtain ⟨⟨rfl, _⟩, _⟩ := hz'
    replace F := FD.le hwR
    clear hwR FD
    have cz := hid (show wR.cell? ⟨z, 6, none⟩ = some (.string (wordD 6)) by rw [hrow.cell?]; rfl)
    have rz := hrow
    clear hrow
    go_wp2_with (first | ((with_reducible refine listN F ?_); clear F; intro wN F) | ((with_reducible refine at_load rfl ?_); first | (with_reducible refine wpList_load1G rfl (p := ⟨z, 6, none⟩) rfl (v := .string (wordD 6)) (by kernel_rfl) cz.out ukindString ?_) | (with_reducible refine wpList_load1C rfl (g := w.heap.size) (f := 0) rfl (v := .int .i64 6) (by kernel_rfl) (F.row m0) rfl ukindInt64 ?_) | (with_reducible refine wpList_load1C rfl (g := w.heap.size) (f := 1) rfl (v := .int .i64 (na : Nat)) (by kernel_rfl) (F.row m0) rfl ukindInt64 ?_) | (with_reducible refine wpList_load1C rfl (g := w.heap.size) (f := 2) rfl (v := .int .i64 (nb : Nat)) (by kernel_rfl) (F.row m0) rfl ukindInt64 ?_)) | (go_at_call 19; ((with_reducible refine (HN1.out _).mono ?_); rintro e w1 ⟨rfl, rfl⟩; skip)) | (go_at_call 20; ((with_reducible refine (HD.out _ (by omega) _).mono ?_); rintro e w1 ⟨rfl, hl1⟩; replace F := F.le hl1; clear hl1)))
    go_ret
    exact ⟨by rw [E2.out]; rfl, F.below⟩
  rcases hk with rfl | hk
  · have F := (Frg.nil w).box 25 #[.int .i64 7, .int .i64 (na : Nat), .int .i64 (nb : Nat)]
    have E := hid (show deedT 7 (na : Int) (nb : Int) = jnB spB [wordD 7] by unfold deedT; rw [← hv]; rfl)
    have HN1 := hid (show ∀ w, Calls Tryd.prog 19 #[.int .i64 7] w (fun e w' => e = .returned (.int .i64 0) ∧ w = w') from HN.out)
    have E2 := hid (show deedT 7 (na : Int) (nb : Int) = wordD 7 by rw [E.out]; exact jnB_one _ _)
    have zw : (wordD 7).size = 4 := rfl
    clear hv HN
    go_enter Tryd.func6, Tryd.ntmps6
    go_wp2_with (first | ((with_reducible refine listN F ?_); clear F; intro wN F) | ((with_reducible refine at_load rfl ?_); (with_reducible refine wpList_loadG F rfl rfl rfl m0 Tryd.underlying25 rfl uinfoDeedI rfl ?_)) | (go_at_call 17; ((with_reducible refine (HV.out _).mono ?_); rintro e w1 ⟨rfl, hl1⟩; replace F := F.le hl1; clear hl1)))
    first | (refine wpAt0 F ?_; clear F; intro wN F) | (refine wpAtN F ?_; clear F; intro wN F)
    have FD := F.drewN 1
    refine region_tailD (E := leX) (fun f args w v => ∃ z, v = .slice (some ⟨z, 0, none⟩) 10 10 ∧ Row w z 9 #[.string ⟨#[]⟩, .string ⟨#[103, 105, 118, 101]⟩, .string ⟨#[119, 111, 114, 107]⟩, .string ⟨#[100, 101, 108, 105, 118, 101, 114]⟩, .string ⟨#[99, 111, 112, 121]⟩, .string ⟨#[100, 114, 111, 112]⟩, .string ⟨#[115, 112, 111, 105, 108]⟩, .string ⟨#[115, 121, 110, 99]⟩, .string ⟨#[99, 114, 97, 115, 104]⟩, .string ⟨#[113, 117, 105, 116]⟩]) 3 (by kernel_rfl) (by kernel_rfl) ?_
    simp only [List.take_succ_cons, List.take_zero, List.drop_succ_cons, List.drop_zero]
    refine wpFreeD_callB rfl rfl Tryd.func18 (by kernel_rfl) (by kernel_rfl) (args := #[]) (by simp [Act.eval]) (fun v w1 w2 hw hv => by obtain ⟨z, h1, h2⟩ := hv; exact ⟨z, h1, h2.le hw⟩) (fun w1 hw1 _ => (HL.out w1).mono ?_) ?_
    · rintro e w2 ⟨z, rfl, hr, _, hl⟩
      exact ⟨_, rfl, hl, z, rfl, hr⟩
    rintro v ⟨_, _, _, z, rfl, _⟩
    simp only [Act.put, List.setIfInBounds_toArray, List.set_cons_succ, List.set_cons_zero]
    refine wpFreeD_one rfl (.pointer (some ⟨w.heap.size, 0, none⟩)) (fun w1 _ => by kernel_rfl) ?_
    simp only [Act.put, List.setIfInBounds_toArray, List.set_cons_succ, List.set_cons_zero]
    refine wpFreeD_load1 rfl rfl rfl (p := ⟨w.heap.size, 0, none⟩) (v := .int .i64 7) (fun w1 h1 => by rw [((FD.le h1).row m0).cell?]; rfl) ukindInt64 ?_
    simp only [Act.put, List.setIfInBounds_toArray, List.set_cons_succ, List.set_cons_zero]
    refine wpFreeD_nil (fun wR hwR hF => ?_)
    obtain ⟨z', hz', hrow⟩ := (hF 0).1.1.2 rfl
    clear hF
    simp only [Value.slice.injEq, Option.some.injEq, Addr.mk.injEq] at hz'
    obtain ⟨⟨rfl, _⟩, _⟩ := hz'
    replace F := FD.le hwR
    clear hwR FD
    have cz := hid (show wR.cell? ⟨z, 7, none⟩ = some (.string (wordD 7)) by rw [hrow.cell?]; rfl)
    have rz := hrow
    clear hrow
    go_wp2_with (first | ((with_reducible refine listN F ?_); clear F; intro wN F) | ((with_reducible refine at_load rfl ?_); first | (with_reducible refine wpList_load1G rfl (p := ⟨z, 7, none⟩) rfl (v := .string (wordD 7)) (by kernel_rfl) cz.out ukindString ?_) | (with_reducible refine wpList_load1C rfl (g := w.heap.size) (f := 0) rfl (v := .int .i64 7) (by kernel_rfl) (F.row m0) rfl ukindInt64 ?_) | (with_reducible refine wpList_load1C rfl (g := w.heap.size) (f := 1) rfl (v := .int .i64 (na : Nat)) (by kernel_rfl) (F.row m0) rfl ukindInt64 ?_) | (with_reducible refine wpList_load1C rfl (g := w.heap.size) (f := 2) rfl (v := .int .i64 (nb : Nat)) (by kernel_rfl) (F.row m0) rfl ukindInt64 ?_)) | (go_at_call 19; ((with_reducible refine (HN1.out _).mono ?_); rintro e w1 ⟨rfl, rfl⟩; skip)) | (go_at_call 20; ((with_reducible refine (HD.out _ (by omega) _).mono ?_); rintro e w1 ⟨rfl, hl1⟩; replace F := F.le hl1; clear hl1)))
    go_ret
    exact ⟨by rw [E2.out]; rfl, F.below⟩
  rcases hk with rfl | hk
  · have F := (Frg.nil w).box 25 #[.int .i64 8, .int .i64 (na : Nat), .int .i64 (nb : Nat)]
    have E := hid (show deedT 8 (na : Int) (nb : Int) = jnB spB [wordD 8] by unfold deedT; rw [← hv]; rfl)
    have HN1 := hid (show ∀ w, Calls Tryd.prog 19 #[.int .i64 8] w (fun e w' => e = .returned (.int .i64 0) ∧ w = w') from HN.out)
    have E2 := hid (show deedT 8 (na : Int) (nb : Int) = wordD 8 by rw [E.out]; exact jnB_one _ _)
    have zw : (wordD 8).size = 5 := rfl
    clear hv HN
    go_enter Tryd.func6, Tryd.ntmps6
    go_wp2_with (first | ((with_reducible refine listN F ?_); clear F; intro wN F) | ((with_reducible refine at_load rfl ?_); (with_reducible refine wpList_loadG F rfl rfl rfl m0 Tryd.underlying25 rfl uinfoDeedI rfl ?_)) | (go_at_call 17; ((with_reducible refine (HV.out _).mono ?_); rintro e w1 ⟨rfl, hl1⟩; replace F := F.le hl1; clear hl1)))
    first | (refine wpAt0 F ?_; clear F; intro wN F) | (refine wpAtN F ?_; clear F; intro wN F)
    have FD := F.drewN 1
    refine region_tailD (E := leX) (fun f args w v => ∃ z, v = .slice (some ⟨z, 0, none⟩) 10 10 ∧ Row w z 9 #[.string ⟨#[]⟩, .string ⟨#[103, 105, 118, 101]⟩, .string ⟨#[119, 111, 114, 107]⟩, .string ⟨#[100, 101, 108, 105, 118, 101, 114]⟩, .string ⟨#[99, 111, 112, 121]⟩, .string ⟨#[100, 114, 111, 112]⟩, .string ⟨#[115, 112, 111, 105, 108]⟩, .string ⟨#[115, 121, 110, 99]⟩, .string ⟨#[99, 114, 97, 115, 104]⟩, .string ⟨#[113, 117, 105, 116]⟩]) 3 (by kernel_rfl) (by kernel_rfl) ?_
    simp only [List.take_succ_cons, List.take_zero, List.drop_succ_cons, List.drop_zero]
    refine wpFreeD_callB rfl rfl Tryd.func18 (by kernel_rfl) (by kernel_rfl) (args := #[]) (by simp [Act.eval]) (fun v w1 w2 hw hv => by obtain ⟨z, h1, h2⟩ := hv; exact ⟨z, h1, h2.le hw⟩) (fun w1 hw1 _ => (HL.out w1).mono ?_) ?_
    · rintro e w2 ⟨z, rfl, hr, _, hl⟩
      exact ⟨_, rfl, hl, z, rfl, hr⟩
    rintro v ⟨_, _, _, z, rfl, _⟩
    simp only [Act.put, List.setIfInBounds_toArray, List.set_cons_succ, List.set_cons_zero]
    refine wpFreeD_one rfl (.pointer (some ⟨w.heap.size, 0, none⟩)) (fun w1 _ => by kernel_rfl) ?_
    simp only [Act.put, List.setIfInBounds_toArray, List.set_cons_succ, List.set_cons_zero]
    refine wpFreeD_load1 rfl rfl rfl (p := ⟨w.heap.size, 0, none⟩) (v := .int .i64 8) (fun w1 h1 => by rw [((FD.le h1).row m0).cell?]; rfl) ukindInt64 ?_
    simp only [Act.put, List.setIfInBounds_toArray, List.set_cons_succ, List.set_cons_zero]
    refine wpFreeD_nil (fun wR hwR hF => ?_)
    obtain ⟨z', hz', hrow⟩ := (hF 0).1.1.2 rfl
    clear hF
    simp only [Value.slice.injEq, Option.some.injEq, Addr.mk.injEq] at hz'
    obtain ⟨⟨rfl, _⟩, _⟩ := hz'
    replace F := FD.le hwR
    clear hwR FD
    have cz := hid (show wR.cell? ⟨z, 8, none⟩ = some (.string (wordD 8)) by rw [hrow.cell?]; rfl)
    have rz := hrow
    clear hrow
    go_wp2_with (first | ((with_reducible refine listN F ?_); clear F; intro wN F) | ((with_reducible refine at_load rfl ?_); first | (with_reducible refine wpList_load1G rfl (p := ⟨z, 8, none⟩) rfl (v := .string (wordD 8)) (by kernel_rfl) cz.out ukindString ?_) | (with_reducible refine wpList_load1C rfl (g := w.heap.size) (f := 0) rfl (v := .int .i64 8) (by kernel_rfl) (F.row m0) rfl ukindInt64 ?_) | (with_reducible refine wpList_load1C rfl (g := w.heap.size) (f := 1) rfl (v := .int .i64 (na : Nat)) (by kernel_rfl) (F.row m0) rfl ukindInt64 ?_) | (with_reducible refine wpList_load1C rfl (g := w.heap.size) (f := 2) rfl (v := .int .i64 (nb : Nat)) (by kernel_rfl) (F.row m0) rfl ukindInt64 ?_)) | (go_at_call 19; ((with_reducible refine (HN1.out _).mono ?_); rintro e w1 ⟨rfl, rfl⟩; skip)) | (go_at_call 20; ((with_reducible refine (HD.out _ (by omega) _).mono ?_); rintro e w1 ⟨rfl, hl1⟩; replace F := F.le hl1; clear hl1)))
    go_ret
    exact ⟨by rw [E2.out]; rfl, F.below⟩
  subst hk
  have F := (Frg.nil w).box 25 #[.int .i64 9, .int .i64 (na : Nat), .int .i64 (nb : Nat)]
  have E := hid (show deedT 9 (na : Int) (nb : Int) = jnB spB [wordD 9, decT na] by unfold deedT; rw [← hv]; rfl)
  have HN1 := hid (show ∀ w, Calls Tryd.prog 19 #[.int .i64 9] w (fun e w' => e = .returned (.int .i64 1) ∧ w = w') from HN.out)
  have E2 := hid (show deedT 9 (na : Int) (nb : Int) = wordD 9 ++ ((⟨#[32]⟩ : ByteArray) ++ decT na) by rw [E.out]; simp only [jnB_cons, jnB_one, ba_assoc]; rfl)
  have zw : (wordD 9).size = 4 := rfl
  clear hv HN
  go_enter Tryd.func6, Tryd.ntmps6
  go_wp2_with (first | ((with_reducible refine listN F ?_); clear F; intro wN F) | ((with_reducible refine at_load rfl ?_); (with_reducible refine wpList_loadG F rfl rfl rfl m0 Tryd.underlying25 rfl uinfoDeedI rfl ?_)) | (go_at_call 17; ((with_reducible refine (HV.out _).mono ?_); rintro e w1 ⟨rfl, hl1⟩; replace F := F.le hl1; clear hl1)))
  first | (refine wpAt0 F ?_; clear F; intro wN F) | (refine wpAtN F ?_; clear F; intro wN F)
  have FD := F.drewN 1
  refine region_tailD (E := leX) (fun f args w v => ∃ z, v = .slice (some ⟨z, 0, none⟩) 10 10 ∧ Row w z 9 #[.string ⟨#[]⟩, .string ⟨#[103, 105, 118, 101]⟩, .string ⟨#[119, 111, 114, 107]⟩, .string ⟨#[100, 101, 108, 105, 118, 101, 114]⟩, .string ⟨#[99, 111, 112, 121]⟩, .string ⟨#[100, 114, 111, 112]⟩, .string ⟨#[115, 112, 111, 105, 108]⟩, .string ⟨#[115, 121, 110, 99]⟩, .string ⟨#[99, 114, 97, 115, 104]⟩, .string ⟨#[113, 117, 105, 116]⟩]) 3 (by kernel_rfl) (by kernel_rfl) ?_
  simp only [List.take_succ_cons, List.take_zero, List.drop_succ_cons, List.drop_zero]
  refine wpFreeD_callB rfl rfl Tryd.func18 (by kernel_rfl) (by kernel_rfl) (args := #[]) (by simp [Act.eval]) (fun v w1 w2 hw hv => by obtain ⟨z, h1, h2⟩ := hv; exact ⟨z, h1, h2.le hw⟩) (fun w1 hw1 _ => (HL.out w1).mono ?_) ?_
  · rintro e w2 ⟨z, rfl, hr, _, hl⟩
    exact ⟨_, rfl, hl, z, rfl, hr⟩
  rintro v ⟨_, _, _, z, rfl, _⟩
  simp only [Act.put, List.setIfInBounds_toArray, List.set_cons_succ, List.set_cons_zero]
  refine wpFreeD_one rfl (.pointer (some ⟨w.heap.size, 0, none⟩)) (fun w1 _ => by kernel_rfl) ?_
  simp only [Act.put, List.setIfInBounds_toArray, List.set_cons_succ, List.set_cons_zero]
  refine wpFreeD_load1 rfl rfl rfl (p := ⟨w.heap.size, 0, none⟩) (v := .int .i64 9) (fun w1 h1 => by rw [((FD.le h1).row m0).cell?]; rfl) ukindInt64 ?_
  simp only [Act.put, List.setIfInBounds_toArray, List.set_cons_succ, List.set_cons_zero]
  refine wpFreeD_nil (fun wR hwR hF => ?_)
  obtain ⟨z', hz', hrow⟩ := (hF 0).1.1.2 rfl
  clear hF
  simp only [Value.slice.injEq, Option.some.injEq, Addr.mk.injEq] at hz'
  obtain ⟨⟨rfl, _⟩, _⟩ := hz'
  replace F := FD.le hwR
  clear hwR FD
  have cz := hid (show wR.cell? ⟨z, 9, none⟩ = some (.string (wordD 9)) by rw [hrow.cell?]; rfl)
  have rz := hrow
  clear hrow
  go_wp2_with (first | ((with_reducible refine listN F ?_); clear F; intro wN F) | ((with_reducible refine at_load rfl ?_); first | (with_reducible refine wpList_load1G rfl (p := ⟨z, 9, none⟩) rfl (v := .string (wordD 9)) (by kernel_rfl) cz.out ukindString ?_) | (with_reducible refine wpList_load1C rfl (g := w.heap.size) (f := 0) rfl (v := .int .i64 9) (by kernel_rfl) (F.row m0) rfl ukindInt64 ?_) | (with_reducible refine wpList_load1C rfl (g := w.heap.size) (f := 1) rfl (v := .int .i64 (na : Nat)) (by kernel_rfl) (F.row m0) rfl ukindInt64 ?_) | (with_reducible refine wpList_load1C rfl (g := w.heap.size) (f := 2) rfl (v := .int .i64 (nb : Nat)) (by kernel_rfl) (F.row m0) rfl ukindInt64 ?_)) | (go_at_call 19; ((with_reducible refine (HN1.out _).mono ?_); rintro e w1 ⟨rfl, rfl⟩; skip)) | (go_at_call 20; ((with_reducible refine (HD.out _ (by omega) _).mono ?_); rintro e w1 ⟨rfl, hl1⟩; replace F := F.le hl1; clear hl1)))
  go_ret
  exact ⟨by rw [E2.out]; rfl, F.below⟩
theorem kindND : ∀ w : World, (isAgg 3).run Tryd.prog w = .ok false w := fun w => by kernel_rfl
theorem infoFormI : (Tryd.prog.info? 57).map (·.size) = some 2 := by kernel_rfl
theorem infoStrD : (Tryd.prog.info? 9).map (fun i => (i.zero, i.size, i.bytes)) = some (some (.string ⟨#[]⟩), 1, 16) := by kernel_rfl
theorem fillSD (ti : TypeInfo) (p q r : ByteArray) (h : ti.size = 1) : Instr.fill (fun i => some (i * ti.size, ti.size)) ((Array.range (3 * ti.size)).map ((.string ⟨#[]⟩ : Value).cells[· % (.string ⟨#[]⟩ : Value).cells.size]!)) (#[(0, .string p), (1, .string q), (2, .string r)] : Array (Nat × Value)).toList = some #[.string p, .string q, .string r] := by
  rw [h]
  have hr : Array.range (3 * 1) = #[0, 1, 2] := by decide
  rw [hr]
  simp [Instr.fill, Value.cells]
theorem mkStrD (p q r : ByteArray) (w : World) : (Instr.buildSlice 52 3 #[(0, .string p), (1, .string q), (2, .string r)]).run Tryd.prog w = .ok (.slice (some ⟨w.heap.size, 0, none⟩) 3 3) (w.alloc (.cells #[.string p, .string q, .string r] 9)) := by
  have h := infoStrD
  cases hi : Tryd.prog.info? 9 with
  | none => rw [hi] at h; simp at h
  | some i =>
    rw [hi] at h; simp at h
    exact run_buildSlice (P := Tryd.prog) w 52 9 3 _ _ i _ Tryd.underlying52 hi h.1 (by rw [h.2.1]; decide) (by rw [h.2.1]; decide) (fillSD _ _ _ _ h.2.1)
/-- The number that a call gets, in decimal. -/
def decD (args : Array Value) : ByteArray := match args.toList with | [.int _ z] => decT z.toNat | _ => ⟨#[]⟩
set_option maxRecDepth 100000 in
set_option maxHeartbeats 4000000 in
theorem i_DeedText (k a b : Int) (w : World) (hT : Tab10 w) : Calls Tryd.prog 8 #[.agg #[.int .i64 k, .int .i64 a, .int .i64 b]] w (Out_t (deedT k a b) w) := by
  obtain ⟨v, hv⟩ : ∃ v, v = okD k a b := ⟨_, rfl⟩
  have HV := hid (fun (w' : World) => i_ValidDeed k a b w')
  rw [← hv] at HV
  cases v
  · have E := hid (show deedT k a b = ⟨#[]⟩ by unfold deedT; rw [← hv]; rfl)
    clear hv
    have F := (Frg.nil w).box 25 #[.int .i64 k, .int .i64 a, .int .i64 b]
    go_enter Tryd.func8, Tryd.ntmps8
    go_wp2_with (first | ((with_reducible refine listN F ?_); clear F; intro wN F) | ((with_reducible refine at_load rfl ?_); (with_reducible refine wpList_loadG F rfl rfl rfl m0 Tryd.underlying25 rfl uinfoDeedI rfl ?_)) | (go_at_call 21; ((with_reducible refine (HV.out _).mono ?_); rintro e w1 ⟨rfl, hl1⟩; replace F := F.le hl1; clear hl1)))
    go_ret
    exact ⟨by rw [E.out]; rfl, F.below⟩
  obtain ⟨hk, ⟨na, rfl, ha⟩, nb, rfl, hb⟩ := okD_parts hv.symm
  have HF := hid (i_deedForms)
  have HD := hid (fun (z : Nat) (hz : z ≤ 999) (w' : World) (hl2 : le w w') => i_decimal z (by omega) w' (hT.le hl2))
  have za := decT_size na (by omega)
  have zb := decT_size nb (by omega)
  clear hT
  rcases hk with rfl | hk
  · have F := (Frg.nil w).box 25 #[.int .i64 1, .int .i64 (na : Nat), .int .i64 (nb : Nat)]
    have E := hid (show deedT 1 (na : Int) (nb : Int) = jnB spB [wordD 1, decT na] by unfold deedT; rw [← hv]; rfl)
    clear hv
    go_enter Tryd.func8, Tryd.ntmps8
    go_wp2_with (first | ((with_reducible refine listN F ?_); clear F; intro wN F) | ((with_reducible refine at_load rfl ?_); (with_reducible refine wpList_loadG F rfl rfl rfl m0 Tryd.underlying25 rfl uinfoDeedI rfl ?_)) | (go_at_call 21; ((with_reducible refine (HV.out _).mono ?_); rintro e w1 ⟨rfl, hl1⟩; replace F := F.le hl1; clear hl1)))
    first | (refine wpAt0 F ?_; clear F; intro wN F) | (refine wpAtN F ?_; clear F; intro wN F)
    have FD := F.drewN 1
    refine region_tailD (E := leX) (fun f args w v => v = .agg formsD) 5 (by kernel_rfl) (by kernel_rfl) ?_
    simp only [List.take_succ_cons, List.take_zero, List.drop_succ_cons, List.drop_zero]
    refine wpFreeD_callB rfl rfl Tryd.func22 (by kernel_rfl) (by kernel_rfl) (args := #[]) (by simp [Act.eval]) (fun v w1 w2 hw hv => hv) (fun w1 hw1 _ => (HF.out w1).mono ?_) ?_
    · rintro e w2 ⟨rfl, hl⟩
      exact ⟨_, rfl, hl, rfl⟩
    rintro v ⟨_, _, _, hv⟩
    replace hv : v = .agg formsD := hv
    subst hv
    simp only [Act.put, List.setIfInBounds_toArray, List.set_cons_succ, List.set_cons_zero]
    refine wpFreeD_one rfl (.pointer (some ⟨w.heap.size, 0, none⟩)) (fun w1 _ => by kernel_rfl) ?_
    simp only [Act.put, List.setIfInBounds_toArray, List.set_cons_succ, List.set_cons_zero]
    refine wpFreeD_load1 rfl rfl rfl (p := ⟨w.heap.size, 0, none⟩) (v := .int .i64 1) (fun w1 h1 => by rw [((FD.le h1).row m0).cell?]; rfl) ukindInt64 ?_
    simp only [Act.put, List.setIfInBounds_toArray, List.set_cons_succ, List.set_cons_zero]
    refine wpFreeD_one rfl (.agg #[.string ⟨#[103, 105, 118, 101]⟩, .int .i64 1]) (fun w1 _ => by kernel_rfl) ?_
    simp only [Act.put, List.setIfInBounds_toArray, List.set_cons_succ, List.set_cons_zero]
    refine wpFreeD_allocD rfl rfl #[.string ⟨#[]⟩, .int .i64 0] (fun w => by go_simp) (fun b0 => ?_)
    simp only [Act.put, List.setIfInBounds_toArray, List.set_cons_succ, List.set_cons_zero]
    refine wpFreeD_nil (fun wR hwR hF => ?_)
    obtain ⟨lb0, rb⟩ := (hF 4).2 rfl
    clear hF
    replace F : Frg w wR (rowF b0 57 #[.string ⟨#[]⟩, .int .i64 0] :: _) := F.rowS ((Frg.nil _).drewN 1 |>.le hwR).below (Nat.le_trans (by simp) lb0) rb
    clear hwR FD lb0 rb
    show wpList _ _ _ _ _ _
    refine wpList_storeD rfl rfl rfl (cells := #[.string ⟨#[103, 105, 118, 101]⟩, .int .i64 1]) rfl (F.row m0) infoFormI rfl (by (simp only [List.all_toArray', List.all_cons, List.all_nil, Bool.and_true, Bool.true_and]) <;> rfl) (fun w6 K => ?_)
    replace F := F.wrI0 K
    clear K
    go_wp2_with (first | ((with_reducible refine listN F ?_); clear F; intro wN F))
    first | (refine wpAt0 F ?_; clear F; intro wN F) | (refine wpAtN F ?_; clear F; intro wN F)
    have FD := F.drewN 1
    refine region_freeD (E := leX) (fun f args _ v => v = .string (decD args)) (by kernel_rfl) (by kernel_rfl) ?_
    refine wpFreeD_one rfl (.pointer (some ⟨b0, 0, none⟩)) (fun w1 _ => by kernel_rfl) ?_
    simp only [Act.put, List.setIfInBounds_toArray, List.set_cons_succ, List.set_cons_zero]
    refine wpFreeD_load1 rfl rfl rfl (p := ⟨b0, 0, none⟩) (v := .string ⟨#[103, 105, 118, 101]⟩) (fun w1 h1 => by rw [((FD.le h1).row m0).cell?]; rfl) ukindString ?_
    simp only [Act.put, List.setIfInBounds_toArray, List.set_cons_succ, List.set_cons_zero]
    refine wpFreeD_one rfl (.pointer (some ⟨w.heap.size, 1, none⟩)) (fun w1 _ => by kernel_rfl) ?_
    simp only [Act.put, List.setIfInBounds_toArray, List.set_cons_succ, List.set_cons_zero]
    refine wpFreeD_load1 rfl rfl rfl (p := ⟨w.heap.size, 1, none⟩) (v := .int .i64 (na : Nat)) (fun w1 h1 => by rw [((FD.le h1).row m1).cell?]; rfl) ukindInt64 ?_
    simp only [Act.put, List.setIfInBounds_toArray, List.set_cons_succ, List.set_cons_zero]
    refine wpFreeD_callB rfl rfl Tryd.func23 (by kernel_rfl) (by kernel_rfl) (args := #[.int .i64 (na : Nat)]) (by simp [Act.eval]) (fun v w1 w2 hw hv => hv) (fun w1 hw1 _ => (HD.out na (by omega) w1 (FD.le hw1).below).mono ?_) ?_
    · rintro e w2 ⟨rfl, hl⟩
      exact ⟨_, rfl, hl, rfl⟩
    rintro v ⟨_, _, _, hv⟩
    replace hv : v = .string (decT na) := hv
    subst hv
    simp only [Act.put, List.setIfInBounds_toArray, List.set_cons_succ, List.set_cons_zero]
    refine wpFreeD_one rfl (.pointer (some ⟨w.heap.size, 2, none⟩)) (fun w1 _ => by kernel_rfl) ?_
    simp only [Act.put, List.setIfInBounds_toArray, List.set_cons_succ, List.set_cons_zero]
    refine wpFreeD_load1 rfl rfl rfl (p := ⟨w.heap.size, 2, none⟩) (v := .int .i64 (nb : Nat)) (fun w1 h1 => by rw [((FD.le h1).row m1).cell?]; rfl) ukindInt64 ?_
    simp only [Act.put, List.setIfInBounds_toArray, List.set_cons_succ, List.set_cons_zero]
    refine wpFreeD_callB rfl rfl Tryd.func23 (by kernel_rfl) (by kernel_rfl) (args := #[.int .i64 (nb : Nat)]) (by simp [Act.eval]) (fun v w1 w2 hw hv => hv) (fun w1 hw1 _ => (HD.out nb (by omega) w1 (FD.le hw1).below).mono ?_) ?_
    · rintro e w2 ⟨rfl, hl⟩
      exact ⟨_, rfl, hl, rfl⟩
    rintro v ⟨_, _, _, hv⟩
    replace hv : v = .string (decT nb) := hv
    subst hv
    simp only [Act.put, List.setIfInBounds_toArray, List.set_cons_succ, List.set_cons_zero]
    refine wpFreeD_newN rfl (fun z => .slice (some ⟨z, 0, none⟩) 3 3) (fun b b' h => by simpa using h) 9 #[.string ⟨#[103, 105, 118, 101]⟩, .string (decT na), .string (decT nb)] (fun w1 => ?_) (fun z => ?_)
    · have hb := mkStrD ⟨#[103, 105, 118, 101]⟩ (decT na) (decT nb) w1
      simp [execOp, Act.eval, Result.andThen, hb]
    simp only [Act.put, List.setIfInBounds_toArray, List.set_cons_succ, List.set_cons_zero]
    refine wpFreeD_one rfl (.slice (some ⟨z, 0, none⟩) 3 3) (fun w1 _ => by kernel_rfl) ?_
    simp only [Act.put, List.setIfInBounds_toArray, List.set_cons_succ, List.set_cons_zero]
    refine wpFreeD_nil (fun wR hwR hF => ?_)
    obtain ⟨_, hq4⟩ := (hF 8).1.2 rfl
    clear hF
    replace F := FD.le hwR
    clear hwR FD
    have HJ := hid (run_Join z 0 3 [wordD 1, decT na] spB 2 rfl wR (fun j u hj => by
      rw [Nat.zero_add, hq4.cell?]
      match j, hj with
      | 0, hj => simp at hj; subst hj; rfl
      | 1, hj => simp at hj; subst hj; rfl
      | j + 2, hj => simp at hj) hq4.lt (by simp) (by decide) (Nat.le_trans (jnB_size spB 30 _ (fun x hx => by
        have zw : (wordD 1).size ≤ 30 := by decide
        simp only [List.mem_cons, List.not_mem_nil, or_false] at hx
        rcases hx with rfl | rfl <;> omega)) (by rw [show spB.size = 1 from rfl]; simp)))
    clear hq4
    go_wp2_with (first | ((with_reducible refine listN F ?_); clear F; intro wN F) | ((with_reducible refine at_load rfl ?_); (with_reducible refine wpList_load1C rfl (g := b0) (f := 1) rfl (v := .int .i64 1) (by kernel_rfl) (F.row m0) rfl kindND ?_)) | (go_at_call 24; (refine HJ.out.mono ?_; rintro e w1 ⟨rfl, hl1⟩; replace F := F.le hl1; clear hl1)))
    go_ret
    exact ⟨by rw [E.out]; rfl, F.below⟩
  rcases hk with rfl | hk
  · have F := (Frg.nil w).box 25 #[.int .i64 2, .int .i64 (na : Nat), .int .i64 (nb : Nat)]
    have E := hid (show deedT 2 (na : Int) (nb : Int) = jnB spB [wordD 2, decT na] by unfold deedT; rw [← hv]; rfl)
    clear hv
    go_enter Tryd.func8, Tryd.ntmps8
    go_wp2_with (first | ((with_reducible refine listN F ?_); clear F; intro wN F) | ((with_reducible refine at_load rfl ?_); (with_reducible refine wpList_loadG F rfl rfl rfl m0 Tryd.underlying25 rfl uinfoDeedI rfl ?_)) | (go_at_call 21; ((with_reducible refine (HV.out _).mono ?_); rintro e w1 ⟨rfl, hl1⟩; replace F := F.le hl1; clear hl1)))
    first | (refine wpAt0 F ?_; clear F; intro wN F) | (refine wpAtN F ?_; clear F; intro wN F)
    have FD := F.drewN 1
    refine region_tailD (E := leX) (fun f args w v => v = .agg formsD) 5 (by kernel_rfl) (by kernel_rfl) ?_
    simp only [List.take_succ_cons, List.take_zero, List.drop_succ_cons, List.drop_zero]
    refine wpFreeD_callB rfl rfl Tryd.func22 (by kernel_rfl) (by kernel_rfl) (args := #[]) (by simp [Act.eval]) (fun v w1 w2 hw hv => hv) (fun w1 hw1 _ => (HF.out w1).mono ?_) ?_
    · rintro e w2 ⟨rfl, hl⟩
      exact ⟨_, rfl, hl, rfl⟩
    rintro v ⟨_, _, _, hv⟩
    replace hv : v = .agg formsD := hv
    subst hv
    simp only [Act.put, List.setIfInBounds_toArray, List.set_cons_succ, List.set_cons_zero]
    refine wpFreeD_one rfl (.pointer (some ⟨w.heap.size, 0, none⟩)) (fun w1 _ => by kernel_rfl) ?_
    simp only [Act.put, List.setIfInBounds_toArray, List.set_cons_succ, List.set_cons_zero]
    refine wpFreeD_load1 rfl rfl rfl (p := ⟨w.heap.size, 0, none⟩) (v := .int .i64 2) (fun w1 h1 => by rw [((FD.le h1).row m0).cell?]; rfl) ukindInt64 ?_
    simp only [Act.put, List.setIfInBounds_toArray, List.set_cons_succ, List.set_cons_zero]
    refine wpFreeD_one rfl (.agg #[.string ⟨#[119, 111, 114, 107]⟩, .int .i64 1]) (fun w1 _ => by kernel_rfl) ?_
    simp only [Act.put, List.setIfInBounds_toArray, List.set_cons_succ, List.set_cons_zero]
    refine wpFreeD_allocD rfl rfl #[.string ⟨#[]⟩, .int .i64 0] (fun w => by go_simp) (fun b0 => ?_)
    simp only [Act.put, List.setIfInBounds_toArray, List.set_cons_succ, List.set_cons_zero]
    refine wpFreeD_nil (fun wR hwR hF => ?_)
    obtain ⟨lb0, rb⟩ := (hF 4).2 rfl
    clear hF
    replace F : Frg w wR (rowF b0 57 #[.string ⟨#[]⟩, .int .i64 0] :: _) := F.rowS ((Frg.nil _).drewN 1 |>.le hwR).below (Nat.le_trans (by simp) lb0) rb
    clear hwR FD lb0 rb
    show wpList _ _ _ _ _ _
    refine wpList_storeD rfl rfl rfl (cells := #[.string ⟨#[119, 111, 114, 107]⟩, .int .i64 1]) rfl (F.row m0) infoFormI rfl (by (simp only [List.all_toArray', List.all_cons, List.all_nil, Bool.and_true, Bool.true_and]) <;> rfl) (fun w6 K => ?_)
    replace F := F.wrI0 K
    clear K
    go_wp2_with (first | ((with_reducible refine listN F ?_); clear F; intro wN F))
    first | (refine wpAt0 F ?_; clear F; intro wN F) | (refine wpAtN F ?_; clear F; intro wN F)
    have FD := F.drewN 1
    refine region_freeD (E := leX) (fun f args _ v => v = .string (decD args)) (by kernel_rfl) (by kernel_rfl) ?_
    refine wpFreeD_one rfl (.pointer (some ⟨b0, 0, none⟩)) (fun w1 _ => by kernel_rfl) ?_
    simp only [Act.put, List.setIfInBounds_toArray, List.set_cons_succ, List.set_cons_zero]
    refine wpFreeD_load1 rfl rfl rfl (p := ⟨b0, 0, none⟩) (v := .string ⟨#[119, 111, 114, 107]⟩) (fun w1 h1 => by rw [((FD.le h1).row m0).cell?]; rfl) ukindString ?_
    simp only [Act.put, List.setIfInBounds_toArray, List.set_cons_succ, List.set_cons_zero]
    refine wpFreeD_one rfl (.pointer (some ⟨w.heap.size, 1, none⟩)) (fun w1 _ => by kernel_rfl) ?_
    simp only [Act.put, List.setIfInBounds_toArray, List.set_cons_succ, List.set_cons_zero]
    refine wpFreeD_load1 rfl rfl rfl (p := ⟨w.heap.size, 1, none⟩) (v := .int .i64 (na : Nat)) (fun w1 h1 => by rw [((FD.le h1).row m1).cell?]; rfl) ukindInt64 ?_
    simp only [Act.put, List.setIfInBounds_toArray, List.set_cons_succ, List.set_cons_zero]
    refine wpFreeD_callB rfl rfl Tryd.func23 (by kernel_rfl) (by kernel_rfl) (args := #[.int .i64 (na : Nat)]) (by simp [Act.eval]) (fun v w1 w2 hw hv => hv) (fun w1 hw1 _ => (HD.out na (by omega) w1 (FD.le hw1).below).mono ?_) ?_
    · rintro e w2 ⟨rfl, hl⟩
      exact ⟨_, rfl, hl, rfl⟩
    rintro v ⟨_, _, _, hv⟩
    replace hv : v = .string (decT na) := hv
    subst hv
    simp only [Act.put, List.setIfInBounds_toArray, List.set_cons_succ, List.set_cons_zero]
    refine wpFreeD_one rfl (.pointer (some ⟨w.heap.size, 2, none⟩)) (fun w1 _ => by kernel_rfl) ?_
    simp only [Act.put, List.setIfInBounds_toArray, List.set_cons_succ, List.set_cons_zero]
    refine wpFreeD_load1 rfl rfl rfl (p := ⟨w.heap.size, 2, none⟩) (v := .int .i64 (nb : Nat)) (fun w1 h1 => by rw [((FD.le h1).row m1).cell?]; rfl) ukindInt64 ?_
    simp only [Act.put, List.setIfInBounds_toArray, List.set_cons_succ, List.set_cons_zero]
    refine wpFreeD_callB rfl rfl Tryd.func23 (by kernel_rfl) (by kernel_rfl) (args := #[.int .i64 (nb : Nat)]) (by simp [Act.eval]) (fun v w1 w2 hw hv => hv) (fun w1 hw1 _ => (HD.out nb (by omega) w1 (FD.le hw1).below).mono ?_) ?_
    · rintro e w2 ⟨rfl, hl⟩
      exact ⟨_, rfl, hl, rfl⟩
    rintro v ⟨_, _, _, hv⟩
    replace hv : v = .string (decT nb) := hv
    subst hv
    simp only [Act.put, List.setIfInBounds_toArray, List.set_cons_succ, List.set_cons_zero]
    refine wpFreeD_newN rfl (fun z => .slice (some ⟨z, 0, none⟩) 3 3) (fun b b' h => by simpa using h) 9 #[.string ⟨#[119, 111, 114, 107]⟩, .string (decT na), .string (decT nb)] (fun w1 => ?_) (fun z => ?_)
    · have hb := mkStrD ⟨#[119, 111, 114, 107]⟩ (decT na) (decT nb) w1
      simp [execOp, Act.eval, Result.andThen, hb]
    simp only [Act.put, List.setIfInBounds_toArray, List.set_cons_succ, List.set_cons_zero]
    refine wpFreeD_one rfl (.slice (some ⟨z, 0, none⟩) 3 3) (fun w1 _ => by kernel_rfl) ?_
    simp only [Act.put, List.setIfInBounds_toArray, List.set_cons_succ, List.set_cons_zero]
    refine wpFreeD_nil (fun wR hwR hF => ?_)
    obtain ⟨_, hq4⟩ := (hF 8).1.2 rfl
    clear hF
    replace F := FD.le hwR
    clear hwR FD
    have HJ := hid (run_Join z 0 3 [wordD 2, decT na] spB 2 rfl wR (fun j u hj => by
      rw [Nat.zero_add, hq4.cell?]
      match j, hj with
      | 0, hj => simp at hj; subst hj; rfl
      | 1, hj => simp at hj; subst hj; rfl
      | j + 2, hj => simp at hj) hq4.lt (by simp) (by decide) (Nat.le_trans (jnB_size spB 30 _ (fun x hx => by
        have zw : (wordD 2).size ≤ 30 := by decide
        simp only [List.mem_cons, List.not_mem_nil, or_false] at hx
        rcases hx with rfl | rfl <;> omega)) (by rw [show spB.size = 1 from rfl]; simp)))
    clear hq4
    go_wp2_with (first | ((with_reducible refine listN F ?_); clear F; intro wN F) | ((with_reducible refine at_load rfl ?_); (with_reducible refine wpList_load1C rfl (g := b0) (f := 1) rfl (v := .int .i64 1) (by kernel_rfl) (F.row m0) rfl kindND ?_)) | (go_at_call 24; (refine HJ.out.mono ?_; rintro e w1 ⟨rfl, hl1⟩; replace F := F.le hl1; clear hl1)))
    go_ret
    exact ⟨by rw [E.out]; rfl, F.below⟩
  rcases hk with rfl | hk
  · have F := (Frg.nil w).box 25 #[.int .i64 3, .int .i64 (na : Nat), .int .i64 (nb : Nat)]
    have E := hid (show deedT 3 (na : Int) (nb : Int) = jnB spB [wordD 3, decT na] by unfold deedT; rw [← hv]; rfl)
    clear hv
    go_enter Tryd.func8, Tryd.ntmps8
    go_wp2_with (first | ((with_reducible refine listN F ?_); clear F; intro wN F) | ((with_reducible refine at_load rfl ?_); (with_reducible refine wpList_loadG F rfl rfl rfl m0 Tryd.underlying25 rfl uinfoDeedI rfl ?_)) | (go_at_call 21; ((with_reducible refine (HV.out _).mono ?_); rintro e w1 ⟨rfl, hl1⟩; replace F := F.le hl1; clear hl1)))
    first | (refine wpAt0 F ?_; clear F; intro wN F) | (refine wpAtN F ?_; clear F; intro wN F)
    have FD := F.drewN 1
    refine region_tailD (E := leX) (fun f args w v => v = .agg formsD) 5 (by kernel_rfl) (by kernel_rfl) ?_
    simp only [List.take_succ_cons, List.take_zero, List.drop_succ_cons, List.drop_zero]
    refine wpFreeD_callB rfl rfl Tryd.func22 (by kernel_rfl) (by kernel_rfl) (args := #[]) (by simp [Act.eval]) (fun v w1 w2 hw hv => hv) (fun w1 hw1 _ => (HF.out w1).mono ?_) ?_
    · rintro e w2 ⟨rfl, hl⟩
      exact ⟨_, rfl, hl, rfl⟩
    rintro v ⟨_, _, _, hv⟩
    replace hv : v = .agg formsD := hv
    subst hv
    simp only [Act.put, List.setIfInBounds_toArray, List.set_cons_succ, List.set_cons_zero]
    refine wpFreeD_one rfl (.pointer (some ⟨w.heap.size, 0, none⟩)) (fun w1 _ => by kernel_rfl) ?_
    simp only [Act.put, List.setIfInBounds_toArray, List.set_cons_succ, List.set_cons_zero]
    refine wpFreeD_load1 rfl rfl rfl (p := ⟨w.heap.size, 0, none⟩) (v := .int .i64 3) (fun w1 h1 => by rw [((FD.le h1).row m0).cell?]; rfl) ukindInt64 ?_
    simp only [Act.put, List.setIfInBounds_toArray, List.set_cons_succ, List.set_cons_zero]
    refine wpFreeD_one rfl (.agg #[.string ⟨#[100, 101, 108, 105, 118, 101, 114]⟩, .int .i64 1]) (fun w1 _ => by kernel_rfl) ?_
    simp only [Act.put, List.setIfInBounds_toArray, List.set_cons_succ, List.set_cons_zero]
    refine wpFreeD_allocD rfl rfl #[.string ⟨#[]⟩, .int .i64 0] (fun w => by go_simp) (fun b0 => ?_)
    simp only [Act.put, List.setIfInBounds_toArray, List.set_cons_succ, List.set_cons_zero]
    refine wpFreeD_nil (fun wR hwR hF => ?_)
    obtain ⟨lb0, rb⟩ := (hF 4).2 rfl
    clear hF
    replace F : Frg w wR (rowF b0 57 #[.string ⟨#[]⟩, .int .i64 0] :: _) := F.rowS ((Frg.nil _).drewN 1 |>.le hwR).below (Nat.le_trans (by simp) lb0) rb
    clear hwR FD lb0 rb
    show wpList _ _ _ _ _ _
    refine wpList_storeD rfl rfl rfl (cells := #[.string ⟨#[100, 101, 108, 105, 118, 101, 114]⟩, .int .i64 1]) rfl (F.row m0) infoFormI rfl (by (simp only [List.all_toArray', List.all_cons, List.all_nil, Bool.and_true, Bool.true_and]) <;> rfl) (fun w6 K => ?_)
    replace F := F.wrI0 K
    clear K
    go_wp2_with (first | ((with_reducible refine listN F ?_); clear F; intro wN F))
    first | (refine wpAt0 F ?_; clear F; intro wN F) | (refine wpAtN F ?_; clear F; intro wN F)
    have FD := F.drewN 1
    refine region_freeD (E := leX) (fun f args _ v => v = .string (decD args)) (by kernel_rfl) (by kernel_rfl) ?_
    refine wpFreeD_one rfl (.pointer (some ⟨b0, 0, none⟩)) (fun w1 _ => by kernel_rfl) ?_
    simp only [Act.put, List.setIfInBounds_toArray, List.set_cons_succ, List.set_cons_zero]
    refine wpFreeD_load1 rfl rfl rfl (p := ⟨b0, 0, none⟩) (v := .string ⟨#[100, 101, 108, 105, 118, 101, 114]⟩) (fun w1 h1 => by rw [((FD.le h1).row m0).cell?]; rfl) ukindString ?_
    simp only [Act.put, List.setIfInBounds_toArray, List.set_cons_succ, List.set_cons_zero]
    refine wpFreeD_one rfl (.pointer (some ⟨w.heap.size, 1, none⟩)) (fun w1 _ => by kernel_rfl) ?_
    simp only [Act.put, List.setIfInBounds_toArray, List.set_cons_succ, List.set_cons_zero]
    refine wpFreeD_load1 rfl rfl rfl (p := ⟨w.heap.size, 1, none⟩) (v := .int .i64 (na : Nat)) (fun w1 h1 => by rw [((FD.le h1).row m1).cell?]; rfl) ukindInt64 ?_
    simp only [Act.put, List.setIfInBounds_toArray, List.set_cons_succ, List.set_cons_zero]
    refine wpFreeD_callB rfl rfl Tryd.func23 (by kernel_rfl) (by kernel_rfl) (args := #[.int .i64 (na : Nat)]) (by simp [Act.eval]) (fun v w1 w2 hw hv => hv) (fun w1 hw1 _ => (HD.out na (by omega) w1 (FD.le hw1).below).mono ?_) ?_
    · rintro e w2 ⟨rfl, hl⟩
      exact ⟨_, rfl, hl, rfl⟩
    rintro v ⟨_, _, _, hv⟩
    replace hv : v = .string (decT na) := hv
    subst hv
    simp only [Act.put, List.setIfInBounds_toArray, List.set_cons_succ, List.set_cons_zero]
    refine wpFreeD_one rfl (.pointer (some ⟨w.heap.size, 2, none⟩)) (fun w1 _ => by kernel_rfl) ?_
    simp only [Act.put, List.setIfInBounds_toArray, List.set_cons_succ, List.set_cons_zero]
    refine wpFreeD_load1 rfl rfl rfl (p := ⟨w.heap.size, 2, none⟩) (v := .int .i64 (nb : Nat)) (fun w1 h1 => by rw [((FD.le h1).row m1).cell?]; rfl) ukindInt64 ?_
    simp only [Act.put, List.setIfInBounds_toArray, List.set_cons_succ, List.set_cons_zero]
    refine wpFreeD_callB rfl rfl Tryd.func23 (by kernel_rfl) (by kernel_rfl) (args := #[.int .i64 (nb : Nat)]) (by simp [Act.eval]) (fun v w1 w2 hw hv => hv) (fun w1 hw1 _ => (HD.out nb (by omega) w1 (FD.le hw1).below).mono ?_) ?_
    · rintro e w2 ⟨rfl, hl⟩
      exact ⟨_, rfl, hl, rfl⟩
    rintro v ⟨_, _, _, hv⟩
    replace hv : v = .string (decT nb) := hv
    subst hv
    simp only [Act.put, List.setIfInBounds_toArray, List.set_cons_succ, List.set_cons_zero]
    refine wpFreeD_newN rfl (fun z => .slice (some ⟨z, 0, none⟩) 3 3) (fun b b' h => by simpa using h) 9 #[.string ⟨#[100, 101, 108, 105, 118, 101, 114]⟩, .string (decT na), .string (decT nb)] (fun w1 => ?_) (fun z => ?_)
    · have hb := mkStrD ⟨#[100, 101, 108, 105, 118, 101, 114]⟩ (decT na) (decT nb) w1
      simp [execOp, Act.eval, Result.andThen, hb]
    simp only [Act.put, List.setIfInBounds_toArray, List.set_cons_succ, List.set_cons_zero]
    refine wpFreeD_one rfl (.slice (some ⟨z, 0, none⟩) 3 3) (fun w1 _ => by kernel_rfl) ?_
    simp only [Act.put, List.setIfInBounds_toArray, List.set_cons_succ, List.set_cons_zero]
    refine wpFreeD_nil (fun wR hwR hF => ?_)
    obtain ⟨_, hq4⟩ := (hF 8).1.2 rfl
    clear hF
    replace F := FD.le hwR
    clear hwR FD
    have HJ := hid (run_Join z 0 3 [wordD 3, decT na] spB 2 rfl wR (fun j u hj => by
      rw [Nat.zero_add, hq4.cell?]
      match j, hj with
      | 0, hj => simp at hj; subst hj; rfl
      | 1, hj => simp at hj; subst hj; rfl
      | j + 2, hj => simp at hj) hq4.lt (by simp) (by decide) (Nat.le_trans (jnB_size spB 30 _ (fun x hx => by
        have zw : (wordD 3).size ≤ 30 := by decide
        simp only [List.mem_cons, List.not_mem_nil, or_false] at hx
        rcases hx with rfl | rfl <;> omega)) (by rw [show spB.size = 1 from rfl]; simp)))
    clear hq4
    go_wp2_with (first | ((with_reducible refine listN F ?_); clear F; intro wN F) | ((with_reducible refine at_load rfl ?_); (with_reducible refine wpList_load1C rfl (g := b0) (f := 1) rfl (v := .int .i64 1) (by kernel_rfl) (F.row m0) rfl kindND ?_)) | (go_at_call 24; (refine HJ.out.mono ?_; rintro e w1 ⟨rfl, hl1⟩; replace F := F.le hl1; clear hl1)))
    go_ret
    exact ⟨by rw [E.out]; rfl, F.below⟩
  rcases hk with rfl | hk
  · have F := (Frg.nil w).box 25 #[.int .i64 4, .int .i64 (na : Nat), .int .i64 (nb : Nat)]
    have E := hid (show deedT 4 (na : Int) (nb : Int) = jnB spB [wordD 4, decT na] by unfold deedT; rw [← hv]; rfl)
    clear hv
    go_enter Tryd.func8, Tryd.ntmps8
    go_wp2_with (first | ((with_reducible refine listN F ?_); clear F; intro wN F) | ((with_reducible refine at_load rfl ?_); (with_reducible refine wpList_loadG F rfl rfl rfl m0 Tryd.underlying25 rfl uinfoDeedI rfl ?_)) | (go_at_call 21; ((with_reducible refine (HV.out _).mono ?_); rintro e w1 ⟨rfl, hl1⟩; replace F := F.le hl1; clear hl1)))
    first | (refine wpAt0 F ?_; clear F; intro wN F) | (refine wpAtN F ?_; clear F; intro wN F)
    have FD := F.drewN 1
    refine region_tailD (E := leX) (fun f args w v => v = .agg formsD) 5 (by kernel_rfl) (by kernel_rfl) ?_
    simp only [List.take_succ_cons, List.take_zero, List.drop_succ_cons, List.drop_zero]
    refine wpFreeD_callB rfl rfl Tryd.func22 (by kernel_rfl) (by kernel_rfl) (args := #[]) (by simp [Act.eval]) (fun v w1 w2 hw hv => hv) (fun w1 hw1 _ => (HF.out w1).mono ?_) ?_
    · rintro e w2 ⟨rfl, hl⟩
      exact ⟨_, rfl, hl, rfl⟩
    rintro v ⟨_, _, _, hv⟩
    replace hv : v = .agg formsD := hv
    subst hv
    simp only [Act.put, List.setIfInBounds_toArray, List.set_cons_succ, List.set_cons_zero]
    refine wpFreeD_one rfl (.pointer (some ⟨w.heap.size, 0, none⟩)) (fun w1 _ => by kernel_rfl) ?_
    simp only [Act.put, List.setIfInBounds_toArray, List.set_cons_succ, List.set_cons_zero]
    refine wpFreeD_load1 rfl rfl rfl (p := ⟨w.heap.size, 0, none⟩) (v := .int .i64 4) (fun w1 h1 => by rw [((FD.le h1).row m0).cell?]; rfl) ukindInt64 ?_
    simp only [Act.put, List.setIfInBounds_toArray, List.set_cons_succ, List.set_cons_zero]
    refine wpFreeD_one rfl (.agg #[.string ⟨#[99, 111, 112, 121]⟩, .int .i64 1]) (fun w1 _ => by kernel_rfl) ?_
    simp only [Act.put, List.setIfInBounds_toArray, List.set_cons_succ, List.set_cons_zero]
    refine wpFreeD_allocD rfl rfl #[.string ⟨#[]⟩, .int .i64 0] (fun w => by go_simp) (fun b0 => ?_)
    simp only [Act.put, List.setIfInBounds_toArray, List.set_cons_succ, List.set_cons_zero]
    refine wpFreeD_nil (fun wR hwR hF => ?_)
    obtain ⟨lb0, rb⟩ := (hF 4).2 rfl
    clear hF
    replace F : Frg w wR (rowF b0 57 #[.string ⟨#[]⟩, .int .i64 0] :: _) := F.rowS ((Frg.nil _).drewN 1 |>.le hwR).below (Nat.le_trans (by simp) lb0) rb
    clear hwR FD lb0 rb
    show wpList _ _ _ _ _ _
    refine wpList_storeD rfl rfl rfl (cells := #[.string ⟨#[99, 111, 112, 121]⟩, .int .i64 1]) rfl (F.row m0) infoFormI rfl (by (simp only [List.all_toArray', List.all_cons, List.all_nil, Bool.and_true, Bool.true_and]) <;> rfl) (fun w6 K => ?_)
    replace F := F.wrI0 K
    clear K
    go_wp2_with (first | ((with_reducible refine listN F ?_); clear F; intro wN F))
    first | (refine wpAt0 F ?_; clear F; intro wN F) | (refine wpAtN F ?_; clear F; intro wN F)
    have FD := F.drewN 1
    refine region_freeD (E := leX) (fun f args _ v => v = .string (decD args)) (by kernel_rfl) (by kernel_rfl) ?_
    refine wpFreeD_one rfl (.pointer (some ⟨b0, 0, none⟩)) (fun w1 _ => by kernel_rfl) ?_
    simp only [Act.put, List.setIfInBounds_toArray, List.set_cons_succ, List.set_cons_zero]
    refine wpFreeD_load1 rfl rfl rfl (p := ⟨b0, 0, none⟩) (v := .string ⟨#[99, 111, 112, 121]⟩) (fun w1 h1 => by rw [((FD.le h1).row m0).cell?]; rfl) ukindString ?_
    simp only [Act.put, List.setIfInBounds_toArray, List.set_cons_succ, List.set_cons_zero]
    refine wpFreeD_one rfl (.pointer (some ⟨w.heap.size, 1, none⟩)) (fun w1 _ => by kernel_rfl) ?_
    simp only [Act.put, List.setIfInBounds_toArray, List.set_cons_succ, List.set_cons_zero]
    refine wpFreeD_load1 rfl rfl rfl (p := ⟨w.heap.size, 1, none⟩) (v := .int .i64 (na : Nat)) (fun w1 h1 => by rw [((FD.le h1).row m1).cell?]; rfl) ukindInt64 ?_
    simp only [Act.put, List.setIfInBounds_toArray, List.set_cons_succ, List.set_cons_zero]
    refine wpFreeD_callB rfl rfl Tryd.func23 (by kernel_rfl) (by kernel_rfl) (args := #[.int .i64 (na : Nat)]) (by simp [Act.eval]) (fun v w1 w2 hw hv => hv) (fun w1 hw1 _ => (HD.out na (by omega) w1 (FD.le hw1).below).mono ?_) ?_
    · rintro e w2 ⟨rfl, hl⟩
      exact ⟨_, rfl, hl, rfl⟩
    rintro v ⟨_, _, _, hv⟩
    replace hv : v = .string (decT na) := hv
    subst hv
    simp only [Act.put, List.setIfInBounds_toArray, List.set_cons_succ, List.set_cons_zero]
    refine wpFreeD_one rfl (.pointer (some ⟨w.heap.size, 2, none⟩)) (fun w1 _ => by kernel_rfl) ?_
    simp only [Act.put, List.setIfInBounds_toArray, List.set_cons_succ, List.set_cons_zero]
    refine wpFreeD_load1 rfl rfl rfl (p := ⟨w.heap.size, 2, none⟩) (v := .int .i64 (nb : Nat)) (fun w1 h1 => by rw [((FD.le h1).row m1).cell?]; rfl) ukindInt64 ?_
    simp only [Act.put, List.setIfInBounds_toArray, List.set_cons_succ, List.set_cons_zero]
    refine wpFreeD_callB rfl rfl Tryd.func23 (by kernel_rfl) (by kernel_rfl) (args := #[.int .i64 (nb : Nat)]) (by simp [Act.eval]) (fun v w1 w2 hw hv => hv) (fun w1 hw1 _ => (HD.out nb (by omega) w1 (FD.le hw1).below).mono ?_) ?_
    · rintro e w2 ⟨rfl, hl⟩
      exact ⟨_, rfl, hl, rfl⟩
    rintro v ⟨_, _, _, hv⟩
    replace hv : v = .string (decT nb) := hv
    subst hv
    simp only [Act.put, List.setIfInBounds_toArray, List.set_cons_succ, List.set_cons_zero]
    refine wpFreeD_newN rfl (fun z => .slice (some ⟨z, 0, none⟩) 3 3) (fun b b' h => by simpa using h) 9 #[.string ⟨#[99, 111, 112, 121]⟩, .string (decT na), .string (decT nb)] (fun w1 => ?_) (fun z => ?_)
    · have hb := mkStrD ⟨#[99, 111, 112, 121]⟩ (decT na) (decT nb) w1
      simp [execOp, Act.eval, Result.andThen, hb]
    simp only [Act.put, List.setIfInBounds_toArray, List.set_cons_succ, List.set_cons_zero]
    refine wpFreeD_one rfl (.slice (some ⟨z, 0, none⟩) 3 3) (fun w1 _ => by kernel_rfl) ?_
    simp only [Act.put, List.setIfInBounds_toArray, List.set_cons_succ, List.set_cons_zero]
    refine wpFreeD_nil (fun wR hwR hF => ?_)
    obtain ⟨_, hq4⟩ := (hF 8).1.2 rfl
    clear hF
    replace F := FD.le hwR
    clear hwR FD
    have HJ := hid (run_Join z 0 3 [wordD 4, decT na] spB 2 rfl wR (fun j u hj => by
      rw [Nat.zero_add, hq4.cell?]
      match j, hj with
      | 0, hj => simp at hj; subst hj; rfl
      | 1, hj => simp at hj; subst hj; rfl
      | j + 2, hj => simp at hj) hq4.lt (by simp) (by decide) (Nat.le_trans (jnB_size spB 30 _ (fun x hx => by
        have zw : (wordD 4).size ≤ 30 := by decide
        simp only [List.mem_cons, List.not_mem_nil, or_false] at hx
        rcases hx with rfl | rfl <;> omega)) (by rw [show spB.size = 1 from rfl]; simp)))
    clear hq4
    go_wp2_with (first | ((with_reducible refine listN F ?_); clear F; intro wN F) | ((with_reducible refine at_load rfl ?_); (with_reducible refine wpList_load1C rfl (g := b0) (f := 1) rfl (v := .int .i64 1) (by kernel_rfl) (F.row m0) rfl kindND ?_)) | (go_at_call 24; (refine HJ.out.mono ?_; rintro e w1 ⟨rfl, hl1⟩; replace F := F.le hl1; clear hl1)))
    go_ret
    exact ⟨by rw [E.out]; rfl, F.below⟩
  rcases hk with rfl | hk
  · have F := (Frg.nil w).box 25 #[.int .i64 5, .int .i64 (na : Nat), .int .i64 (nb : Nat)]
    have E := hid (show deedT 5 (na : Int) (nb : Int) = jnB spB [wordD 5, decT na] by unfold deedT; rw [← hv]; rfl)
    clear hv
    go_enter Tryd.func8, Tryd.ntmps8
    go_wp2_with (first | ((with_reducible refine listN F ?_); clear F; intro wN F) | ((with_reducible refine at_load rfl ?_); (with_reducible refine wpList_loadG F rfl rfl rfl m0 Tryd.underlying25 rfl uinfoDeedI rfl ?_)) | (go_at_call 21; ((with_reducible refine (HV.out _).mono ?_); rintro e w1 ⟨rfl, hl1⟩; replace F := F.le hl1; clear hl1)))
    first | (refine wpAt0 F ?_; clear F; intro wN F) | (refine wpAtN F ?_; clear F; intro wN F)
    have FD := F.drewN 1
    refine region_tailD (E := leX) (fun f args w v => v = .agg formsD) 5 (by kernel_rfl) (by kernel_rfl) ?_
    simp only [List.take_succ_cons, List.take_zero, List.drop_succ_cons, List.drop_zero]
    refine wpFreeD_callB rfl rfl Tryd.func22 (by kernel_rfl) (by kernel_rfl) (args := #[]) (by simp [Act.eval]) (fun v w1 w2 hw hv => hv) (fun w1 hw1 _ => (HF.out w1).mono ?_) ?_
    · rintro e w2 ⟨rfl, hl⟩
      exact ⟨_, rfl, hl, rfl⟩
    rintro v ⟨_, _, _, hv⟩
    replace hv : v = .agg formsD := hv
    subst hv
    simp only [Act.put, List.setIfInBounds_toArray, List.set_cons_succ, List.set_cons_zero]
    refine wpFreeD_one rfl (.pointer (some ⟨w.heap.size, 0, none⟩)) (fun w1 _ => by kernel_rfl) ?_
    simp only [Act.put, List.setIfInBounds_toArray, List.set_cons_succ, List.set_cons_zero]
    refine wpFreeD_load1 rfl rfl rfl (p := ⟨w.heap.size, 0, none⟩) (v := .int .i64 5) (fun w1 h1 => by rw [((FD.le h1).row m0).cell?]; rfl) ukindInt64 ?_
    simp only [Act.put, List.setIfInBounds_toArray, List.set_cons_succ, List.set_cons_zero]
    refine wpFreeD_one rfl (.agg #[.string ⟨#[100, 114, 111, 112]⟩, .int .i64 1]) (fun w1 _ => by kernel_rfl) ?_
    simp only [Act.put, List.setIfInBounds_toArray, List.set_cons_succ, List.set_cons_zero]
    refine wpFreeD_allocD rfl rfl #[.string ⟨#[]⟩, .int .i64 0] (fun w => by go_simp) (fun b0 => ?_)
    simp only [Act.put, List.setIfInBounds_toArray, List.set_cons_succ, List.set_cons_zero]
    refine wpFreeD_nil (fun wR hwR hF => ?_)
    obtain ⟨lb0, rb⟩ := (hF 4).2 rfl
    clear hF
    replace F : Frg w wR (rowF b0 57 #[.string ⟨#[]⟩, .int .i64 0] :: _) := F.rowS ((Frg.nil _).drewN 1 |>.le hwR).below (Nat.le_trans (by simp) lb0) rb
    clear hwR FD lb0 rb
    show wpList _ _ _ _ _ _
    refine wpList_storeD rfl rfl rfl (cells := #[.string ⟨#[100, 114, 111, 112]⟩, .int .i64 1]) rfl (F.row m0) infoFormI rfl (by (simp only [List.all_toArray', List.all_cons, List.all_nil, Bool.and_true, Bool.true_and]) <;> rfl) (fun w6 K => ?_)
    replace F := F.wrI0 K
    clear K
    go_wp2_with (first | ((with_reducible refine listN F ?_); clear F; intro wN F))
    first | (refine wpAt0 F ?_; clear F; intro wN F) | (refine wpAtN F ?_; clear F; intro wN F)
    have FD := F.drewN 1
    refine region_freeD (E := leX) (fun f args _ v => v = .string (decD args)) (by kernel_rfl) (by kernel_rfl) ?_
    refine wpFreeD_one rfl (.pointer (some ⟨b0, 0, none⟩)) (fun w1 _ => by kernel_rfl) ?_
    simp only [Act.put, List.setIfInBounds_toArray, List.set_cons_succ, List.set_cons_zero]
    refine wpFreeD_load1 rfl rfl rfl (p := ⟨b0, 0, none⟩) (v := .string ⟨#[100, 114, 111, 112]⟩) (fun w1 h1 => by rw [((FD.le h1).row m0).cell?]; rfl) ukindString ?_
    simp only [Act.put, List.setIfInBounds_toArray, List.set_cons_succ, List.set_cons_zero]
    refine wpFreeD_one rfl (.pointer (some ⟨w.heap.size, 1, none⟩)) (fun w1 _ => by kernel_rfl) ?_
    simp only [Act.put, List.setIfInBounds_toArray, List.set_cons_succ, List.set_cons_zero]
    refine wpFreeD_load1 rfl rfl rfl (p := ⟨w.heap.size, 1, none⟩) (v := .int .i64 (na : Nat)) (fun w1 h1 => by rw [((FD.le h1).row m1).cell?]; rfl) ukindInt64 ?_
    simp only [Act.put, List.setIfInBounds_toArray, List.set_cons_succ, List.set_cons_zero]
    refine wpFreeD_callB rfl rfl Tryd.func23 (by kernel_rfl) (by kernel_rfl) (args := #[.int .i64 (na : Nat)]) (by simp [Act.eval]) (fun v w1 w2 hw hv => hv) (fun w1 hw1 _ => (HD.out na (by omega) w1 (FD.le hw1).below).mono ?_) ?_
    · rintro e w2 ⟨rfl, hl⟩
      exact ⟨_, rfl, hl, rfl⟩
    rintro v ⟨_, _, _, hv⟩
    replace hv : v = .string (decT na) := hv
    subst hv
    simp only [Act.put, List.setIfInBounds_toArray, List.set_cons_succ, List.set_cons_zero]
    refine wpFreeD_one rfl (.pointer (some ⟨w.heap.size, 2, none⟩)) (fun w1 _ => by kernel_rfl) ?_
    simp only [Act.put, List.setIfInBounds_toArray, List.set_cons_succ, List.set_cons_zero]
    refine wpFreeD_load1 rfl rfl rfl (p := ⟨w.heap.size, 2, none⟩) (v := .int .i64 (nb : Nat)) (fun w1 h1 => by rw [((FD.le h1).row m1).cell?]; rfl) ukindInt64 ?_
    simp only [Act.put, List.setIfInBounds_toArray, List.set_cons_succ, List.set_cons_zero]
    refine wpFreeD_callB rfl rfl Tryd.func23 (by kernel_rfl) (by kernel_rfl) (args := #[.int .i64 (nb : Nat)]) (by simp [Act.eval]) (fun v w1 w2 hw hv => hv) (fun w1 hw1 _ => (HD.out nb (by omega) w1 (FD.le hw1).below).mono ?_) ?_
    · rintro e w2 ⟨rfl, hl⟩
      exact ⟨_, rfl, hl, rfl⟩
    rintro v ⟨_, _, _, hv⟩
    replace hv : v = .string (decT nb) := hv
    subst hv
    simp only [Act.put, List.setIfInBounds_toArray, List.set_cons_succ, List.set_cons_zero]
    refine wpFreeD_newN rfl (fun z => .slice (some ⟨z, 0, none⟩) 3 3) (fun b b' h => by simpa using h) 9 #[.string ⟨#[100, 114, 111, 112]⟩, .string (decT na), .string (decT nb)] (fun w1 => ?_) (fun z => ?_)
    · have hb := mkStrD ⟨#[100, 114, 111, 112]⟩ (decT na) (decT nb) w1
      simp [execOp, Act.eval, Result.andThen, hb]
    simp only [Act.put, List.setIfInBounds_toArray, List.set_cons_succ, List.set_cons_zero]
    refine wpFreeD_one rfl (.slice (some ⟨z, 0, none⟩) 3 3) (fun w1 _ => by kernel_rfl) ?_
    simp only [Act.put, List.setIfInBounds_toArray, List.set_cons_succ, List.set_cons_zero]
    refine wpFreeD_nil (fun wR hwR hF => ?_)
    obtain ⟨_, hq4⟩ := (hF 8).1.2 rfl
    clear hF
    replace F := FD.le hwR
    clear hwR FD
    have HJ := hid (run_Join z 0 3 [wordD 5, decT na] spB 2 rfl wR (fun j u hj => by
      rw [Nat.zero_add, hq4.cell?]
      match j, hj with
      | 0, hj => simp at hj; subst hj; rfl
      | 1, hj => simp at hj; subst hj; rfl
      | j + 2, hj => simp at hj) hq4.lt (by simp) (by decide) (Nat.le_trans (jnB_size spB 30 _ (fun x hx => by
        have zw : (wordD 5).size ≤ 30 := by decide
        simp only [List.mem_cons, List.not_mem_nil, or_false] at hx
        rcases hx with rfl | rfl <;> omega)) (by rw [show spB.size = 1 from rfl]; simp)))
    clear hq4
    go_wp2_with (first | ((with_reducible refine listN F ?_); clear F; intro wN F) | ((with_reducible refine at_load rfl ?_); (with_reducible refine wpList_load1C rfl (g := b0) (f := 1) rfl (v := .int .i64 1) (by kernel_rfl) (F.row m0) rfl kindND ?_)) | (go_at_call 24; (refine HJ.out.mono ?_; rintro e w1 ⟨rfl, hl1⟩; replace F := F.le hl1; clear hl1)))
    go_ret
    exact ⟨by rw [E.out]; rfl, F.below⟩
  rcases hk with rfl | hk
  · have F := (Frg.nil w).box 25 #[.int .i64 6, .int .i64 (na : Nat), .int .i64 (nb : Nat)]
    have E := hid (show deedT 6 (na : Int) (nb : Int) = jnB spB [wordD 6, decT na, decT nb] by unfold deedT; rw [← hv]; rfl)
    clear hv
    go_enter Tryd.func8, Tryd.ntmps8
    go_wp2_with (first | ((with_reducible refine listN F ?_); clear F; intro wN F) | ((with_reducible refine at_load rfl ?_); (with_reducible refine wpList_loadG F rfl rfl rfl m0 Tryd.underlying25 rfl uinfoDeedI rfl ?_)) | (go_at_call 21; ((with_reducible refine (HV.out _).mono ?_); rintro e w1 ⟨rfl, hl1⟩; replace F := F.le hl1; clear hl1)))
    first | (refine wpAt0 F ?_; clear F; intro wN F) | (refine wpAtN F ?_; clear F; intro wN F)
    have FD := F.drewN 1
    refine region_tailD (E := leX) (fun f args w v => v = .agg formsD) 5 (by kernel_rfl) (by kernel_rfl) ?_
    simp only [List.take_succ_cons, List.take_zero, List.drop_succ_cons, List.drop_zero]
    refine wpFreeD_callB rfl rfl Tryd.func22 (by kernel_rfl) (by kernel_rfl) (args := #[]) (by simp [Act.eval]) (fun v w1 w2 hw hv => hv) (fun w1 hw1 _ => (HF.out w1).mono ?_) ?_
    · rintro e w2 ⟨rfl, hl⟩
      exact ⟨_, rfl, hl, rfl⟩
    rintro v ⟨_, _, _, hv⟩
    replace hv : v = .agg formsD := hv
    subst hv
    simp only [Act.put, List.setIfInBounds_toArray, List.set_cons_succ, List.set_cons_zero]
    refine wpFreeD_one rfl (.pointer (some ⟨w.heap.size, 0, none⟩)) (fun w1 _ => by kernel_rfl) ?_
    simp only [Act.put, List.setIfInBounds_toArray, List.set_cons_succ, List.set_cons_zero]
    refine wpFreeD_load1 rfl rfl rfl (p := ⟨w.heap.size, 0, none⟩) (v := .int .i64 6) (fun w1 h1 => by rw [((FD.le h1).row m0).cell?]; rfl) ukindInt64 ?_
    simp only [Act.put, List.setIfInBounds_toArray, List.set_cons_succ, List.set_cons_zero]
    refine wpFreeD_one rfl (.agg #[.string ⟨#[115, 112, 111, 105, 108]⟩, .int .i64 2]) (fun w1 _ => by kernel_rfl) ?_
    simp only [Act.put, List.setIfInBounds_toArray, List.set_cons_succ, List.set_cons_zero]
    refine wpFreeD_allocD rfl rfl #[.string ⟨#[]⟩, .int .i64 0] (fun w => by go_simp) (fun b0 => ?_)
    simp only [Act.put, List.setIfInBounds_toArray, List.set_cons_succ, List.set_cons_zero]
    refine wpFreeD_nil (fun wR hwR hF => ?_)
    obtain ⟨lb0, rb⟩ := (hF 4).2 rfl
    clear hF
    replace F : Frg w wR (rowF b0 57 #[.string ⟨#[]⟩, .int .i64 0] :: _) := F.rowS ((Frg.nil _).drewN 1 |>.le hwR).below (Nat.le_trans (by simp) lb0) rb
    clear hwR FD lb0 rb
    show wpList _ _ _ _ _ _
    refine wpList_storeD rfl rfl rfl (cells := #[.string ⟨#[115, 112, 111, 105, 108]⟩, .int .i64 2]) rfl (F.row m0) infoFormI rfl (by (simp only [List.all_toArray', List.all_cons, List.all_nil, Bool.and_true, Bool.true_and]) <;> rfl) (fun w6 K => ?_)
    replace F := F.wrI0 K
    clear K
    go_wp2_with (first | ((with_reducible refine listN F ?_); clear F; intro wN F))
    first | (refine wpAt0 F ?_; clear F; intro wN F) | (refine wpAtN F ?_; clear F; intro wN F)
    have FD := F.drewN 1
    refine region_freeD (E := leX) (fun f args _ v => v = .string (decD args)) (by kernel_rfl) (by kernel_rfl) ?_
    refine wpFreeD_one rfl (.pointer (some ⟨b0, 0, none⟩)) (fun w1 _ => by kernel_rfl) ?_
    simp only [Act.put, List.setIfInBounds_toArray, List.set_cons_succ, List.set_cons_zero]
    refine wpFreeD_load1 rfl rfl rfl (p := ⟨b0, 0, none⟩) (v := .string ⟨#[115, 112, 111, 105, 108]⟩) (fun w1 h1 => by rw [((FD.le h1).row m0).cell?]; rfl) ukindString ?_
    simp only [Act.put, List.setIfInBounds_toArray, List.set_cons_succ, List.set_cons_zero]
    refine wpFreeD_one rfl (.pointer (some ⟨w.heap.size, 1, none⟩)) (fun w1 _ => by kernel_rfl) ?_
    simp only [Act.put, List.setIfInBounds_toArray, List.set_cons_succ, List.set_cons_zero]
    refine wpFreeD_load1 rfl rfl rfl (p := ⟨w.heap.size, 1, none⟩) (v := .int .i64 (na : Nat)) (fun w1 h1 => by rw [((FD.le h1).row m1).cell?]; rfl) ukindInt64 ?_
    simp only [Act.put, List.setIfInBounds_toArray, List.set_cons_succ, List.set_cons_zero]
    refine wpFreeD_callB rfl rfl Tryd.func23 (by kernel_rfl) (by kernel_rfl) (args := #[.int .i64 (na : Nat)]) (by simp [Act.eval]) (fun v w1 w2 hw hv => hv) (fun w1 hw1 _ => (HD.out na (by omega) w1 (FD.le hw1).below).mono ?_) ?_
    · rintro e w2 ⟨rfl, hl⟩
      exact ⟨_, rfl, hl, rfl⟩
    rintro v ⟨_, _, _, hv⟩
    replace hv : v = .string (decT na) := hv
    subst hv
    simp only [Act.put, List.setIfInBounds_toArray, List.set_cons_succ, List.set_cons_zero]
    refine wpFreeD_one rfl (.pointer (some ⟨w.heap.size, 2, none⟩)) (fun w1 _ => by kernel_rfl) ?_
    simp only [Act.put, List.setIfInBounds_toArray, List.set_cons_succ, List.set_cons_zero]
    refine wpFreeD_load1 rfl rfl rfl (p := ⟨w.heap.size, 2, none⟩) (v := .int .i64 (nb : Nat)) (fun w1 h1 => by rw [((FD.le h1).row m1).cell?]; rfl) ukindInt64 ?_
    simp only [Act.put, List.setIfInBounds_toArray, List.set_cons_succ, List.set_cons_zero]
    refine wpFreeD_callB rfl rfl Tryd.func23 (by kernel_rfl) (by kernel_rfl) (args := #[.int .i64 (nb : Nat)]) (by simp [Act.eval]) (fun v w1 w2 hw hv => hv) (fun w1 hw1 _ => (HD.out nb (by omega) w1 (FD.le hw1).below).mono ?_) ?_
    · rintro e w2 ⟨rfl, hl⟩
      exact ⟨_, rfl, hl, rfl⟩
    rintro v ⟨_, _, _, hv⟩
    replace hv : v = .string (decT nb) := hv
    subst hv
    simp only [Act.put, List.setIfInBounds_toArray, List.set_cons_succ, List.set_cons_zero]
    refine wpFreeD_newN rfl (fun z => .slice (some ⟨z, 0, none⟩) 3 3) (fun b b' h => by simpa using h) 9 #[.string ⟨#[115, 112, 111, 105, 108]⟩, .string (decT na), .string (decT nb)] (fun w1 => ?_) (fun z => ?_)
    · have hb := mkStrD ⟨#[115, 112, 111, 105, 108]⟩ (decT na) (decT nb) w1
      simp [execOp, Act.eval, Result.andThen, hb]
    simp only [Act.put, List.setIfInBounds_toArray, List.set_cons_succ, List.set_cons_zero]
    refine wpFreeD_one rfl (.slice (some ⟨z, 0, none⟩) 3 3) (fun w1 _ => by kernel_rfl) ?_
    simp only [Act.put, List.setIfInBounds_toArray, List.set_cons_succ, List.set_cons_zero]
    refine wpFreeD_nil (fun wR hwR hF => ?_)
    obtain ⟨_, hq4⟩ := (hF 8).1.2 rfl
    clear hF
    replace F := FD.le hwR
    clear hwR FD
    have HJ := hid (run_Join z 0 3 [wordD 6, decT na, decT nb] spB 3 rfl wR (fun j u hj => by
      rw [Nat.zero_add, hq4.cell?]
      match j, hj with
      | 0, hj => simp at hj; subst hj; rfl
      | 1, hj => simp at hj; subst hj; rfl
      | 2, hj => simp at hj; subst hj; rfl
      | j + 3, hj => simp at hj) hq4.lt (by simp) (by decide) (Nat.le_trans (jnB_size spB 30 _ (fun x hx => by
        have zw : (wordD 6).size ≤ 30 := by decide
        simp only [List.mem_cons, List.not_mem_nil, or_false] at hx
        rcases hx with rfl | rfl | rfl <;> omega)) (by rw [show spB.size = 1 from rfl]; simp)))
    clear hq4
    go_wp2_with (first | ((with_reducible refine listN F ?_); clear F; intro wN F) | ((with_reducible refine at_load rfl ?_); (with_reducible refine wpList_load1C rfl (g := b0) (f := 1) rfl (v := .int .i64 2) (by kernel_rfl) (F.row m0) rfl kindND ?_)) | (go_at_call 24; (refine HJ.out.mono ?_; rintro e w1 ⟨rfl, hl1⟩; replace F := F.le hl1; clear hl1)))
    go_ret
    exact ⟨by rw [E.out]; rfl, F.below⟩
  rcases hk with rfl | hk
  · have F := (Frg.nil w).box 25 #[.int .i64 7, .int .i64 (na : Nat), .int .i64 (nb : Nat)]
    have E := hid (show deedT 7 (na : Int) (nb : Int) = jnB spB [wordD 7] by unfold deedT; rw [← hv]; rfl)
    clear hv
    go_enter Tryd.func8, Tryd.ntmps8
    go_wp2_with (first | ((with_reducible refine listN F ?_); clear F; intro wN F) | ((with_reducible refine at_load rfl ?_); (with_reducible refine wpList_loadG F rfl rfl rfl m0 Tryd.underlying25 rfl uinfoDeedI rfl ?_)) | (go_at_call 21; ((with_reducible refine (HV.out _).mono ?_); rintro e w1 ⟨rfl, hl1⟩; replace F := F.le hl1; clear hl1)))
    first | (refine wpAt0 F ?_; clear F; intro wN F) | (refine wpAtN F ?_; clear F; intro wN F)
    have FD := F.drewN 1
    refine region_tailD (E := leX) (fun f args w v => v = .agg formsD) 5 (by kernel_rfl) (by kernel_rfl) ?_
    simp only [List.take_succ_cons, List.take_zero, List.drop_succ_cons, List.drop_zero]
    refine wpFreeD_callB rfl rfl Tryd.func22 (by kernel_rfl) (by kernel_rfl) (args := #[]) (by simp [Act.eval]) (fun v w1 w2 hw hv => hv) (fun w1 hw1 _ => (HF.out w1).mono ?_) ?_
    · rintro e w2 ⟨rfl, hl⟩
      exact ⟨_, rfl, hl, rfl⟩
    rintro v ⟨_, _, _, hv⟩
    replace hv : v = .agg formsD := hv
    subst hv
    simp only [Act.put, List.setIfInBounds_toArray, List.set_cons_succ, List.set_cons_zero]
    refine wpFreeD_one rfl (.pointer (some ⟨w.heap.size, 0, none⟩)) (fun w1 _ => by kernel_rfl) ?_
    simp only [Act.put, List.setIfInBounds_toArray, List.set_cons_succ, List.set_cons_zero]
    refine wpFreeD_load1 rfl rfl rfl (p := ⟨w.heap.size, 0, none⟩) (v := .int .i64 7) (fun w1 h1 => by rw [((FD.le h1).row m0).cell?]; rfl) ukindInt64 ?_
    simp only [Act.put, List.setIfInBounds_toArray, List.set_cons_succ, List.set_cons_zero]
    refine wpFreeD_one rfl (.agg #[.string ⟨#[115, 121, 110, 99]⟩, .int .i64 0]) (fun w1 _ => by kernel_rfl) ?_
    simp only [Act.put, List.setIfInBounds_toArray, List.set_cons_succ, List.set_cons_zero]
    refine wpFreeD_allocD rfl rfl #[.string ⟨#[]⟩, .int .i64 0] (fun w => by go_simp) (fun b0 => ?_)
    simp only [Act.put, List.setIfInBounds_toArray, List.set_cons_succ, List.set_cons_zero]
    refine wpFreeD_nil (fun wR hwR hF => ?_)
    obtain ⟨lb0, rb⟩ := (hF 4).2 rfl
    clear hF
    replace F : Frg w wR (rowF b0 57 #[.string ⟨#[]⟩, .int .i64 0] :: _) := F.rowS ((Frg.nil _).drewN 1 |>.le hwR).below (Nat.le_trans (by simp) lb0) rb
    clear hwR FD lb0 rb
    show wpList _ _ _ _ _ _
    refine wpList_storeD rfl rfl rfl (cells := #[.string ⟨#[115, 121, 110, 99]⟩, .int .i64 0]) rfl (F.row m0) infoFormI rfl (by (simp only [List.all_toArray', List.all_cons, List.all_nil, Bool.and_true, Bool.true_and]) <;> rfl) (fun w6 K => ?_)
    replace F := F.wrI0 K
    clear K
    go_wp2_with (first | ((with_reducible refine listN F ?_); clear F; intro wN F))
    first | (refine wpAt0 F ?_; clear F; intro wN F) | (refine wpAtN F ?_; clear F; intro wN F)
    have FD := F.drewN 1
    refine region_freeD (E := leX) (fun f args _ v => v = .string (decD args)) (by kernel_rfl) (by kernel_rfl) ?_
    refine wpFreeD_one rfl (.pointer (some ⟨b0, 0, none⟩)) (fun w1 _ => by kernel_rfl) ?_
    simp only [Act.put, List.setIfInBounds_toArray, List.set_cons_succ, List.set_cons_zero]
    refine wpFreeD_load1 rfl rfl rfl (p := ⟨b0, 0, none⟩) (v := .string ⟨#[115, 121, 110, 99]⟩) (fun w1 h1 => by rw [((FD.le h1).row m0).cell?]; rfl) ukindString ?_
    simp only [Act.put, List.setIfInBounds_toArray, List.set_cons_succ, List.set_cons_zero]
    refine wpFreeD_one rfl (.pointer (some ⟨w.heap.size, 1, none⟩)) (fun w1 _ => by kernel_rfl) ?_
    simp only [Act.put, List.setIfInBounds_toArray, List.set_cons_succ, List.set_cons_zero]
    refine wpFreeD_load1 rfl rfl rfl (p := ⟨w.heap.size, 1, none⟩) (v := .int .i64 (na : Nat)) (fun w1 h1 => by rw [((FD.le h1).row m1).cell?]; rfl) ukindInt64 ?_
    simp only [Act.put, List.setIfInBounds_toArray, List.set_cons_succ, List.set_cons_zero]
    refine wpFreeD_callB rfl rfl Tryd.func23 (by kernel_rfl) (by kernel_rfl) (args := #[.int .i64 (na : Nat)]) (by simp [Act.eval]) (fun v w1 w2 hw hv => hv) (fun w1 hw1 _ => (HD.out na (by omega) w1 (FD.le hw1).below).mono ?_) ?_
    · rintro e w2 ⟨rfl, hl⟩
      exact ⟨_, rfl, hl, rfl⟩
    rintro v ⟨_, _, _, hv⟩
    replace hv : v = .string (decT na) := hv
    subst hv
    simp only [Act.put, List.setIfInBounds_toArray, List.set_cons_succ, List.set_cons_zero]
    refine wpFreeD_one rfl (.pointer (some ⟨w.heap.size, 2, none⟩)) (fun w1 _ => by kernel_rfl) ?_
    simp only [Act.put, List.setIfInBounds_toArray, List.set_cons_succ, List.set_cons_zero]
    refine wpFreeD_load1 rfl rfl rfl (p := ⟨w.heap.size, 2, none⟩) (v := .int .i64 (nb : Nat)) (fun w1 h1 => by rw [((FD.le h1).row m1).cell?]; rfl) ukindInt64 ?_
    simp only [Act.put, List.setIfInBounds_toArray, List.set_cons_succ, List.set_cons_zero]
    refine wpFreeD_callB rfl rfl Tryd.func23 (by kernel_rfl) (by kernel_rfl) (args := #[.int .i64 (nb : Nat)]) (by simp [Act.eval]) (fun v w1 w2 hw hv => hv) (fun w1 hw1 _ => (HD.out nb (by omega) w1 (FD.le hw1).below).mono ?_) ?_
    · rintro e w2 ⟨rfl, hl⟩
      exact ⟨_, rfl, hl, rfl⟩
    rintro v ⟨_, _, _, hv⟩
    replace hv : v = .string (decT nb) := hv
    subst hv
    simp only [Act.put, List.setIfInBounds_toArray, List.set_cons_succ, List.set_cons_zero]
    refine wpFreeD_newN rfl (fun z => .slice (some ⟨z, 0, none⟩) 3 3) (fun b b' h => by simpa using h) 9 #[.string ⟨#[115, 121, 110, 99]⟩, .string (decT na), .string (decT nb)] (fun w1 => ?_) (fun z => ?_)
    · have hb := mkStrD ⟨#[115, 121, 110, 99]⟩ (decT na) (decT nb) w1
      simp [execOp, Act.eval, Result.andThen, hb]
    simp only [Act.put, List.setIfInBounds_toArray, List.set_cons_succ, List.set_cons_zero]
    refine wpFreeD_one rfl (.slice (some ⟨z, 0, none⟩) 3 3) (fun w1 _ => by kernel_rfl) ?_
    simp only [Act.put, List.setIfInBounds_toArray, List.set_cons_succ, List.set_cons_zero]
    refine wpFreeD_nil (fun wR hwR hF => ?_)
    obtain ⟨_, hq4⟩ := (hF 8).1.2 rfl
    clear hF
    replace F := FD.le hwR
    clear hwR FD
    have HJ := hid (run_Join z 0 3 [wordD 7] spB 1 rfl wR (fun j u hj => by
      rw [Nat.zero_add, hq4.cell?]
      match j, hj with
      | 0, hj => simp at hj; subst hj; rfl
      | j + 1, hj => simp at hj) hq4.lt (by simp) (by decide) (Nat.le_trans (jnB_size spB 30 _ (fun x hx => by
        have zw : (wordD 7).size ≤ 30 := by decide
        simp only [List.mem_cons, List.not_mem_nil, or_false] at hx
        rcases hx with rfl <;> omega)) (by rw [show spB.size = 1 from rfl]; simp)))
    clear hq4
    go_wp2_with (first | ((with_reducible refine listN F ?_); clear F; intro wN F) | ((with_reducible refine at_load rfl ?_); (with_reducible refine wpList_load1C rfl (g := b0) (f := 1) rfl (v := .int .i64 0) (by kernel_rfl) (F.row m0) rfl kindND ?_)) | (go_at_call 24; (refine HJ.out.mono ?_; rintro e w1 ⟨rfl, hl1⟩; replace F := F.le hl1; clear hl1)))
    go_ret
    exact ⟨by rw [E.out]; rfl, F.below⟩
  rcases hk with rfl | hk
  · have F := (Frg.nil w).box 25 #[.int .i64 8, .int .i64 (na : Nat), .int .i64 (nb : Nat)]
    have E := hid (show deedT 8 (na : Int) (nb : Int) = jnB spB [wordD 8] by unfold deedT; rw [← hv]; rfl)
    clear hv
    go_enter Tryd.func8, Tryd.ntmps8
    go_wp2_with (first | ((with_reducible refine listN F ?_); clear F; intro wN F) | ((with_reducible refine at_load rfl ?_); (with_reducible refine wpList_loadG F rfl rfl rfl m0 Tryd.underlying25 rfl uinfoDeedI rfl ?_)) | (go_at_call 21; ((with_reducible refine (HV.out _).mono ?_); rintro e w1 ⟨rfl, hl1⟩; replace F := F.le hl1; clear hl1)))
    first | (refine wpAt0 F ?_; clear F; intro wN F) | (refine wpAtN F ?_; clear F; intro wN F)
    have FD := F.drewN 1
    refine region_tailD (E := leX) (fun f args w v => v = .agg formsD) 5 (by kernel_rfl) (by kernel_rfl) ?_
    simp only [List.take_succ_cons, List.take_zero, List.drop_succ_cons, List.drop_zero]
    refine wpFreeD_callB rfl rfl Tryd.func22 (by kernel_rfl) (by kernel_rfl) (args := #[]) (by simp [Act.eval]) (fun v w1 w2 hw hv => hv) (fun w1 hw1 _ => (HF.out w1).mono ?_) ?_
    · rintro e w2 ⟨rfl, hl⟩
      exact ⟨_, rfl, hl, rfl⟩
    rintro v ⟨_, _, _, hv⟩
    replace hv : v = .agg formsD := hv
    subst hv
    simp only [Act.put, List.setIfInBounds_toArray, List.set_cons_succ, List.set_cons_zero]
    refine wpFreeD_one rfl (.pointer (some ⟨w.heap.size, 0, none⟩)) (fun w1 _ => by kernel_rfl) ?_
    simp only [Act.put, List.setIfInBounds_toArray, List.set_cons_succ, List.set_cons_zero]
    refine wpFreeD_load1 rfl rfl rfl (p := ⟨w.heap.size, 0, none⟩) (v := .int .i64 8) (fun w1 h1 => by rw [((FD.le h1).row m0).cell?]; rfl) ukindInt64 ?_
    simp only [Act.put, List.setIfInBounds_toArray, List.set_cons_succ, List.set_cons_zero]
    refine wpFreeD_one rfl (.agg #[.string ⟨#[99, 114, 97, 115, 104]⟩, .int .i64 0]) (fun w1 _ => by kernel_rfl) ?_
    simp only [Act.put, List.setIfInBounds_toArray, List.set_cons_succ, List.set_cons_zero]
    refine wpFreeD_allocD rfl rfl #[.string ⟨#[]⟩, .int .i64 0] (fun w => by go_simp) (fun b0 => ?_)
    simp only [Act.put, List.setIfInBounds_toArray, List.set_cons_succ, List.set_cons_zero]
    refine wpFreeD_nil (fun wR hwR hF => ?_)
    obtain ⟨lb0, rb⟩ := (hF 4).2 rfl
    clear hF
    replace F : Frg w wR (rowF b0 57 #[.string ⟨#[]⟩, .int .i64 0] :: _) := F.rowS ((Frg.nil _).drewN 1 |>.le hwR).below (Nat.le_trans (by simp) lb0) rb
    clear hwR FD lb0 rb
    show wpList _ _ _ _ _ _
    refine wpList_storeD rfl rfl rfl (cells := #[.string ⟨#[99, 114, 97, 115, 104]⟩, .int .i64 0]) rfl (F.row m0) infoFormI rfl (by (simp only [List.all_toArray', List.all_cons, List.all_nil, Bool.and_true, Bool.true_and]) <;> rfl) (fun w6 K => ?_)
    replace F := F.wrI0 K
    clear K
    go_wp2_with (first | ((with_reducible refine listN F ?_); clear F; intro wN F))
    first | (refine wpAt0 F ?_; clear F; intro wN F) | (refine wpAtN F ?_; clear F; intro wN F)
    have FD := F.drewN 1
    refine region_freeD (E := leX) (fun f args _ v => v = .string (decD args)) (by kernel_rfl) (by kernel_rfl) ?_
    refine wpFreeD_one rfl (.pointer (some ⟨b0, 0, none⟩)) (fun w1 _ => by kernel_rfl) ?_
    simp only [Act.put, List.setIfInBounds_toArray, List.set_cons_succ, List.set_cons_zero]
    refine wpFreeD_load1 rfl rfl rfl (p := ⟨b0, 0, none⟩) (v := .string ⟨#[99, 114, 97, 115, 104]⟩) (fun w1 h1 => by rw [((FD.le h1).row m0).cell?]; rfl) ukindString ?_
    simp only [Act.put, List.setIfInBounds_toArray, List.set_cons_succ, List.set_cons_zero]
    refine wpFreeD_one rfl (.pointer (some ⟨w.heap.size, 1, none⟩)) (fun w1 _ => by kernel_rfl) ?_
    simp only [Act.put, List.setIfInBounds_toArray, List.set_cons_succ, List.set_cons_zero]
    refine wpFreeD_load1 rfl rfl rfl (p := ⟨w.heap.size, 1, none⟩) (v := .int .i64 (na : Nat)) (fun w1 h1 => by rw [((FD.le h1).row m1).cell?]; rfl) ukindInt64 ?_
    simp only [Act.put, List.setIfInBounds_toArray, List.set_cons_succ, List.set_cons_zero]
    refine wpFreeD_callB rfl rfl Tryd.func23 (by kernel_rfl) (by kernel_rfl) (args := #[.int .i64 (na : Nat)]) (by simp [Act.eval]) (fun v w1 w2 hw hv => hv) (fun w1 hw1 _ => (HD.out na (by omega) w1 (FD.le hw1).below).mono ?_) ?_
    · rintro e w2 ⟨rfl, hl⟩
      exact ⟨_, rfl, hl, rfl⟩
    rintro v ⟨_, _, _, hv⟩
    replace hv : v = .string (decT na) := hv
    subst hv
    simp only [Act.put, List.setIfInBounds_toArray, List.set_cons_succ, List.set_cons_zero]
    refine wpFreeD_one rfl (.pointer (some ⟨w.heap.size, 2, none⟩)) (fun w1 _ => by kernel_rfl) ?_
    simp only [Act.put, List.setIfInBounds_toArray, List.set_cons_succ, List.set_cons_zero]
    refine wpFreeD_load1 rfl rfl rfl (p := ⟨w.heap.size, 2, none⟩) (v := .int .i64 (nb : Nat)) (fun w1 h1 => by rw [((FD.le h1).row m1).cell?]; rfl) ukindInt64 ?_
    simp only [Act.put, List.setIfInBounds_toArray, List.set_cons_succ, List.set_cons_zero]
    refine wpFreeD_callB rfl rfl Tryd.func23 (by kernel_rfl) (by kernel_rfl) (args := #[.int .i64 (nb : Nat)]) (by simp [Act.eval]) (fun v w1 w2 hw hv => hv) (fun w1 hw1 _ => (HD.out nb (by omega) w1 (FD.le hw1).below).mono ?_) ?_
    · rintro e w2 ⟨rfl, hl⟩
      exact ⟨_, rfl, hl, rfl⟩
    rintro v ⟨_, _, _, hv⟩
    replace hv : v = .string (decT nb) := hv
    subst hv
    simp only [Act.put, List.setIfInBounds_toArray, List.set_cons_succ, List.set_cons_zero]
    refine wpFreeD_newN rfl (fun z => .slice (some ⟨z, 0, none⟩) 3 3) (fun b b' h => by simpa using h) 9 #[.string ⟨#[99, 114, 97, 115, 104]⟩, .string (decT na), .string (decT nb)] (fun w1 => ?_) (fun z => ?_)
    · have hb := mkStrD ⟨#[99, 114, 97, 115, 104]⟩ (decT na) (decT nb) w1
      simp [execOp, Act.eval, Result.andThen, hb]
    simp only [Act.put, List.setIfInBounds_toArray, List.set_cons_succ, List.set_cons_zero]
    refine wpFreeD_one rfl (.slice (some ⟨z, 0, none⟩) 3 3) (fun w1 _ => by kernel_rfl) ?_
    simp only [Act.put, List.setIfInBounds_toArray, List.set_cons_succ, List.set_cons_zero]
    refine wpFreeD_nil (fun wR hwR hF => ?_)
    obtain ⟨_, hq4⟩ := (hF 8).1.2 rfl
    clear hF
    replace F := FD.le hwR
    clear hwR FD
    have HJ := hid (run_Join z 0 3 [wordD 8] spB 1 rfl wR (fun j u hj => by
      rw [Nat.zero_add, hq4.cell?]
      match j, hj with
      | 0, hj => simp at hj; subst hj; rfl
      | j + 1, hj => simp at hj) hq4.lt (by simp) (by decide) (Nat.le_trans (jnB_size spB 30 _ (fun x hx => by
        have zw : (wordD 8).size ≤ 30 := by decide
        simp only [List.mem_cons, List.not_mem_nil, or_false] at hx
        rcases hx with rfl <;> omega)) (by rw [show spB.size = 1 from rfl]; simp)))
    clear hq4
    go_wp2_with (first | ((with_reducible refine listN F ?_); clear F; intro wN F) | ((with_reducible refine at_load rfl ?_); (with_reducible refine wpList_load1C rfl (g := b0) (f := 1) rfl (v := .int .i64 0) (by kernel_rfl) (F.row m0) rfl kindND ?_)) | (go_at_call 24; (refine HJ.out.mono ?_; rintro e w1 ⟨rfl, hl1⟩; replace F := F.le hl1; clear hl1)))
    go_ret
    exact ⟨by rw [E.out]; rfl, F.below⟩
  subst hk
  have F := (Frg.nil w).box 25 #[.int .i64 9, .int .i64 (na : Nat), .int .i64 (nb : Nat)]
  have E := hid (show deedT 9 (na : Int) (nb : Int) = jnB spB [wordD 9, decT na] by unfold deedT; rw [← hv]; rfl)
  clear hv
  go_enter Tryd.func8, Tryd.ntmps8
  go_wp2_with (first | ((with_reducible refine listN F ?_); clear F; intro wN F) | ((with_reducible refine at_load rfl ?_); (with_reducible refine wpList_loadG F rfl rfl rfl m0 Tryd.underlying25 rfl uinfoDeedI rfl ?_)) | (go_at_call 21; ((with_reducible refine (HV.out _).mono ?_); rintro e w1 ⟨rfl, hl1⟩; replace F := F.le hl1; clear hl1)))
  first | (refine wpAt0 F ?_; clear F; intro wN F) | (refine wpAtN F ?_; clear F; intro wN F)
  have FD := F.drewN 1
  refine region_tailD (E := leX) (fun f args w v => v = .agg formsD) 5 (by kernel_rfl) (by kernel_rfl) ?_
  simp only [List.take_succ_cons, List.take_zero, List.drop_succ_cons, List.drop_zero]
  refine wpFreeD_callB rfl rfl Tryd.func22 (by kernel_rfl) (by kernel_rfl) (args := #[]) (by simp [Act.eval]) (fun v w1 w2 hw hv => hv) (fun w1 hw1 _ => (HF.out w1).mono ?_) ?_
  · rintro e w2 ⟨rfl, hl⟩
    exact ⟨_, rfl, hl, rfl⟩
  rintro v ⟨_, _, _, hv⟩
  replace hv : v = .agg formsD := hv
  subst hv
  simp only [Act.put, List.setIfInBounds_toArray, List.set_cons_succ, List.set_cons_zero]
  refine wpFreeD_one rfl (.pointer (some ⟨w.heap.size, 0, none⟩)) (fun w1 _ => by kernel_rfl) ?_
  simp only [Act.put, List.setIfInBounds_toArray, List.set_cons_succ, List.set_cons_zero]
  refine wpFreeD_load1 rfl rfl rfl (p := ⟨w.heap.size, 0, none⟩) (v := .int .i64 9) (fun w1 h1 => by rw [((FD.le h1).row m0).cell?]; rfl) ukindInt64 ?_
  simp only [Act.put, List.setIfInBounds_toArray, List.set_cons_succ, List.set_cons_zero]
  refine wpFreeD_one rfl (.agg #[.string ⟨#[113, 117, 105, 116]⟩, .int .i64 1]) (fun w1 _ => by kernel_rfl) ?_
  simp only [Act.put, List.setIfInBounds_toArray, List.set_cons_succ, List.set_cons_zero]
  refine wpFreeD_allocD rfl rfl #[.string ⟨#[]⟩, .int .i64 0] (fun w => by go_simp) (fun b0 => ?_)
  simp only [Act.put, List.setIfInBounds_toArray, List.set_cons_succ, List.set_cons_zero]
  refine wpFreeD_nil (fun wR hwR hF => ?_)
  obtain ⟨lb0, rb⟩ := (hF 4).2 rfl
  clear hF
  replace F : Frg w wR (rowF b0 57 #[.string ⟨#[]⟩, .int .i64 0] :: _) := F.rowS ((Frg.nil _).drewN 1 |>.le hwR).below (Nat.le_trans (by simp) lb0) rb
  clear hwR FD lb0 rb
  show wpList _ _ _ _ _ _
  refine wpList_storeD rfl rfl rfl (cells := #[.string ⟨#[113, 117, 105, 116]⟩, .int .i64 1]) rfl (F.row m0) infoFormI rfl (by (simp only [List.all_toArray', List.all_cons, List.all_nil, Bool.and_true, Bool.true_and]) <;> rfl) (fun w6 K => ?_)
  replace F := F.wrI0 K
  clear K
  go_wp2_with (first | ((with_reducible refine listN F ?_); clear F; intro wN F))
  first | (refine wpAt0 F ?_; clear F; intro wN F) | (refine wpAtN F ?_; clear F; intro wN F)
  have FD := F.drewN 1
  refine region_freeD (E := leX) (fun f args _ v => v = .string (decD args)) (by kernel_rfl) (by kernel_rfl) ?_
  refine wpFreeD_one rfl (.pointer (some ⟨b0, 0, none⟩)) (fun w1 _ => by kernel_rfl) ?_
  simp only [Act.put, List.setIfInBounds_toArray, List.set_cons_succ, List.set_cons_zero]
  refine wpFreeD_load1 rfl rfl rfl (p := ⟨b0, 0, none⟩) (v := .string ⟨#[113, 117, 105, 116]⟩) (fun w1 h1 => by rw [((FD.le h1).row m0).cell?]; rfl) ukindString ?_
  simp only [Act.put, List.setIfInBounds_toArray, List.set_cons_succ, List.set_cons_zero]
  refine wpFreeD_one rfl (.pointer (some ⟨w.heap.size, 1, none⟩)) (fun w1 _ => by kernel_rfl) ?_
  simp only [Act.put, List.setIfInBounds_toArray, List.set_cons_succ, List.set_cons_zero]
  refine wpFreeD_load1 rfl rfl rfl (p := ⟨w.heap.size, 1, none⟩) (v := .int .i64 (na : Nat)) (fun w1 h1 => by rw [((FD.le h1).row m1).cell?]; rfl) ukindInt64 ?_
  simp only [Act.put, List.setIfInBounds_toArray, List.set_cons_succ, List.set_cons_zero]
  refine wpFreeD_callB rfl rfl Tryd.func23 (by kernel_rfl) (by kernel_rfl) (args := #[.int .i64 (na : Nat)]) (by simp [Act.eval]) (fun v w1 w2 hw hv => hv) (fun w1 hw1 _ => (HD.out na (by omega) w1 (FD.le hw1).below).mono ?_) ?_
  · rintro e w2 ⟨rfl, hl⟩
    exact ⟨_, rfl, hl, rfl⟩
  rintro v ⟨_, _, _, hv⟩
  replace hv : v = .string (decT na) := hv
  subst hv
  simp only [Act.put, List.setIfInBounds_toArray, List.set_cons_succ, List.set_cons_zero]
  refine wpFreeD_one rfl (.pointer (some ⟨w.heap.size, 2, none⟩)) (fun w1 _ => by kernel_rfl) ?_
  simp only [Act.put, List.setIfInBounds_toArray, List.set_cons_succ, List.set_cons_zero]
  refine wpFreeD_load1 rfl rfl rfl (p := ⟨w.heap.size, 2, none⟩) (v := .int .i64 (nb : Nat)) (fun w1 h1 => by rw [((FD.le h1).row m1).cell?]; rfl) ukindInt64 ?_
  simp only [Act.put, List.setIfInBounds_toArray, List.set_cons_succ, List.set_cons_zero]
  refine wpFreeD_callB rfl rfl Tryd.func23 (by kernel_rfl) (by kernel_rfl) (args := #[.int .i64 (nb : Nat)]) (by simp [Act.eval]) (fun v w1 w2 hw hv => hv) (fun w1 hw1 _ => (HD.out nb (by omega) w1 (FD.le hw1).below).mono ?_) ?_
  · rintro e w2 ⟨rfl, hl⟩
    exact ⟨_, rfl, hl, rfl⟩
  rintro v ⟨_, _, _, hv⟩
  replace hv : v = .string (decT nb) := hv
  subst hv
  simp only [Act.put, List.setIfInBounds_toArray, List.set_cons_succ, List.set_cons_zero]
  refine wpFreeD_newN rfl (fun z => .slice (some ⟨z, 0, none⟩) 3 3) (fun b b' h => by simpa using h) 9 #[.string ⟨#[113, 117, 105, 116]⟩, .string (decT na), .string (decT nb)] (fun w1 => ?_) (fun z => ?_)
  · have hb := mkStrD ⟨#[113, 117, 105, 116]⟩ (decT na) (decT nb) w1
    simp [execOp, Act.eval, Result.andThen, hb]
  simp only [Act.put, List.setIfInBounds_toArray, List.set_cons_succ, List.set_cons_zero]
  refine wpFreeD_one rfl (.slice (some ⟨z, 0, none⟩) 3 3) (fun w1 _ => by kernel_rfl) ?_
  simp only [Act.put, List.setIfInBounds_toArray, List.set_cons_succ, List.set_cons_zero]
  refine wpFreeD_nil (fun wR hwR hF => ?_)
  obtain ⟨_, hq4⟩ := (hF 8).1.2 rfl
  clear hF
  replace F := FD.le hwR
  clear hwR FD
  have HJ := hid (run_Join z 0 3 [wordD 9, decT na] spB 2 rfl wR (fun j u hj => by
    rw [Nat.zero_add, hq4.cell?]
    match j, hj with
    | 0, hj => simp at hj; subst hj; rfl
    | 1, hj => simp at hj; subst hj; rfl
    | j + 2, hj => simp at hj) hq4.lt (by simp) (by decide) (Nat.le_trans (jnB_size spB 30 _ (fun x hx => by
      have zw : (wordD 9).size ≤ 30 := by decide
      simp only [List.mem_cons, List.not_mem_nil, or_false] at hx
      rcases hx with rfl | rfl <;> omega)) (by rw [show spB.size = 1 from rfl]; simp)))
  clear hq4
  go_wp2_with (first | ((with_reducible refine listN F ?_); clear F; intro wN F) | ((with_reducible refine at_load rfl ?_); (with_reducible refine wpList_load1C rfl (g := b0) (f := 1) rfl (v := .int .i64 1) (by kernel_rfl) (F.row m0) rfl kindND ?_)) | (go_at_call 24; (refine HJ.out.mono ?_; rintro e w1 ⟨rfl, hl1⟩; replace F := F.le hl1; clear hl1)))
  go_ret
  exact ⟨by rw [E.out]; rfl, F.below⟩
end Go.Proofs.YtogledmlbcmkjaaDoor

/- strings.Cut at blanks; what is cut. -/
namespace Go.Fk
open Go Go.RowKit
theorem byteN_at {s : ByteArray} {i : Nat} (h : i < s.data.toList.length) : byteN s i = (s.data.toList[i]'h).toNat := by
  unfold byteN; rw [List.getD, List.getElem?_eq_getElem h]; rfl
theorem sz_list (s : ByteArray) : s.data.toList.length = s.size := by rw [Array.length_toList]; rfl
theorem ba_bytes {a b : ByteArray} (h : a.size = b.size) (hb : ∀ i, i < a.size → byteN a i = byteN b i) : a = b := by
  apply ba_ext
  apply List.ext_getElem
  · rw [sz_list, sz_list, h]
  · intro i h1 h2
    have := hb i (by rw [← sz_list]; exact h1)
    rw [byteN_at h1, byteN_at h2] at this
    exact UInt8.toNat.inj this
theorem app_size (a b : ByteArray) : (a ++ b).size = a.size + b.size := ByteArray.size_append
theorem app_list (a b : ByteArray) : (a ++ b).data.toList = a.data.toList ++ b.data.toList := by simp
theorem app_left {a b : ByteArray} {i : Nat} (h : i < a.size) : byteN (a ++ b) i = byteN a i := by
  unfold byteN; rw [app_list, List.getD, List.getD, List.getElem?_append_left (by rw [sz_list]; exact h)]
theorem app_right {a b : ByteArray} {i : Nat} (h : a.size ≤ i) : byteN (a ++ b) i = byteN b (i - a.size) := by
  unfold byteN; rw [app_list, List.getD, List.getD, List.getElem?_append_right (by rw [sz_list]; exact h), sz_list]
def noSp (x : ByteArray) : Prop := ∀ i, i < x.size → byteN x i ≠ 32
/-- Where the first blank is. -/
def cutP (s : ByteArray) : Nat → Option Nat
  | 0 => none
  | n + 1 => match cutP s n with
    | some p => some p
    | none => if byteN s n = 32 then some n else none
theorem cutP_none {s : ByteArray} : ∀ {n : Nat}, cutP s n = none → ∀ i, i < n → byteN s i ≠ 32
  | 0, _, i, h => absurd h (by omega)
  | n + 1, e, i, h => by
    unfold cutP at e
    cases hc : cutP s n with
    | some p => rw [hc] at e; cases e
    | none =>
      rw [hc] at e
      simp only at e
      split at e
      · cases e
      · rename_i hx
        rcases Nat.lt_succ_iff_lt_or_eq.1 h with h | rfl
        · exact cutP_none hc i h
        · exact hx
theorem cutP_some {s : ByteArray} : ∀ {n p : Nat}, cutP s n = some p → p < n ∧ byteN s p = 32 ∧ ∀ i, i < p → byteN s i ≠ 32
  | 0, p, e => by cases e
  | n + 1, p, e => by
    unfold cutP at e
    cases hc : cutP s n with
    | some q =>
      rw [hc] at e
      simp only [Option.some.injEq] at e
      subst e
      obtain ⟨h1, h2, h3⟩ := cutP_some hc
      exact ⟨by omega, h2, h3⟩
    | none =>
      rw [hc] at e
      simp only at e
      split at e
      · rename_i hx
        simp only [Option.some.injEq] at e
        subst e
        exact ⟨by omega, hx, cutP_none hc⟩
      · cases e
def cutA (s : ByteArray) : ByteArray := match cutP s s.size with | some p => s.extract 0 p | none => s
def cutB (s : ByteArray) : ByteArray := match cutP s s.size with | some p => s.extract (p + 1) s.size | none => ⟨#[]⟩
theorem cutA_one {x : ByteArray} (h : noSp x) : cutA x = x := by
  unfold cutA
  cases hc : cutP x x.size with
  | none => rfl
  | some p => obtain ⟨h1, h2, _⟩ := cutP_some hc; exact absurd h2 (h p h1)
theorem cutB_one {x : ByteArray} (h : noSp x) : cutB x = ⟨#[]⟩ := by
  unfold cutB
  cases hc : cutP x x.size with
  | none => rfl
  | some p => obtain ⟨h1, h2, _⟩ := cutP_some hc; exact absurd h2 (h p h1)
theorem cutP_app {x y : ByteArray} (h : noSp x) : cutP (x ++ (spB ++ y)) (x ++ (spB ++ y)).size = some x.size := by
  have hsp : spB.size = 1 := rfl
  have e32 : byteN (x ++ (spB ++ y)) x.size = 32 := by
    rw [app_right (Nat.le_refl _), Nat.sub_self, app_left (by rw [hsp]; omega)]; rfl
  have hb : ∀ i, i < x.size → byteN (x ++ (spB ++ y)) i ≠ 32 := fun i hi => by rw [app_left hi]; exact h i hi
  cases hc : cutP (x ++ (spB ++ y)) (x ++ (spB ++ y)).size with
  | none => exact absurd e32 (cutP_none hc _ (by rw [app_size, app_size, hsp]; omega))
  | some p =>
    obtain ⟨h1, h2, h3⟩ := cutP_some hc
    rcases Nat.lt_trichotomy p x.size with hp | hp | hp
    · exact absurd h2 (hb p hp)
    · rw [hp]
    · exact absurd e32 (h3 _ hp)
theorem cutA_app {x y : ByteArray} (h : noSp x) : cutA (x ++ (spB ++ y)) = x := by
  have hsz : x.size ≤ (x ++ (spB ++ y)).size := by rw [app_size]; omega
  unfold cutA
  rw [cutP_app h]
  exact ba_bytes (by rw [ext_size (Nat.zero_le _) hsz]; omega) (fun i hi => by
    rw [ext_size (Nat.zero_le _) hsz] at hi
    rw [ext_byte (by omega) hsz, Nat.zero_add, app_left (by omega)])
theorem cutB_app {x y : ByteArray} (h : noSp x) : cutB (x ++ (spB ++ y)) = y := by
  have hsp : spB.size = 1 := rfl
  have hsz : (x ++ (spB ++ y)).size = x.size + 1 + y.size := by rw [app_size, app_size, hsp]; omega
  unfold cutB
  rw [cutP_app h]
  exact ba_bytes (by simp only []; rw [ext_size (by omega) (Nat.le_refl _)]; omega) (fun i hi => by
    simp only [] at hi ⊢
    rw [ext_size (by omega) (Nat.le_refl _)] at hi
    rw [ext_byte (by omega) (Nat.le_refl _), app_right (by omega), app_right (by rw [hsp]; omega), hsp, show x.size + 1 + i - x.size - 1 = i by omega])
theorem ext_le (s : ByteArray) (a b : Nat) : (s.extract a b).size ≤ s.size := by
  rw [ByteArray.size_extract]; omega
theorem cutA_size (s : ByteArray) : (cutA s).size ≤ s.size := by
  unfold cutA; split
  · exact ext_le _ _ _
  · exact Nat.le_refl _
theorem cutB_size (s : ByteArray) : (cutB s).size ≤ s.size := by
  unfold cutB; split
  · exact ext_le _ _ _
  · exact Nat.zero_le _
end Go.Fk
namespace Go.Proofs.YtogledmlbcmkjaaDoor
open Go.RowKit Go.Fk
set_option maxRecDepth 100000 in
set_option maxHeartbeats 2000000 in
theorem i_Index32 (s : ByteArray) (i : Int) (w : World) (hi : Lib.indexByte s.data.toList 32 = i) : Calls Tryd.prog 69 #[.string s, .string ⟨#[32]⟩] w fun e w' => e = .returned (.int .i64 i) ∧ w = w' := by
  cases hb : ([32] == s.toList)
  · subst hi
    go_enter Tryd.func69, Tryd.ntmps69
    go_wp2_with (go_at_call 84; ((refine (i_IndexByteS _ _ _).mono ?_); rintro e w1 ⟨rfl, rfl⟩))
    go_ret
    exact ⟨rfl, rfl⟩
  · have e0 : i = 0 := by
      have e : s.toList = [32] := (by simpa using hb : [32] = s.toList).symm
      rw [ByteArray.toList_eq] at e
      rw [← hi, e]; decide
    subst e0
    clear hi
    go_enter Tryd.func69, Tryd.ntmps69
    go_wp2
    go_ret
    exact ⟨rfl, rfl⟩
set_option maxRecDepth 100000 in
set_option maxHeartbeats 2000000 in
theorem i_CutL32_no (s : ByteArray) (w : World) (h : ∀ i, i < s.size → byteN s i ≠ 32) : Calls Tryd.prog 50 #[.string s, .string ⟨#[32]⟩] w fun e w' => e = .returned (.tuple #[.string s, .string ⟨#[]⟩, .bool false]) ∧ le w w' := by
  have HI := hid (fun w' => i_Index32 s (-1) w' (idx_none h))
  clear h
  go_enter Tryd.func50, Tryd.ntmps50
  go_wp2_with (go_at_call 69; ((with_reducible refine (HI.out _).mono ?_); rintro e w1 ⟨rfl, rfl⟩))
  go_ret3
  exact ⟨rfl, le_refl _⟩
set_option maxRecDepth 100000 in
set_option maxHeartbeats 2000000 in
theorem i_CutL32_yes (s : ByteArray) (p : Nat) (w : World) (hs : s.size ≤ maxLen) (hp : p < s.size) (h0 : byteN s p = 32) (h : ∀ i, i < p → byteN s i ≠ 32) : Calls Tryd.prog 50 #[.string s, .string ⟨#[32]⟩] w fun e w' => e = .returned (.tuple #[.string (s.extract 0 p), .string (s.extract (p + 1) s.size), .bool true]) ∧ le w w' := by
  unfold maxLen at hs
  have HI := hid (fun w' => i_Index32 s p w' (idx_some hp h0 h))
  have c1 : (0 : Int) ≤ (p : Int) := by omega
  have c2 : (p : Int) ≤ (s.size : Int) := by omega
  have c3 : (0 : Int) ≤ (p : Int) + 1 := by omega
  have c4 : (p : Int) + 1 ≤ (s.size : Int) := by omega
  clear h h0
  go_enter Tryd.func50, Tryd.ntmps50
  go_wp2_with (go_at_call 69; ((with_reducible refine (HI.out _).mono ?_); rintro e w1 ⟨rfl, rfl⟩))
  go_big_quiet (fail)
  go_wp2
  go_ret3
  exact ⟨rfl, le_drewN _ _⟩
theorem i_Cut32_no (s : ByteArray) (w : World) (h : ∀ i, i < s.size → byteN s i ≠ 32) : Calls Tryd.prog 27 #[.string s, .string ⟨#[32]⟩] w fun e w' => e = .returned (.tuple #[.string s, .string ⟨#[]⟩, .bool false]) ∧ le w w' := by
  have HI := hid (fun w' => i_CutL32_no s w' h)
  clear h
  go_enter Tryd.func27, Tryd.ntmps27
  go_wp2_with (go_at_call 50; ((with_reducible refine (HI.out _).mono ?_); rintro e w1 ⟨rfl, hl⟩; replace hl := hid hl))
  go_ret3
  exact ⟨rfl, hl.out⟩
theorem i_Cut32_yes (s : ByteArray) (p : Nat) (w : World) (hs : s.size ≤ maxLen) (hp : p < s.size) (h0 : byteN s p = 32) (h : ∀ i, i < p → byteN s i ≠ 32) : Calls Tryd.prog 27 #[.string s, .string ⟨#[32]⟩] w fun e w' => e = .returned (.tuple #[.string (s.extract 0 p), .string (s.extract (p + 1) s.size), .bool true]) ∧ le w w' := by
  have HI := hid (fun w' => i_CutL32_yes s p w' hs hp h0 h)
  clear h h0 hs hp
  go_enter Tryd.func27, Tryd.ntmps27
  go_wp2_with (go_at_call 50; ((with_reducible refine (HI.out _).mono ?_); rintro e w1 ⟨rfl, hl⟩; replace hl := hid hl))
  go_ret3
  exact ⟨rfl, hl.out⟩
theorem i_Cut32 (s : ByteArray) (w : World) (hs : s.size ≤ maxLen) : Calls Tryd.prog 27 #[.string s, .string ⟨#[32]⟩] w fun e w' => ∃ f, e = .returned (.tuple #[.string (cutA s), .string (cutB s), .bool f]) ∧ le w w' := by
  unfold cutA cutB
  cases hc : cutP s s.size with
  | none => exact (i_Cut32_no s w (cutP_none hc)).mono (fun e w' ⟨h1, h2⟩ => ⟨_, h1, h2⟩)
  | some p =>
    obtain ⟨h1, h2, h3⟩ := cutP_some hc
    exact (i_Cut32_yes s p w hs h1 h2 h3).mono (fun e w' ⟨h1, h2⟩ => ⟨_, h1, h2⟩)
end Go.Proofs.YtogledmlbcmkjaaDoor

/- What a text of a deed has: its words and its numbers. -/
namespace Go.Fk
open Go Go.RowKit
/-- A number of three digits at most, digit by digit. -/
def decL (n : Nat) : ByteArray := if n < 10 then ⟨#[UInt8.ofNat (48 + n)]⟩ else if n < 100 then ⟨#[UInt8.ofNat (48 + n / 10), UInt8.ofNat (48 + n % 10)]⟩ else ⟨#[UInt8.ofNat (48 + n / 100), UInt8.ofNat (48 + n / 10 % 10), UInt8.ofNat (48 + n % 10)]⟩
theorem decT_L {n : Nat} (h : n < 1000) : decT n = decL n := by
  unfold decL
  split
  · rename_i h1
    rw [decT_small h1]; rfl
  · rename_i h1
    rw [← decT_big h1]
    split
    · rename_i h2
      rw [decT_small (by omega)]
      apply ba_ext; simp [oneB]
    · rename_i h2
      rw [← decT_big (n := n / 10) (by omega), decT_small (by omega), Nat.div_div_eq_div_mul]
      apply ba_ext; simp [oneB]
set_option maxRecDepth 100000 in
theorem decL_ok : (List.range 1000).all (fun n => okW (decL n) && decide (wholeN (decL n) = (n : Int)) && decide ((decL n).size ≤ 3) && (decL n).data.toList.all (fun b => b.toNat != 32)) = true := by decide +kernel
theorem decT_ok {n : Nat} (h : n ≤ 999) : okW (decT n) = true ∧ wholeN (decT n) = (n : Int) ∧ (decT n).size ≤ 3 ∧ noSp (decT n) := by
  have := List.all_eq_true.1 decL_ok n (List.mem_range.2 (by omega))
  rw [← decT_L (by omega)] at this
  simp only [Bool.and_eq_true, decide_eq_true_eq] at this
  obtain ⟨⟨⟨h1, h2⟩, h3⟩, h4⟩ := this
  refine ⟨h1, h2, h3, fun i hi e => ?_⟩
  have hl : i < (decT n).data.toList.length := by rw [sz_list]; exact hi
  have := List.all_eq_true.1 h4 _ (List.getElem_mem hl)
  rw [byteN_at hl] at e
  rw [e] at this
  exact absurd this (by decide)
theorem ext_shift {x y : ByteArray} {q m : Nat} (hq : q ≤ m) (hm : m ≤ y.size) : (x ++ (spB ++ y)).extract (x.size + 1 + q) (x.size + 1 + m) = y.extract q m := by
  have hsp : spB.size = 1 := rfl
  have hsz : (x ++ (spB ++ y)).size = x.size + 1 + y.size := by rw [app_size, app_size, hsp]; omega
  refine ba_bytes (by rw [ext_size (by omega) (by omega), ext_size hq hm]; omega) (fun i hi => ?_)
  rw [ext_size (by omega) (by omega)] at hi
  rw [ext_byte (by omega) (by omega), ext_byte (by omega) hm, app_right (by omega), app_right (by rw [hsp]; omega), hsp]
  congr 1; omega
theorem ext_head {x y : ByteArray} : (x ++ y).extract 0 x.size = x := by
  have hsz : x.size ≤ (x ++ y).size := by rw [app_size]; omega
  exact ba_bytes (by rw [ext_size (Nat.zero_le _) hsz]; omega) (fun i hi => by
    rw [ext_size (Nat.zero_le _) hsz] at hi
    rw [ext_byte (by omega) hsz, Nat.zero_add, app_left (by omega)])
theorem ext_all {x : ByteArray} : x.extract 0 x.size = x :=
  ba_bytes (by rw [ext_size (Nat.zero_le _) (Nat.le_refl _)]; omega) (fun i hi => by
    rw [ext_size (Nat.zero_le _) (Nat.le_refl _)] at hi
    rw [ext_byte (by omega) (Nat.le_refl _), Nat.zero_add])
theorem spl_none {s : ByteArray} : ∀ {k : Nat}, (∀ i, i < k → byteN s i ≠ 32) → splN s 32 k = ([], 0)
  | 0, _ => rfl
  | k + 1, h => by
    unfold splN
    rw [if_neg (h k (by omega)), spl_none (fun i hi => h i (by omega))]
theorem spl_one {x : ByteArray} (h : noSp x) : splL x 32 = [x] := by
  unfold splL
  rw [spl_none h]
  simp only [List.nil_append]
  rw [ext_all]
theorem spl_app {x y : ByteArray} (h : noSp x) : splL (x ++ (spB ++ y)) 32 = x :: splL y 32 := by
  have hsp : spB.size = 1 := rfl
  have hsz : (x ++ (spB ++ y)).size = x.size + 1 + y.size := by rw [app_size, app_size, hsp]; omega
  have c1 : splN (x ++ (spB ++ y)) 32 x.size = ([], 0) := spl_none (fun i hi => by rw [app_left hi]; exact h i hi)
  have e32 : byteN (x ++ (spB ++ y)) x.size = 32 := by
    rw [app_right (Nat.le_refl _), Nat.sub_self, app_left (by rw [hsp]; omega)]; rfl
  have c2 : splN (x ++ (spB ++ y)) 32 (x.size + 1) = ([x], x.size + 1) := by
    unfold splN
    rw [if_pos e32, c1]
    simp only [List.nil_append]
    rw [ext_head]
  have c3 : ∀ m, m ≤ y.size → splN (x ++ (spB ++ y)) 32 (x.size + 1 + m) = (x :: (splN y 32 m).1, x.size + 1 + (splN y 32 m).2) := by
    intro m
    induction m with
    | zero => intro _; rw [Nat.add_zero, c2]; rfl
    | succ m ih =>
      intro hm
      have ih := ih (by omega)
      have eb : byteN (x ++ (spB ++ y)) (x.size + 1 + m) = byteN y m := by
        rw [app_right (by omega), app_right (by rw [hsp]; omega), hsp]; congr 1; omega
      rw [← Nat.add_assoc]
      simp only [splN]
      rw [eb, ih]
      split
      · simp only [List.cons_append]
        rw [ext_shift (splN_from m) (by omega), ← Nat.add_assoc]
      · rfl
  unfold splL
  rw [hsz, c3 _ (Nat.le_refl _)]
  simp only [List.cons_append]
  rw [ext_shift (splN_from _) (Nat.le_refl _)]
/-- The words of a text, empty ones behind them. -/
def wrdL (t : ByteArray) : List ByteArray := splL t 32 ++ [⟨#[]⟩, ⟨#[]⟩]
def wrd (t : ByteArray) (i : Nat) : ByteArray := (wrdL t).getD i ⟨#[]⟩
/-- A text is that of a valid deed. -/
def PD (t : ByteArray) (k a b : Int) : Prop := okD k a b = true ∧ deedT k a b = t
theorem isD_no {a : Int} (h : isD a false = true) : a = 0 := by
  unfold isD at h
  simpa using h
theorem whole_nil : wholeN ⟨#[]⟩ = 0 := by decide
theorem noSp_nil : noSp ⟨#[]⟩ := fun i hi => absurd hi (Nat.not_lt_zero i)
structure Parts (t : ByteArray) (k a b : Int) : Prop where
  word : cutA t = wordD k
  first : wholeN (cutA (cutB t)) = a
  second : wholeN (cutB (cutB t)) = b
  size : t.size ≤ 40
  w0 : wrd t 0 = wordD k
  w1 : 1 ≤ numD k → okW (wrd t 1) = true ∧ wholeN (wrd t 1) = a
  w2 : 2 ≤ numD k → okW (wrd t 2) = true ∧ wholeN (wrd t 2) = b
  n0 : ¬ 1 ≤ numD k → a = 0
  n1 : ¬ 2 ≤ numD k → b = 0
theorem parts0 {x : ByteArray} {k : Int} (h : noSp x) (hk : wordD k = x) (hz : x.size ≤ 7) (hn : numD k = 0) : Parts x k 0 0 where
  word := by rw [cutA_one h, hk]
  first := by rw [cutB_one h, cutA_one noSp_nil, whole_nil]
  second := by rw [cutB_one h, cutB_one noSp_nil, whole_nil]
  size := by omega
  w0 := by unfold wrd wrdL; rw [spl_one h, hk]; rfl
  w1 := fun h => by omega
  w2 := fun h => by omega
  n0 := fun _ => rfl
  n1 := fun _ => rfl
theorem parts1 {x : ByteArray} {k : Int} {n : Nat} (h : noSp x) (hk : wordD k = x) (hz : x.size ≤ 7) (hn : numD k = 1) (h9 : n ≤ 999) : Parts (x ++ (spB ++ decT n)) k n 0 where
  word := by rw [cutA_app h, hk]
  first := by rw [cutB_app h, cutA_one (decT_ok h9).2.2.2, (decT_ok h9).2.1]
  second := by rw [cutB_app h, cutB_one (decT_ok h9).2.2.2, whole_nil]
  size := by have := (decT_ok h9).2.2.1; rw [app_size, app_size, show spB.size = 1 from rfl]; omega
  w0 := by unfold wrd wrdL; rw [spl_app h, hk]; rfl
  w1 := fun _ => by unfold wrd wrdL; rw [spl_app h, spl_one (decT_ok h9).2.2.2]; exact ⟨(decT_ok h9).1, (decT_ok h9).2.1⟩
  w2 := fun h => by omega
  n0 := fun h => by omega
  n1 := fun _ => rfl
theorem parts2 {x : ByteArray} {k : Int} {n m : Nat} (h : noSp x) (hk : wordD k = x) (hz : x.size ≤ 7) (hn : numD k = 2) (h9 : n ≤ 999) (m9 : m ≤ 999) : Parts (x ++ (spB ++ (decT n ++ (spB ++ decT m)))) k n m where
  word := by rw [cutA_app h, hk]
  first := by rw [cutB_app h, cutA_app (decT_ok h9).2.2.2, (decT_ok h9).2.1]
  second := by rw [cutB_app h, cutB_app (decT_ok h9).2.2.2, (decT_ok m9).2.1]
  size := by have := (decT_ok h9).2.2.1; have := (decT_ok m9).2.2.1; rw [app_size, app_size, app_size, app_size, show spB.size = 1 from rfl]; omega
  w0 := by unfold wrd wrdL; rw [spl_app h, hk]; rfl
  w1 := fun _ => by unfold wrd wrdL; rw [spl_app h, spl_app (decT_ok h9).2.2.2]; exact ⟨(decT_ok h9).1, (decT_ok h9).2.1⟩
  w2 := fun _ => by unfold wrd wrdL; rw [spl_app h, spl_app (decT_ok h9).2.2.2, spl_one (decT_ok m9).2.2.2]; exact ⟨(decT_ok m9).1, (decT_ok m9).2.1⟩
  n0 := fun h => by omega
  n1 := fun h => by omega
theorem pd_parts {t : ByteArray} {k a b : Int} (h : PD t k a b) : Parts t k a b := by
  obtain ⟨ho, rfl⟩ := h
  obtain ⟨hk, ⟨n, rfl, h9⟩, m, rfl, m9⟩ := okD_parts ho
  have hs := ho
  unfold okD at hs
  simp only [Bool.and_eq_true, decide_eq_true_eq] at hs
  obtain ⟨⟨_, ha⟩, hb⟩ := hs
  have E : deedT k (n : Int) (m : Int) = jnB spB (([wordD k, decT n, decT m] : List ByteArray).take (1 + (numD k).toNat)) := by unfold deedT; rw [ho]; rfl
  have hw : noSp (wordD k) ∧ (wordD k).size ≤ 7 := by
    rcases hk with rfl | rfl | rfl | rfl | rfl | rfl | rfl | rfl | rfl <;> exact ⟨by unfold noSp; decide, by decide⟩
  rcases numD_is k with hn | hn | hn
  · have ha : isD (n : Int) false = true := by rw [hn] at ha; exact ha
    have hb : isD (m : Int) false = true := by rw [hn] at hb; exact hb
    obtain rfl : m = 0 := by have := isD_no hb; omega
    obtain rfl : n = 0 := by have := isD_no ha; omega
    rw [E, hn, show jnB spB (([wordD k, decT 0, decT 0] : List ByteArray).take (1 + (0 : Int).toNat)) = wordD k from jnB_one _ _]
    exact parts0 hw.1 rfl hw.2 hn
  · have hb : isD (m : Int) false = true := by rw [hn] at hb; exact hb
    obtain rfl : m = 0 := by have := isD_no hb; omega
    rw [E, hn, show jnB spB (([wordD k, decT n, decT 0] : List ByteArray).take (1 + (1 : Int).toNat)) = wordD k ++ (spB ++ decT n) by
      rw [show ([wordD k, decT n, decT 0] : List ByteArray).take (1 + (1 : Int).toNat) = [wordD k, decT n] from rfl, jnB_cons, jnB_one]]
    exact parts1 hw.1 rfl hw.2 hn h9
  · rw [E, hn, show jnB spB (([wordD k, decT n, decT m] : List ByteArray).take (1 + (2 : Int).toNat)) = wordD k ++ (spB ++ (decT n ++ (spB ++ decT m))) by
      rw [show ([wordD k, decT n, decT m] : List ByteArray).take (1 + (2 : Int).toNat) = [wordD k, decT n, decT m] from rfl, jnB_cons, jnB_cons, jnB_one]]
    exact parts2 hw.1 rfl hw.2 hn h9 m9
theorem pd_uniq {t : ByteArray} {k a b k' a' b' : Int} (h : PD t k a b) (h' : PD t k' a' b') : k = k' ∧ a = a' ∧ b = b' := by
  have p := pd_parts h
  have p' := pd_parts h'
  refine ⟨?_, p.first.symm.trans p'.first, p.second.symm.trans p'.second⟩
  have e := p.word.symm.trans p'.word
  obtain ⟨hk, _⟩ := okD_parts h.1
  obtain ⟨hk', _⟩ := okD_parts h'.1
  rcases hk with rfl | rfl | rfl | rfl | rfl | rfl | rfl | rfl | rfl <;> rcases hk' with rfl | rfl | rfl | rfl | rfl | rfl | rfl | rfl | rfl <;> first | rfl | exact absurd e (by decide)
end Go.Fk

/- 'ReadDeed' of the program. -/
namespace Go.Fk
open Go Go.RowKit
theorem eqT_iff {a b : ByteArray} : eqT a b = true ↔ a = b := by
  unfold eqT
  rw [beq_iff_eq, ByteArray.toList_eq, ByteArray.toList_eq]
  exact ⟨fun h => ba_ext h, fun h => by rw [h]⟩
/-- Where a word stands among the forms. -/
def KIs (t : ByteArray) (r : Int) : Prop := (∃ j : Nat, j < 10 ∧ r = j ∧ wordD j = t) ∨ (r = -1 ∧ ∀ j : Nat, j < 10 → wordD j ≠ t)
def numI (j : Nat) : Int := if j = 0 then 0 else numD j
theorem forms_at {j : Nat} (h : j < 10) : ∀ q v, [Value.string (wordD j), .int .i64 (numI j)][q]? = some v → formsD[j * 2 + q]? = some v := by
  intro q v hq
  rcases q with _ | _ | q
  · simp only [List.getElem?_cons_zero, Option.some.injEq] at hq
    subst hq
    match j, h with
    | 0, _ => rfl
    | 1, _ => rfl
    | 2, _ => rfl
    | 3, _ => rfl
    | 4, _ => rfl
    | 5, _ => rfl
    | 6, _ => rfl
    | 7, _ => rfl
    | 8, _ => rfl
    | 9, _ => rfl
    | j + 10, h => omega
  · simp only [List.getElem?_cons_succ, List.getElem?_cons_zero, Option.some.injEq] at hq
    subst hq
    match j, h with
    | 0, _ => rfl
    | 1, _ => rfl
    | 2, _ => rfl
    | 3, _ => rfl
    | 4, _ => rfl
    | 5, _ => rfl
    | 6, _ => rfl
    | 7, _ => rfl
    | 8, _ => rfl
    | 9, _ => rfl
    | j + 10, h => omega
  · simp at hq
theorem formsD_all : formsD.all (·.oneCell') = true := by
  unfold formsD
  (simp only [List.all_toArray', List.all_cons, List.all_nil, Bool.and_true, Bool.true_and]) <;> rfl
def OutRD (t : ByteArray) (w : World) (e : Ending) (w' : World) : Prop := ∃ k a b c : Int, e = .returned (.tuple #[.agg #[.int .i64 k, .int .i64 a, .int .i64 b], .int .i64 c]) ∧ le w w' ∧ ((PD t k a b ∧ c = 0) ∨ ((∀ k' a' b', ¬ PD t k' a' b') ∧ k = 0 ∧ a = 0 ∧ b = 0 ∧ c = 5))
/-- What the program makes of a text is a deed of it, if any is. -/
theorem pd_only {t : ByteArray} {r : Int} (hr : KIs (cutA t) r) {k a b : Int} (h : PD t k a b) : k = r ∧ a = wholeN (cutA (cutB t)) ∧ b = wholeN (cutB (cutB t)) := by
  have p := pd_parts h
  refine ⟨?_, p.first.symm, p.second.symm⟩
  obtain ⟨hk, _⟩ := okD_parts h.1
  rcases hr with ⟨j, hj, rfl, e⟩ | ⟨_, hn⟩
  · rw [p.word] at e
    have hj2 : j = 0 ∨ j = 1 ∨ j = 2 ∨ j = 3 ∨ j = 4 ∨ j = 5 ∨ j = 6 ∨ j = 7 ∨ j = 8 ∨ j = 9 := by omega
    rcases hk with rfl | rfl | rfl | rfl | rfl | rfl | rfl | rfl | rfl <;> rcases hj2 with rfl | rfl | rfl | rfl | rfl | rfl | rfl | rfl | rfl | rfl <;> first | rfl | exact absurd e (by decide)
  · have hk2 : k.toNat < 10 := by omega
    have hk3 : ((k.toNat : Nat) : Int) = k := by omega
    exact absurd (by rw [hk3]; exact p.word.symm) (hn k.toNat hk2)
end Go.Fk
namespace Go.Proofs.YtogledmlbcmkjaaDoor
open Go.RowKit Go.Fk
set_option maxRecDepth 100000 in
set_option maxHeartbeats 4000000 in
theorem i_isWord (t t' : ByteArray) (n : Int) (bn : Nat) (w : World) (R : Row w bn 9 #[.string t']) : Calls Tryd.prog 29 #[.agg #[.string t, .int .i64 n], .pointer (some ⟨bn, 0, none⟩)] w (Out_b (eqT t t') w) := by
  have F := (Frg.nil w).box 57 #[.string t, .int .i64 n]
  have RN := hid (fun (w' : World) (hl : le w w') => R.le hl)
  clear R
  go_enter Tryd.func29, Tryd.ntmps29
  go_wp2_with (first | ((with_reducible refine at_load rfl ?_); first | (with_reducible refine wpList_load1C rfl (g := w.heap.size) (f := 0) rfl (v := .string t) (by kernel_rfl) (F.row m0) rfl ukindString ?_) | (with_reducible refine wpList_load1C rfl (g := bn) (f := 0) rfl (v := .string t') (by kernel_rfl) (RN.out _ F.below) rfl ukindString ?_)) | ((with_reducible refine listN F ?_); clear F; intro wN F))
  go_ret
  exact ⟨ret_b (show _ = eqT t t' from rfl), F.below⟩
set_option maxRecDepth 100000 in
set_option maxHeartbeats 4000000 in
theorem i_IndexWord (t' : ByteArray) (b bn : Nat) (w : World) (RB : Row w b 58 formsD) (R : Row w bn 9 #[.string t']) :
    Calls Tryd.prog 28 #[.slice (some ⟨b, 0, none⟩) 10 10, .func (.func 29) #[] #[.pointer (some ⟨bn, 0, none⟩)]] w fun e w' => ∃ r : Int, e = .returned (.int .i64 r) ∧ KIs t' r ∧ le w w' := by
  have HA := hid RB
  have HR := hid R
  clear RB R
  go_enter Tryd.func28, Tryd.ntmps28
  go_wp2
  go_loopw [8] (fun i wr => ∃ j : Nat, j ≤ 10 ∧ i = .int .i64 j ∧ Hid (∀ i : Nat, i < j → wordD i ≠ t') ∧ Hid (le w wr)) (fun i _ => 10 - (intOf i).toNat)
  case atStart => exact ⟨0, by omega, rfl, fun i hi => absurd hi (by omega), le_refl _⟩
  case round =>
    obtain ⟨j, hj, rfl, HJ, HL⟩ := hrel
    rename_i wr _
    by_cases hlt : j < 10
    · have CU := hid (fun (w' : World) (hl : le wr w') (q : Nat) (v : Value) (hv : [Value.string (wordD j), .int .i64 (numI j)][q]? = some v) => show w'.cell? ((⟨b, 0 + j * 2, none⟩ : Addr).add q) = some v by
        have := (HA.out.le (le_trans HL.out hl)).cell? (j * 2 + q)
        rw [Nat.zero_add, add_none]
        exact this.trans (forms_at hlt q v hv))
      have HS := hid (fun (w' : World) (hl : le wr w') => i_isWord (wordD j) t' (numI j) bn w' (HR.out.le (le_trans HL.out hl)))
      have F := Frg.nil wr
      rcases bool_ft (eqT (wordD j) t') with h1 | h1
      · have hb := hid (show wordD j ≠ t' from fun h => by rw [eqT_iff.2 h] at h1; cases h1)
        rw [h1] at HS
        clear h1
        go_wp2_with (first | ((with_reducible refine listN F ?_); clear F; intro wN F) | (go_at_call 29; ((with_reducible refine (HS.out _ F.below).mono ?_); rintro e w1 ⟨rfl, hl⟩; replace F := F.le hl; clear hl)) | (with_reducible refine wpList_indexW0 rfl rfl rfl rfl Tryd.underlying67 infoFormI hlt ?_) | ((with_reducible refine at_load rfl ?_); (with_reducible refine wpList_loadW rfl rfl rfl [.string (wordD j), .int .i64 (numI j)] (CU.out _ F.below) Tryd.underlying57 rfl infoFormI rfl ?_)))
        go_roundw
        case rel => exact ⟨j + 1, by omega, by go_num, fun i hi => by rcases Nat.lt_or_ge i j with h | h; exact HJ.out i h; rw [show i = j by omega]; exact hb.out, le_trans HL.out F.below⟩
        case measure => simp [intOf]; omega
      · have hb := hid (show wordD j = t' from eqT_iff.1 h1)
        rw [h1] at HS
        clear h1
        go_wp2_with (first | ((with_reducible refine listN F ?_); clear F; intro wN F) | (go_at_call 29; ((with_reducible refine (HS.out _ F.below).mono ?_); rintro e w1 ⟨rfl, hl⟩; replace F := F.le hl; clear hl)) | (with_reducible refine wpList_indexW0 rfl rfl rfl rfl Tryd.underlying67 infoFormI hlt ?_) | ((with_reducible refine at_load rfl ?_); (with_reducible refine wpList_loadW rfl rfl rfl [.string (wordD j), .int .i64 (numI j)] (CU.out _ F.below) Tryd.underlying57 rfl infoFormI rfl ?_)))
        go_ret
        exact ⟨_, rfl, .inl ⟨j, hlt, rfl, hb.out⟩, le_trans HL.out F.below⟩
    · obtain rfl : j = 10 := by omega
      go_wp2
      go_ret
      exact ⟨_, rfl, .inr ⟨rfl, HJ.out⟩, HL.out⟩
set_option maxRecDepth 100000 in
set_option maxHeartbeats 4000000 in
theorem i_ReadDeed (t : ByteArray) (w : World) (hs : t.size ≤ 1048576) (hT : Tab10 w) : Calls Tryd.prog 10 #[.string t] w (OutRD t w) := by
  have z1 := cutA_size t; have z2 := cutB_size t; have z3 := cutA_size (cutB t); have z4 := cutB_size (cutB t)
  obtain ⟨x, hx⟩ : ∃ x, x = cutA t := ⟨_, rfl⟩
  obtain ⟨y, hy⟩ : ∃ y, y = cutB t := ⟨_, rfl⟩
  obtain ⟨p, hp⟩ : ∃ p, p = cutA (cutB t) := ⟨_, rfl⟩
  obtain ⟨q, hq⟩ : ∃ q, q = cutB (cutB t) := ⟨_, rfl⟩
  have HC1 := hid (fun w' => i_Cut32 t w' (by unfold maxLen; omega))
  have HC2 := hid (fun w' => i_Cut32 (cutB t) w' (by unfold maxLen; omega))
  have HW1 := hid (fun w' => i_readWhole (cutA (cutB t)) w' (by unfold maxLen; omega))
  have HW2 := hid (fun w' => i_readWhole (cutB (cutB t)) w' (by unfold maxLen; omega))
  have HO := hid (fun (r k a b : Int) (hr : KIs (cutA t) r) (h : PD t k a b) => pd_only hr h)
  rw [← hp, ← hq] at HO
  rw [← hq] at HW2
  rw [← hp] at HW1
  rw [← hx, ← hy] at HC1
  rw [← hx] at HO
  rw [← hp, ← hq, ← hy] at HC2
  have HF := hid i_deedForms
  have HI := hid (fun (w' : World) (b bn : Nat) (RB : Row w' b 58 formsD) (R : Row w' bn 9 #[.string x]) => i_IndexWord x b bn w' RB R)
  have HV := hid (fun (k a b : Int) (w' : World) => i_ValidDeed k a b w')
  have HT := hid (fun (k a b : Int) (w' : World) (hl : le w w') => i_DeedText k a b w' (hT.le hl))
  clear hx hy hp hq hT hs z1 z2 z3 z4
  have F := (Frg.nil w).box 25 #[.int .i64 0, .int .i64 0, .int .i64 0]
  go_enter Tryd.func10, Tryd.ntmps10
  go_wp2_with (first | (go_at_call 27; first | ((with_reducible refine (HC1.out _).mono ?_); rintro e w1 ⟨f1, rfl, hl⟩; replace F := F.le hl; clear hl) | ((with_reducible refine (HC2.out _).mono ?_); rintro e w1 ⟨f2, rfl, hl⟩; replace F := F.le hl; clear hl)) | ((with_reducible refine listN F ?_); clear F; intro wN F) | (with_reducible refine stop_store rfl ?_))
  replace F := F.box 9 #[.string ⟨#[]⟩]
  show wpList _ _ _ _ _ _
  refine wpList_store1 rfl rfl (f := 0) rfl rfl (F.row m0) uinfo1String (by simp) rfl #[.string x] rfl (fun w2 K => ?_)
  replace F := F.wrI0 (cs' := #[.string x]) K
  clear K
  go_wp2_with (first | (go_at_call 27; first | ((with_reducible refine (HC1.out _).mono ?_); rintro e w1 ⟨f1, rfl, hl⟩; replace F := F.le hl; clear hl) | ((with_reducible refine (HC2.out _).mono ?_); rintro e w1 ⟨f2, rfl, hl⟩; replace F := F.le hl; clear hl)) | ((with_reducible refine listN F ?_); clear F; intro wN F) | (go_at_call 22; ((with_reducible refine (HF.out _).mono ?_); rintro e w1 ⟨rfl, hl⟩; replace F := F.le hl; clear hl)) | (with_reducible refine stop_store rfl ?_))
  replace F := F.box 58 #[.string ⟨#[]⟩, .int .i64 0, .string ⟨#[]⟩, .int .i64 0, .string ⟨#[]⟩, .int .i64 0, .string ⟨#[]⟩, .int .i64 0, .string ⟨#[]⟩, .int .i64 0, .string ⟨#[]⟩, .int .i64 0, .string ⟨#[]⟩, .int .i64 0, .string ⟨#[]⟩, .int .i64 0, .string ⟨#[]⟩, .int .i64 0, .string ⟨#[]⟩, .int .i64 0]
  show wpList _ _ _ _ _ _
  refine wpList_storeD rfl rfl rfl (cells := formsD) rfl (F.row m0) infoForms rfl formsD_all (fun w6 K => ?_)
  replace F := F.wrI0 K
  clear K
  go_wp2_with (first | (go_at_call 28; ((with_reducible refine (HI.out _ _ _ (F.row m0) (F.row m1)).mono ?_); rintro e w1 ⟨r, rfl, hr, hl⟩; replace F := F.le hl; clear hl; replace hr := hid hr)) | ((with_reducible refine listN F ?_); clear F; intro wN F) | (with_reducible refine stop_store rfl ?_))
  replace F := F.box 25 #[.int .i64 0, .int .i64 0, .int .i64 0]
  show wpList _ _ _ _ _ _
  refine wpList_storeD rfl rfl rfl (cells := #[.int .i64 r, .int .i64 0, .int .i64 0]) rfl (F.row m0) uinfoDeedI rfl (by (simp only [List.all_toArray', List.all_cons, List.all_nil, Bool.and_true, Bool.true_and]) <;> rfl) (fun w6 K => ?_)
  replace F := F.wrI0 K
  clear K
  go_wp2_with (first | (go_at_call 30; ((with_reducible refine (HW1.out _).mono ?_); rintro e w1 ⟨rfl, hl⟩; replace F := F.le hl; clear hl)) | ((with_reducible refine listN F ?_); clear F; intro wN F) | (with_reducible refine stop_store rfl ?_))
  show wpList _ _ _ _ _ _
  refine wpList_store1 rfl rfl (f := 1) rfl rfl (F.row m0) uinfo1Int64 (by simp) rfl #[.int .i64 r, .int .i64 (wholeN p), .int .i64 0] rfl (fun w2 K => ?_)
  replace F := F.wrI0 (cs' := #[.int .i64 r, .int .i64 (wholeN p), .int .i64 0]) K
  clear K
  go_wp2_with (first | (go_at_call 30; ((with_reducible refine (HW2.out _).mono ?_); rintro e w1 ⟨rfl, hl⟩; replace F := F.le hl; clear hl)) | ((with_reducible refine listN F ?_); clear F; intro wN F) | (with_reducible refine stop_store rfl ?_))
  show wpList _ _ _ _ _ _
  refine wpList_store1 rfl rfl (f := 2) rfl rfl (F.row m0) uinfo1Int64 (by simp) rfl #[.int .i64 r, .int .i64 (wholeN p), .int .i64 (wholeN q)] rfl (fun w2 K => ?_)
  replace F := F.wrI0 (cs' := #[.int .i64 r, .int .i64 (wholeN p), .int .i64 (wholeN q)]) K
  clear K
  have HV := hid (fun w' => HV.out r (wholeN p) (wholeN q) w')
  have HT := hid (fun w' (hl : le w w') => HT.out r (wholeN p) (wholeN q) w' hl)
  have HO := hid (fun (k a b : Int) (h : PD t k a b) => HO.out r k a b hr.out h)
  have HP := hid (show PD t r (wholeN p) (wholeN q) ↔ okD r (wholeN p) (wholeN q) = true ∧ deedT r (wholeN p) (wholeN q) = t from Iff.rfl)
  obtain ⟨T, hTT⟩ : ∃ T, T = deedT r (wholeN p) (wholeN q) := ⟨_, rfl⟩
  rw [← hTT] at HT HP
  obtain ⟨v, hv⟩ : ∃ v, v = okD r (wholeN p) (wholeN q) := ⟨_, rfl⟩
  rw [← hv] at HV HP
  clear hTT hv hr HI HF HW1 HW2 HC1 HC2
  cases v
  · have HX := hid (show ∀ k' a' b', ¬ PD t k' a' b' from fun k a b h => by
      obtain ⟨rfl, rfl, rfl⟩ := HO.out k a b h
      exact absurd (HP.out.1 h).1 (by decide))
    go_wp2_with (first | ((with_reducible refine at_load rfl ?_); (with_reducible refine wpList_loadG F rfl rfl rfl m0 Tryd.underlying25 rfl uinfoDeedI rfl ?_)) | (go_at_call 21; ((with_reducible refine (HV.out _).mono ?_); rintro e w1 ⟨rfl, hl⟩; replace F := F.le hl; clear hl)) | (go_at_call 8; ((with_reducible refine (HT.out _ F.below).mono ?_); rintro e w1 ⟨rfl, hl⟩; replace F := F.le hl; clear hl)) | ((with_reducible refine listN F ?_); clear F; intro wN F) | (with_reducible refine stop_store rfl ?_))
    show wpList _ _ _ _ _ _
    refine wpList_storeD rfl rfl rfl (cells := #[.int .i64 0, .int .i64 0, .int .i64 0]) rfl (F.row m3) uinfoDeedI rfl (by (simp only [List.all_toArray', List.all_cons, List.all_nil, Bool.and_true, Bool.true_and]) <;> rfl) (fun w6 K => ?_)
    have R := hid K.row
    replace F := F.wrI3 K
    clear K
    go_wp2
    exact bodyPost_ret (results_row2 rfl _ _ _ _ _ rfl R.out Tryd.underlying25 rfl uinfoDeedI) rfl ⟨0, 0, 0, 5, rfl, F.below, .inr ⟨HX.out, rfl, rfl, rfl, rfl⟩⟩
  rcases bool_ft (eqT T t) with he | he
  · have HX := hid (show ∀ k' a' b', ¬ PD t k' a' b' from fun k a b h => by
      obtain ⟨rfl, rfl, rfl⟩ := HO.out k a b h
      have := eqT_iff.2 (HP.out.1 h).2
      rw [this] at he; cases he)
    have h2 : (T.toList == t.toList) = false := he
    clear he
    go_wp2_with (first | ((with_reducible refine at_load rfl ?_); (with_reducible refine wpList_loadGG F rfl rfl m0 Tryd.underlying25 rfl uinfoDeedI rfl (by kernel_rfl) ?_)) | (go_at_call 21; ((with_reducible refine (HV.out _).mono ?_); rintro e w1 ⟨rfl, hl⟩; replace F := F.le hl; clear hl)) | (go_at_call 8; ((with_reducible refine (HT.out _ F.below).mono ?_); rintro e w1 ⟨rfl, hl⟩; replace F := F.le hl; clear hl)) | ((with_reducible refine listN F ?_); clear F; intro wN F) | (with_reducible refine stop_store rfl ?_))
    show wpList _ _ _ _ _ _
    refine wpList_storeD rfl rfl rfl (cells := #[.int .i64 0, .int .i64 0, .int .i64 0]) rfl (F.row m3) uinfoDeedI rfl (by (simp only [List.all_toArray', List.all_cons, List.all_nil, Bool.and_true, Bool.true_and]) <;> rfl) (fun w6 K => ?_)
    have R := hid K.row
    replace F := F.wrI3 K
    clear K
    go_wp2
    exact bodyPost_ret (results_row2 rfl _ _ _ _ _ rfl R.out Tryd.underlying25 rfl uinfoDeedI) rfl ⟨0, 0, 0, 5, rfl, F.below, .inr ⟨HX.out, rfl, rfl, rfl, rfl⟩⟩
  have HX := hid (HP.out.2 ⟨rfl, eqT_iff.1 he⟩)
  have h2 : (T.toList == t.toList) = true := he
  clear he
  go_wp2_with (first | ((with_reducible refine at_load rfl ?_); (with_reducible refine wpList_loadGG F rfl rfl m0 Tryd.underlying25 rfl uinfoDeedI rfl (by kernel_rfl) ?_)) | (go_at_call 21; ((with_reducible refine (HV.out _).mono ?_); rintro e w1 ⟨rfl, hl⟩; replace F := F.le hl; clear hl)) | (go_at_call 8; ((with_reducible refine (HT.out _ F.below).mono ?_); rintro e w1 ⟨rfl, hl⟩; replace F := F.le hl; clear hl)) | ((with_reducible refine listN F ?_); clear F; intro wN F) | (with_reducible refine stop_store rfl ?_))
  show wpList _ _ _ _ _ _
  refine wpList_storeD rfl rfl rfl (cells := #[.int .i64 r, .int .i64 (wholeN p), .int .i64 (wholeN q)]) rfl (F.row m3) uinfoDeedI rfl (by (simp only [List.all_toArray', List.all_cons, List.all_nil, Bool.and_true, Bool.true_and]) <;> rfl) (fun w6 K => ?_)
  have R := hid K.row
  replace F := F.wrI3 K
  clear K
  go_wp2
  exact bodyPost_ret (results_row2 rfl _ _ _ _ _ rfl R.out Tryd.underlying25 rfl uinfoDeedI) rfl ⟨_, _, _, 0, rfl, F.below, .inl ⟨HX.out, rfl⟩⟩
end Go.Proofs.YtogledmlbcmkjaaDoor

/- 'ReadDeed' of the model. -/
namespace Go.Fk
open Go Go.RowKit
theorem names_at {j : Nat} (h : j < 10) : (#[.string ⟨#[]⟩, .string ⟨#[103, 105, 118, 101]⟩, .string ⟨#[119, 111, 114, 107]⟩, .string ⟨#[100, 101, 108, 105, 118, 101, 114]⟩, .string ⟨#[99, 111, 112, 121]⟩, .string ⟨#[100, 114, 111, 112]⟩, .string ⟨#[115, 112, 111, 105, 108]⟩, .string ⟨#[115, 121, 110, 99]⟩, .string ⟨#[99, 114, 97, 115, 104]⟩, .string ⟨#[113, 117, 105, 116]⟩] : Array Value)[j]? = some (.string (wordD (j : Nat))) := by
  match j, h with
  | 0, _ => rfl
  | 1, _ => rfl
  | 2, _ => rfl
  | 3, _ => rfl
  | 4, _ => rfl
  | 5, _ => rfl
  | 6, _ => rfl
  | 7, _ => rfl
  | 8, _ => rfl
  | 9, _ => rfl
  | j + 10, h => omega
theorem spl_mem {s : ByteArray} {c : Nat} : ∀ k, ∀ x ∈ (splN s c k).1, x.size ≤ s.size
  | 0, x, h => by simp [splN] at h
  | k + 1, x, h => by
    unfold splN at h
    split at h
    · simp only [List.mem_append, List.mem_singleton] at h
      rcases h with h | rfl
      · exact spl_mem k x h
      · exact ext_le _ _ _
    · exact spl_mem k x h
theorem wrd_size (t : ByteArray) (i : Nat) : (wrd t i).size ≤ t.size := by
  unfold wrd
  by_cases h : i < (wrdL t).length
  · rw [List.getD, List.getElem?_eq_getElem h]
    have hm := List.getElem_mem h
    obtain ⟨x, hx⟩ : ∃ x, x = (wrdL t)[i] := ⟨_, rfl⟩
    rw [← hx] at hm ⊢
    clear hx
    unfold wrdL splL at hm
    simp only [List.mem_append, List.mem_singleton, List.mem_cons, List.not_mem_nil, or_false] at hm
    simp only [Option.getD_some]
    rcases hm with (hm | hm) | hm | hm
    · exact spl_mem _ _ hm
    · rw [hm]; exact ext_le _ _ _
    · rw [hm]; exact Nat.zero_le _
    · rw [hm]; exact Nat.zero_le _
  · rw [List.getD, List.getElem?_eq_none (by omega)]; exact Nat.zero_le _
theorem pd_of {t : ByteArray} {k a b : Int} (h1 : 1 ≤ k) (h9 : k ≤ 9) (hw : wrd t 0 = wordD k) (hT : deedT k a b = t) : PD t k a b := by
  refine ⟨?_, hT⟩
  cases ho : okD k a b
  · exfalso
    have e : t = ⟨#[]⟩ := by rw [← hT]; unfold deedT; rw [ho]; rfl
    have e2 : wrd t 0 = ⟨#[]⟩ := by rw [e]; unfold wrd wrdL; rw [spl_one noSp_nil]; rfl
    rw [e2] at hw
    have hk : k = 1 ∨ k = 2 ∨ k = 3 ∨ k = 4 ∨ k = 5 ∨ k = 6 ∨ k = 7 ∨ k = 8 ∨ k = 9 := by omega
    rcases hk with rfl | rfl | rfl | rfl | rfl | rfl | rfl | rfl | rfl <;> exact absurd hw (by decide)
  · rfl
theorem wrd_at {t : ByteArray} {i : Nat} (h : i < (wrdL t).length) : (strs (wrdL t))[i]? = some (.string (wrd t i)) := by
  unfold strs wrd
  rw [List.getElem?_map, List.getElem?_eq_getElem h, List.getD, List.getElem?_eq_getElem h]
  rfl
end Go.Fk
namespace Go.Proofs.YtogledmlbcmkjaaDoor
open Go.RowKit Go.Fk
set_option maxRecDepth 100000 in
set_option maxHeartbeats 4000000 in
theorem s_ReadDeed (t : ByteArray) (w : World) (hs : t.size ≤ 1048576) : Calls Tryd.prog 9 #[.string t] w (OutRD t w) := by
  have F := (Frg.nil w).box 25 #[.int .i64 0, .int .i64 0, .int .i64 0]
  by_cases h40 : 40 < t.size
  · have HX := hid (show ∀ k' a' b', ¬ PD t k' a' b' from fun k a b h => by have := (pd_parts h).size; omega)
    have h40' : (40 : Int) < (t.size : Int) := by omega
    clear h40
    go_enter Tryd.func9, Tryd.ntmps9
    go_wp2_with (first | ((with_reducible refine listN F ?_); clear F; intro wN F) | (with_reducible refine stop_store rfl ?_))
    show wpList _ _ _ _ _ _
    refine wpList_storeD rfl rfl rfl (cells := #[.int .i64 0, .int .i64 0, .int .i64 0]) rfl (F.row m0) uinfoDeedI rfl (by (simp only [List.all_toArray', List.all_cons, List.all_nil, Bool.and_true, Bool.true_and]) <;> rfl) (fun w6 K => ?_)
    have R := hid K.row
    replace F := F.wrI0 K
    clear K
    go_wp2
    exact bodyPost_ret (results_row2 rfl _ _ _ _ _ rfl R.out Tryd.underlying25 rfl uinfoDeedI) rfl ⟨0, 0, 0, 5, rfl, F.below, .inr ⟨HX.out, rfl, rfl, rfl, rfl⟩⟩
  have h40' : ¬ (40 : Int) < (t.size : Int) := by omega
  have HSp := hid (show ∀ w' : World, Calls Tryd.prog 25 #[.string t, .int .u8 32] w' (fun e w2 => ∃ v, e = .returned v ∧ w2.ownsRow w'.heap.size 9 1 v (splL t 32).length (strs (splL t 32)) ∧ le w' w2) from fun w' => s_l01Split t 32 w' hs)
  have HLen := hid (show (splL t 32).length ≤ 41 by have := splN_len (s := t) (c := 32) t.size; unfold splL; simp; omega)
  have HNm := hid s_l10Names
  have HDT := hid s_DeedText
  have HNu := hid s_l10Numbers
  have HNA1 := hid (fun w' => s_l01NumberA (wrd t 1) w' (by have := wrd_size t 1; unfold maxLen; omega))
  have HNA2 := hid (fun w' => s_l01NumberA (wrd t 2) w' (by have := wrd_size t 2; unfold maxLen; omega))
  have HIN : Hid (∃ i, Tryd.prog.info? 9 = some i ∧ i.zero = some (.string ⟨#[]⟩) ∧ i.size = 1 ∧ i.bytes = 16) := by
    have h := infoStr1
    cases hi : Tryd.prog.info? 9 with
    | none => rw [hi] at h; simp at h
    | some i => rw [hi] at h; simp at h; exact ⟨i, rfl, h.1, h.2.1, h.2.2⟩
  obtain ⟨i0, HIN⟩ := HIN
  replace HIN := hid HIN
  have HS := hid hs
  clear h40 hs
  have F0 := hid F
  go_enter Tryd.func9, Tryd.ntmps9
  go_wp2_with (first | (go_at_call 25; ((with_reducible refine (HSp.out _).mono ?_); rintro e w1 ⟨v1, rfl, hown, hl⟩; have HOW := hid hown; have HL1 := hid hl; clear hown hl F)) | (at_builtin; refine wpList_append_own _ rfl _ _ 52 rfl _ 9 i0 (.string ⟨#[]⟩) 1 16 Tryd.underlying52 HIN.out.1 HIN.out.2.1 HIN.out.2.2.1 HIN.out.2.2.2 rfl (by decide) _ _ _ rfl (HOW.out.alloc _) ⟨w1.heap.size, 0, none⟩ 2 2 [.string ⟨#[]⟩, .string ⟨#[]⟩] rfl rfl (fun j x hj => by match j, hj with | 0, hj => simp at hj; subst hj; exact (Row.new w1 9 #[.string _, .string _]).cell? 0 | 1, hj => simp at hj; subst hj; exact (Row.new w1 9 #[.string _, .string _]).cell? 1) (fun x hx => by simp at hx; rcases hx with rfl | rfl <;> rfl) (by have := HLen.out; unfold maxLen; omega) (by have := HLen.out; omega) (by have := HL1.out.size; simp at this ⊢; omega) ?_; intro v' w5 hown hgr _; have HOWN := hid hown; have HGR := hid hgr; clear hown hgr))
  have hch : Chg (fun q => (w.alloc (.cells #[.int .i64 0, .int .i64 0, .int .i64 0] 25)).heap.size ≤ q) w1 w5 := (Chg.of_le (le_alloc _ _)).trans (chg_grown HGR.out (ownBlock_ge HOW.out))
  have k5 : Below (w.alloc (.cells #[.int .i64 0, .int .i64 0, .int .i64 0] 25)).heap.size (w.alloc (.cells #[.int .i64 0, .int .i64 0, .int .i64 0] 25)) w5 := HL1.out.trans (hch.below (fun i hi => hi) HL1.out.size)
  obtain ⟨n, hn⟩ : ∃ n, n = (splL t 32).length + 2 := ⟨_, rfl⟩
  have n3 : 3 ≤ n := by
    have : 1 ≤ (splL t 32).length := by unfold splL; simp
    omega
  have n43 : n ≤ 43 := by have := HLen.out; omega
  obtain ⟨hlen, ⟨_, h0⟩ | ⟨g, cap, cur, hv, hg, hrow, hnc, hm, hcs, htk⟩⟩ := HOWN.out
  · omega
  subst hv
  have HC : ∀ i, i < n → cur[i]? = some (.string (wrd t i)) := fun i hi => by
    have hl : (wrdL t).length = n := by unfold wrdL; simp; omega
    have e : cur.toList.take n = strs (wrdL t) := by
      rw [hn, ← Nat.mul_one ((splL t 32).length + 2), htk]; unfold strs wrdL; simp
    have h2 := wrd_at (t := t) (i := i) (by omega)
    rw [← e, List.getElem?_take, if_pos hi] at h2
    rw [← Array.getElem?_toList]; exact h2
  have F : Frg w w5 (rowF g 9 cur :: _) := F0.out.rowS k5 hg hrow
  rw [← hn] at hnc
  rw [← hn]
  have hx0 := HC 0 (by omega); have hx1 := HC 1 (by omega); have hx2 := HC 2 (by omega)
  clear HOW HL1 HOWN HGR hch k5 hlen hg hrow hcs htk hn HC HLen HIN HSp F0 HS
  have hnc := hid hnc; have hm := hid hm
  have x0 := hid hx0; have x1 := hid hx1; have x2 := hid hx2
  clear hx0 hx1 hx2
  refine (HNm.out _).mono ?_
  rintro e w6 ⟨z, rfl, hrz, hz, hl⟩
  replace F := F.rowS hl hz hrz
  clear hl hz hrz HNm
  go_wp2_with (first | ((with_reducible refine listN F ?_); clear F; intro wN F))
  have F6 := hid F
  clear F
  go_loopw [6] (fun i wr => ∃ j : Nat, j ≤ 9 ∧ i = .int .i64 ((j + 1 : Nat) : Int) ∧ Hid (∀ k a b, PD t k a b → (j : Int) < k) ∧ Hid (Frg w wr [rowF z 9 #[.string ⟨#[]⟩, .string ⟨#[103, 105, 118, 101]⟩, .string ⟨#[119, 111, 114, 107]⟩, .string ⟨#[100, 101, 108, 105, 118, 101, 114]⟩, .string ⟨#[99, 111, 112, 121]⟩, .string ⟨#[100, 114, 111, 112]⟩, .string ⟨#[115, 112, 111, 105, 108]⟩, .string ⟨#[115, 121, 110, 99]⟩, .string ⟨#[99, 114, 97, 115, 104]⟩, .string ⟨#[113, 117, 105, 116]⟩], rowF g 9 cur, rowF w.heap.size 25 #[.int .i64 0, .int .i64 0, .int .i64 0]])) (fun i _ => 10 - (intOf i).toNat)
  case atStart => exact ⟨0, by omega, by go_num, fun k a b h => by obtain ⟨hk, _⟩ := okD_parts h.1; omega, F6.out⟩
  case round =>
    clear F6
    obtain ⟨j, hj, rfl, HJ, HF⟩ := hrel
    rename_i wr _
    have F := HF.out
    clear HF
    by_cases hlt : j < 9
    rotate_left
    · obtain rfl : j = 9 := by omega
      have HX := hid (show ∀ k' a' b', ¬ PD t k' a' b' from fun k a b h => by
        have := HJ.out k a b h
        obtain ⟨hk, _⟩ := okD_parts h.1
        omega)
      go_wp2_with (first | ((with_reducible refine listN F ?_); clear F; intro wN F) | (with_reducible refine stop_store rfl ?_))
      show wpList _ _ _ _ _ _
      refine wpList_storeD rfl rfl rfl (cells := #[.int .i64 0, .int .i64 0, .int .i64 0]) rfl (F.row m2) uinfoDeedI rfl (by (simp only [List.all_toArray', List.all_cons, List.all_nil, Bool.and_true, Bool.true_and]) <;> rfl) (fun w6 K => ?_)
      have R := hid K.row
      replace F := F.wrI2 K
      clear K
      go_wp2
      exact bodyPost_ret (results_row2 rfl _ _ _ _ _ rfl R.out Tryd.underlying25 rfl uinfoDeedI) rfl ⟨0, 0, 0, 5, rfl, F.below, .inr ⟨HX.out, rfl, rfl, rfl, rfl⟩⟩
    obtain ⟨k, hk⟩ : ∃ k : Int, k = ((j + 1 : Nat) : Int) := ⟨_, rfl⟩
    rw [← hk]
    have kz1 : 1 ≤ k := by omega
    have kz : k ≤ 9 := by omega
    have kz' : k < 10 := by omega
    have kz0 : (0 : Int) ≤ k := by omega
    have i0 : (0 : Int) < (n : Int) := by omega
    have i1 : (1 : Int) < (n : Int) := by omega
    have i2 : (2 : Int) < (n : Int) := by omega
    have HJ2 := hid (fun (NK : ∀ a b, ¬ PD t k a b) (k' a b : Int) (h : PD t k' a b) => show ((j + 1 : Nat) : Int) < k' from by
      have := HJ.out k' a b h
      by_cases e : k' = k
      · subst e; exact absurd h (NK a b)
      · omega)
    have HW := hid (fun (a b : Int) (hw : wrd t 0 = wordD k) (hT : deedT k a b = t) => pd_of kz1 kz hw hT)
    have hkk := hid hk
    clear HJ hk
    go_wp2_with (first | ((with_reducible refine listN F ?_); clear F; intro wN F) | (with_reducible refine stop_store rfl ?_))
    replace F := F.box 25 #[.int .i64 0, .int .i64 0, .int .i64 0]
    show wpList _ _ _ _ _ _
    refine wpList_storeD rfl rfl rfl (cells := #[.int .i64 k, .int .i64 0, .int .i64 0]) rfl (F.row m0) uinfoDeedI rfl (by (simp only [List.all_toArray', List.all_cons, List.all_nil, Bool.and_true, Bool.true_and]) <;> rfl) (fun w6 K => ?_)
    replace F := F.wrI0 K
    clear K
    have c0 : w6.cell? ⟨g, 0, none⟩ = some (.string (wrd t 0)) := by rw [(F.row m2).cell?]; exact x0.out
    have c1 : w6.cell? ⟨z, k.toNat, none⟩ = some (.string (wordD k)) := by rw [(F.row m1).cell?]; have := names_at (j := k.toNat) (by omega); rwa [Int.toNat_of_nonneg kz0] at this
    go_wp2
    simp only [Act.put]
    go_big_quiet (fail)
    replace F := F.drewN nq
    clear c0 c1
    rcases bool_ft (eqT (wrd t 0) (wordD k)) with he | he
    · have h2 : ((wrd t 0).toList == (wordD k).toList) = false := he
      have NK := hid (show ∀ a b, ¬ PD t k a b from fun a b h => by
        have e := eqT_iff.2 (pd_parts h).w0
        rw [e] at he; cases he)
      clear he
      go_wp2_with (first | ((with_reducible refine listN F ?_); clear F; intro wN F))
      go_roundw
      case rel => exact ⟨j + 1, by omega, by rw [show k + 1 = ((j + 1 + 1 : Nat) : Int) by have := hkk.out; omega], HJ2.out NK.out, F.tl⟩
      case measure => simp [intOf]; omega
    have h2 : ((wrd t 0).toList == (wordD k).toList) = true := he
    replace he := hid (eqT_iff.1 he)
    have HN1 := hid (fun w' => HNu.out k w')
    rcases numD_is k with hn | hn | hn
    · rw [hn] at HN1
      have hn := hid hn
      obtain ⟨T, hTT⟩ : ∃ T, T = deedT k 0 0 := ⟨_, rfl⟩
      have HDT1 := hid (fun w' => HDT.out k 0 0 w')
      rw [← hTT] at HDT1
      rcases bool_ft (eqT T t) with he2 | he2
      · have NK := hid (show ∀ a b, ¬ PD t k a b from fun a b h => by
          have p := pd_parts h
          have e : eqT T t = true := eqT_iff.2 (by rw [hTT]; rw [p.n0 (by rw [hn.out]; decide), p.n1 (by rw [hn.out]; decide)] at h; exact h.2)
          rw [e] at he2; cases he2)
        have h4 : (T.toList == t.toList) = false := he2
        clear he2 hTT
        go_wp2_with (first | ((with_reducible refine at_load rfl ?_); (with_reducible refine wpList_loadGG F rfl rfl m0 Tryd.underlying25 rfl uinfoDeedI rfl (by kernel_rfl) ?_)) | (go_at_call 6; ((with_reducible refine (HDT1.out _).mono ?_); rintro e w1 ⟨rfl, hl⟩; replace F := F.le hl; clear hl)) | (go_at_call 19; ((with_reducible refine (HN1.out _).mono ?_); rintro e w1 ⟨rfl, rfl⟩; skip)) | ((with_reducible refine listN F ?_); clear F; intro wN F))
        go_roundw
        case rel => exact ⟨j + 1, by omega, by rw [show k + 1 = ((j + 1 + 1 : Nat) : Int) by have := hkk.out; omega], HJ2.out NK.out, F.tl⟩
        case measure => simp [intOf]; omega
      have HX := hid (HW.out 0 0 he.out (by rw [← hTT]; exact eqT_iff.1 he2))
      have h4 : (T.toList == t.toList) = true := he2
      clear he2 hTT
      go_wp2_with (first | ((with_reducible refine at_load rfl ?_); (with_reducible refine wpList_loadGG F rfl rfl m0 Tryd.underlying25 rfl uinfoDeedI rfl (by kernel_rfl) ?_)) | (go_at_call 6; ((with_reducible refine (HDT1.out _).mono ?_); rintro e w1 ⟨rfl, hl⟩; replace F := F.le hl; clear hl)) | (go_at_call 19; ((with_reducible refine (HN1.out _).mono ?_); rintro e w1 ⟨rfl, rfl⟩; skip)) | ((with_reducible refine listN F ?_); clear F; intro wN F) | (with_reducible refine stop_store rfl ?_))
      show wpList _ _ _ _ _ _
      refine wpList_storeD rfl rfl rfl (cells := #[.int .i64 k, .int .i64 0, .int .i64 0]) rfl (F.row m3) uinfoDeedI rfl (by (simp only [List.all_toArray', List.all_cons, List.all_nil, Bool.and_true, Bool.true_and]) <;> rfl) (fun w6 K => ?_)
      have R := hid K.row
      replace F := F.wrI3 K
      clear K
      go_wp2
      exact bodyPost_ret (results_row2 rfl _ _ _ _ _ rfl R.out Tryd.underlying25 rfl uinfoDeedI) rfl ⟨_, _, _, 0, rfl, F.below, .inl ⟨HX.out, rfl⟩⟩
    · rw [hn] at HN1
      have hn := hid hn
      rcases bool_ft (okW9 (wrd t 1)) with ok1 | ok1
      · have NK := hid (show ∀ a b, ¬ PD t k a b from fun a b h => by
          have := (okW9_of ((pd_parts h).w1 (by rw [hn.out]; decide)).1).1
          rw [this] at ok1; cases ok1)
        rw [ok1] at HNA1
        clear ok1
        go_wp2_with (first | ((with_reducible refine at_load rfl ?_); (with_reducible refine wpList_load1C rfl (g := g) (f := 1) rfl (v := .string (wrd t 1)) (by kernel_rfl) (F.row m2) x1.out ukindString ?_)) | (go_at_call 26; ((with_reducible refine (HNA1.out _).mono ?_); rintro e w1 ⟨rfl, rfl⟩; skip)) | (go_at_call 19; ((with_reducible refine (HN1.out _).mono ?_); rintro e w1 ⟨rfl, rfl⟩; skip)) | ((with_reducible refine listN F ?_); clear F; intro wN F) | (with_reducible refine stop_store rfl ?_))
        show wpList _ _ _ _ _ _
        refine wpList_store1 rfl rfl (f := 1) rfl rfl (F.row m0) uinfo1Int64 (by simp) rfl #[.int .i64 k, .int .i64 (wholeN9 (wrd t 1)), .int .i64 0] rfl (fun w2 K => ?_)
        replace F := F.wrI0 (cs' := #[.int .i64 k, .int .i64 (wholeN9 (wrd t 1)), .int .i64 0]) K
        clear K
        go_wp2_with (first | (go_at_call 19; ((with_reducible refine (HN1.out _).mono ?_); rintro e w1 ⟨rfl, rfl⟩; skip)) | ((with_reducible refine listN F ?_); clear F; intro wN F))
        go_roundw
        case rel => exact ⟨j + 1, by omega, by rw [show k + 1 = ((j + 1 + 1 : Nat) : Int) by have := hkk.out; omega], HJ2.out NK.out, F.tl⟩
        case measure => simp [intOf]; omega
      have ok1' := hid ok1
      rw [ok1] at HNA1
      clear ok1
      go_wp2_with (first | ((with_reducible refine at_load rfl ?_); (with_reducible refine wpList_load1C rfl (g := g) (f := 1) rfl (v := .string (wrd t 1)) (by kernel_rfl) (F.row m2) x1.out ukindString ?_)) | (go_at_call 26; ((with_reducible refine (HNA1.out _).mono ?_); rintro e w1 ⟨rfl, rfl⟩; skip)) | (go_at_call 19; ((with_reducible refine (HN1.out _).mono ?_); rintro e w1 ⟨rfl, rfl⟩; skip)) | ((with_reducible refine listN F ?_); clear F; intro wN F) | (with_reducible refine stop_store rfl ?_))
      show wpList _ _ _ _ _ _
      refine wpList_store1 rfl rfl (f := 1) rfl rfl (F.row m0) uinfo1Int64 (by simp) rfl #[.int .i64 k, .int .i64 (wholeN9 (wrd t 1)), .int .i64 0] rfl (fun w2 K => ?_)
      replace F := F.wrI0 (cs' := #[.int .i64 k, .int .i64 (wholeN9 (wrd t 1)), .int .i64 0]) K
      clear K
      obtain ⟨T, hTT⟩ : ∃ T, T = deedT k (wholeN9 (wrd t 1)) 0 := ⟨_, rfl⟩
      have HDT1 := hid (fun w' => HDT.out k (wholeN9 (wrd t 1)) 0 w')
      rw [← hTT] at HDT1
      rcases bool_ft (eqT T t) with he2 | he2
      · have NK := hid (show ∀ a b, ¬ PD t k a b from fun a b h => by
          have p := pd_parts h
          have e : eqT T t = true := eqT_iff.2 (by rw [hTT]; rw [(okW9_of (p.w1 (by rw [hn.out]; decide)).1).2, (p.w1 (by rw [hn.out]; decide)).2, ← p.n1 (by rw [hn.out]; decide)]; exact h.2)
          rw [e] at he2; cases he2)
        have h4 : (T.toList == t.toList) = false := he2
        clear he2 hTT
        go_wp2_with (first | ((with_reducible refine at_load rfl ?_); (with_reducible refine wpList_loadGG F rfl rfl m0 Tryd.underlying25 rfl uinfoDeedI rfl (by kernel_rfl) ?_)) | (go_at_call 6; ((with_reducible refine (HDT1.out _).mono ?_); rintro e w1 ⟨rfl, hl⟩; replace F := F.le hl; clear hl)) | (go_at_call 19; ((with_reducible refine (HN1.out _).mono ?_); rintro e w1 ⟨rfl, rfl⟩; skip)) | ((with_reducible refine listN F ?_); clear F; intro wN F))
        go_roundw
        case rel => exact ⟨j + 1, by omega, by rw [show k + 1 = ((j + 1 + 1 : Nat) : Int) by have := hkk.out; omega], HJ2.out NK.out, F.tl⟩
        case measure => simp [intOf]; omega
      have HX := hid (HW.out (wholeN9 (wrd t 1)) 0 he.out (by rw [← hTT]; exact eqT_iff.1 he2))
      have h4 : (T.toList == t.toList) = true := he2
      clear he2 hTT
      go_wp2_with (first | ((with_reducible refine at_load rfl ?_); (with_reducible refine wpList_loadGG F rfl rfl m0 Tryd.underlying25 rfl uinfoDeedI rfl (by kernel_rfl) ?_)) | (go_at_call 6; ((with_reducible refine (HDT1.out _).mono ?_); rintro e w1 ⟨rfl, hl⟩; replace F := F.le hl; clear hl)) | (go_at_call 19; ((with_reducible refine (HN1.out _).mono ?_); rintro e w1 ⟨rfl, rfl⟩; skip)) | ((with_reducible refine listN F ?_); clear F; intro wN F) | (with_reducible refine stop_store rfl ?_))
      show wpList _ _ _ _ _ _
      refine wpList_storeD rfl rfl rfl (cells := #[.int .i64 k, .int .i64 (wholeN9 (wrd t 1)), .int .i64 0]) rfl (F.row m3) uinfoDeedI rfl (by (simp only [List.all_toArray', List.all_cons, List.all_nil, Bool.and_true, Bool.true_and]) <;> rfl) (fun w6 K => ?_)
      have R := hid K.row
      replace F := F.wrI3 K
      clear K
      go_wp2
      exact bodyPost_ret (results_row2 rfl _ _ _ _ _ rfl R.out Tryd.underlying25 rfl uinfoDeedI) rfl ⟨_, _, _, 0, rfl, F.below, .inl ⟨HX.out, rfl⟩⟩
    · rw [hn] at HN1
      have hn := hid hn
      rcases bool_ft (okW9 (wrd t 1)) with ok1 | ok1
      · have NK := hid (show ∀ a b, ¬ PD t k a b from fun a b h => by
          have := (okW9_of ((pd_parts h).w1 (by rw [hn.out]; decide)).1).1
          rw [this] at ok1; cases ok1)
        rw [ok1] at HNA1
        clear ok1
        go_wp2_with (first | ((with_reducible refine at_load rfl ?_); (with_reducible refine wpList_load1C rfl (g := g) (f := 1) rfl (v := .string (wrd t 1)) (by kernel_rfl) (F.row m2) x1.out ukindString ?_)) | (go_at_call 26; ((with_reducible refine (HNA1.out _).mono ?_); rintro e w1 ⟨rfl, rfl⟩; skip)) | (go_at_call 19; ((with_reducible refine (HN1.out _).mono ?_); rintro e w1 ⟨rfl, rfl⟩; skip)) | ((with_reducible refine listN F ?_); clear F; intro wN F) | (with_reducible refine stop_store rfl ?_))
        show wpList _ _ _ _ _ _
        refine wpList_store1 rfl rfl (f := 1) rfl rfl (F.row m0) uinfo1Int64 (by simp) rfl #[.int .i64 k, .int .i64 (wholeN9 (wrd t 1)), .int .i64 0] rfl (fun w2 K => ?_)
        replace F := F.wrI0 (cs' := #[.int .i64 k, .int .i64 (wholeN9 (wrd t 1)), .int .i64 0]) K
        clear K
        go_wp2_with (first | (go_at_call 19; ((with_reducible refine (HN1.out _).mono ?_); rintro e w1 ⟨rfl, rfl⟩; skip)) | ((with_reducible refine listN F ?_); clear F; intro wN F))
        go_roundw
        case rel => exact ⟨j + 1, by omega, by rw [show k + 1 = ((j + 1 + 1 : Nat) : Int) by have := hkk.out; omega], HJ2.out NK.out, F.tl⟩
        case measure => simp [intOf]; omega
      have ok1' := hid ok1
      rw [ok1] at HNA1
      clear ok1
      go_wp2_with (first | ((with_reducible refine at_load rfl ?_); (with_reducible refine wpList_load1C rfl (g := g) (f := 1) rfl (v := .string (wrd t 1)) (by kernel_rfl) (F.row m2) x1.out ukindString ?_)) | (go_at_call 26; ((with_reducible refine (HNA1.out _).mono ?_); rintro e w1 ⟨rfl, rfl⟩; skip)) | (go_at_call 19; ((with_reducible refine (HN1.out _).mono ?_); rintro e w1 ⟨rfl, rfl⟩; skip)) | ((with_reducible refine listN F ?_); clear F; intro wN F) | (with_reducible refine stop_store rfl ?_))
      show wpList _ _ _ _ _ _
      refine wpList_store1 rfl rfl (f := 1) rfl rfl (F.row m0) uinfo1Int64 (by simp) rfl #[.int .i64 k, .int .i64 (wholeN9 (wrd t 1)), .int .i64 0] rfl (fun w2 K => ?_)
      replace F := F.wrI0 (cs' := #[.int .i64 k, .int .i64 (wholeN9 (wrd t 1)), .int .i64 0]) K
      clear K
      rcases bool_ft (okW9 (wrd t 2)) with ok2 | ok2
      · have NK := hid (show ∀ a b, ¬ PD t k a b from fun a b h => by
          have := (okW9_of ((pd_parts h).w2 (by rw [hn.out]; decide)).1).1
          rw [this] at ok2; cases ok2)
        rw [ok2] at HNA2
        clear ok2
        go_wp2_with (first | ((with_reducible refine at_load rfl ?_); (with_reducible refine wpList_load1C rfl (g := g) (f := 2) rfl (v := .string (wrd t 2)) (by kernel_rfl) (F.row m2) x2.out ukindString ?_)) | (go_at_call 26; ((with_reducible refine (HNA2.out _).mono ?_); rintro e w1 ⟨rfl, rfl⟩; skip)) | (go_at_call 19; ((with_reducible refine (HN1.out _).mono ?_); rintro e w1 ⟨rfl, rfl⟩; skip)) | ((with_reducible refine listN F ?_); clear F; intro wN F) | (with_reducible refine stop_store rfl ?_))
        show wpList _ _ _ _ _ _
        refine wpList_store1 rfl rfl (f := 2) rfl rfl (F.row m0) uinfo1Int64 (by simp) rfl #[.int .i64 k, .int .i64 (wholeN9 (wrd t 1)), .int .i64 (wholeN9 (wrd t 2))] rfl (fun w2 K => ?_)
        replace F := F.wrI0 (cs' := #[.int .i64 k, .int .i64 (wholeN9 (wrd t 1)), .int .i64 (wholeN9 (wrd t 2))]) K
        clear K
        go_wp2_with (first | (go_at_call 19; ((with_reducible refine (HN1.out _).mono ?_); rintro e w1 ⟨rfl, rfl⟩; skip)) | ((with_reducible refine listN F ?_); clear F; intro wN F))
        go_roundw
        case rel => exact ⟨j + 1, by omega, by rw [show k + 1 = ((j + 1 + 1 : Nat) : Int) by have := hkk.out; omega], HJ2.out NK.out, F.tl⟩
        case measure => simp [intOf]; omega
      rw [ok2] at HNA2
      clear ok2
      go_wp2_with (first | ((with_reducible refine at_load rfl ?_); (with_reducible refine wpList_load1C rfl (g := g) (f := 2) rfl (v := .string (wrd t 2)) (by kernel_rfl) (F.row m2) x2.out ukindString ?_)) | (go_at_call 26; ((with_reducible refine (HNA2.out _).mono ?_); rintro e w1 ⟨rfl, rfl⟩; skip)) | (go_at_call 19; ((with_reducible refine (HN1.out _).mono ?_); rintro e w1 ⟨rfl, rfl⟩; skip)) | ((with_reducible refine listN F ?_); clear F; intro wN F) | (with_reducible refine stop_store rfl ?_))
      show wpList _ _ _ _ _ _
      refine wpList_store1 rfl rfl (f := 2) rfl rfl (F.row m0) uinfo1Int64 (by simp) rfl #[.int .i64 k, .int .i64 (wholeN9 (wrd t 1)), .int .i64 (wholeN9 (wrd t 2))] rfl (fun w2 K => ?_)
      replace F := F.wrI0 (cs' := #[.int .i64 k, .int .i64 (wholeN9 (wrd t 1)), .int .i64 (wholeN9 (wrd t 2))]) K
      clear K
      obtain ⟨T, hTT⟩ : ∃ T, T = deedT k (wholeN9 (wrd t 1)) (wholeN9 (wrd t 2)) := ⟨_, rfl⟩
      have HDT1 := hid (fun w' => HDT.out k (wholeN9 (wrd t 1)) (wholeN9 (wrd t 2)) w')
      rw [← hTT] at HDT1
      rcases bool_ft (eqT T t) with he2 | he2
      · have NK := hid (show ∀ a b, ¬ PD t k a b from fun a b h => by
          have p := pd_parts h
          have e : eqT T t = true := eqT_iff.2 (by rw [hTT]; rw [(okW9_of (p.w1 (by rw [hn.out]; decide)).1).2, (p.w1 (by rw [hn.out]; decide)).2, (okW9_of (p.w2 (by rw [hn.out]; decide)).1).2, (p.w2 (by rw [hn.out]; decide)).2]; exact h.2)
          rw [e] at he2; cases he2)
        have h4 : (T.toList == t.toList) = false := he2
        clear he2 hTT
        go_wp2_with (first | ((with_reducible refine at_load rfl ?_); (with_reducible refine wpList_loadGG F rfl rfl m0 Tryd.underlying25 rfl uinfoDeedI rfl (by kernel_rfl) ?_)) | (go_at_call 6; ((with_reducible refine (HDT1.out _).mono ?_); rintro e w1 ⟨rfl, hl⟩; replace F := F.le hl; clear hl)) | (go_at_call 19; ((with_reducible refine (HN1.out _).mono ?_); rintro e w1 ⟨rfl, rfl⟩; skip)) | ((with_reducible refine listN F ?_); clear F; intro wN F))
        go_roundw
        case rel => exact ⟨j + 1, by omega, by rw [show k + 1 = ((j + 1 + 1 : Nat) : Int) by have := hkk.out; omega], HJ2.out NK.out, F.tl⟩
        case measure => simp [intOf]; omega
      have HX := hid (HW.out (wholeN9 (wrd t 1)) (wholeN9 (wrd t 2)) he.out (by rw [← hTT]; exact eqT_iff.1 he2))
      have h4 : (T.toList == t.toList) = true := he2
      clear he2 hTT
      go_wp2_with (first | ((with_reducible refine at_load rfl ?_); (with_reducible refine wpList_loadGG F rfl rfl m0 Tryd.underlying25 rfl uinfoDeedI rfl (by kernel_rfl) ?_)) | (go_at_call 6; ((with_reducible refine (HDT1.out _).mono ?_); rintro e w1 ⟨rfl, hl⟩; replace F := F.le hl; clear hl)) | (go_at_call 19; ((with_reducible refine (HN1.out _).mono ?_); rintro e w1 ⟨rfl, rfl⟩; skip)) | ((with_reducible refine listN F ?_); clear F; intro wN F) | (with_reducible refine stop_store rfl ?_))
      show wpList _ _ _ _ _ _
      refine wpList_storeD rfl rfl rfl (cells := #[.int .i64 k, .int .i64 (wholeN9 (wrd t 1)), .int .i64 (wholeN9 (wrd t 2))]) rfl (F.row m3) uinfoDeedI rfl (by (simp only [List.all_toArray', List.all_cons, List.all_nil, Bool.and_true, Bool.true_and]) <;> rfl) (fun w6 K => ?_)
      have R := hid K.row
      replace F := F.wrI3 K
      clear K
      go_wp2
      exact bodyPost_ret (results_row2 rfl _ _ _ _ _ rfl R.out Tryd.underlying25 rfl uinfoDeedI) rfl ⟨_, _, _, 0, rfl, F.below, .inl ⟨HX.out, rfl⟩⟩
end Go.Proofs.YtogledmlbcmkjaaDoor

/- 'toDeed' of the laws. -/
namespace Go.Proofs.YtogledmlbcmkjaaDoor
open Go.RowKit Go.Fk
theorem deed_vals {w : World} {B : Nat} {cs : List CD} {vs : List Value} (h : RdL w B cs vs) (hs : HasShL shDeed cs) : ∃ k a b : Int, vs = [.int .i64 k, .int .i64 a, .int .i64 b] := by
  have hsh := hs.ok
  obtain ⟨c0, cs, rfl, q0, hsh⟩ := hsh.inv
  obtain ⟨c1, cs, rfl, q1, hsh⟩ := hsh.inv
  obtain ⟨c2, cs, rfl, q2, hsh⟩ := hsh.inv
  obtain rfl := hsh.inv0
  obtain ⟨v0, vs, rfl, r0, h⟩ := h.inv
  obtain ⟨v1, vs, rfl, r1, h⟩ := h.inv
  obtain ⟨v2, vs, rfl, r2, h⟩ := h.inv
  obtain rfl := h.inv0
  obtain ⟨z0, rfl⟩ := q0
  obtain ⟨rfl, wf0⟩ := r0
  obtain ⟨z1, rfl⟩ := q1
  obtain ⟨rfl, wf1⟩ := r1
  obtain ⟨z2, rfl⟩ := q2
  obtain ⟨rfl, wf2⟩ := r2
  exact ⟨z0, z1, z2, rfl⟩
set_option maxRecDepth 100000 in
set_option maxHeartbeats 4000000 in
theorem toDeed_lit (k a b : Int) (w : World) : Calls Tryd.prog 7 #[.agg #[.int .i64 k, .int .i64 a, .int .i64 b]] w fun e w' => e = .returned (.agg #[.int .i64 k, .int .i64 a, .int .i64 b]) ∧ le w w' := by
  have F := (((Frg.nil w).box 23 #[.int .i64 k, .int .i64 a, .int .i64 b]).box 25 #[.int .i64 0, .int .i64 0, .int .i64 0]).box 25 #[.int .i64 0, .int .i64 0, .int .i64 0]
  simp only [World.size_alloc] at F
  go_enter Tryd.func7, Tryd.ntmps7
  go_wp2_with (first | ((with_reducible refine listN F ?_); clear F; intro wN F) | ((with_reducible refine at_load rfl ?_); first | (with_reducible refine wpList_load1 F rfl rfl rfl (by first | exact m0 | exact m1 | exact m2) (f := 0) (v := .int .i64 k) rfl ukindInt64 ?_) | (with_reducible refine wpList_load1 F rfl rfl rfl (by first | exact m0 | exact m1 | exact m2) (f := 1) (v := .int .i64 a) rfl ukindInt64 ?_) | (with_reducible refine wpList_load1 F rfl rfl rfl (by first | exact m0 | exact m1 | exact m2) (f := 2) (v := .int .i64 b) rfl ukindInt64 ?_)) | (with_reducible refine stop_store rfl ?_))
  show wpList _ _ _ _ _ _
  refine wpList_store1 rfl rfl (f := 0) rfl rfl (F.row m0) uinfo1Int64 (by simp) rfl #[.int .i64 k, .int .i64 0, .int .i64 0] rfl (fun w2 K => ?_)
  replace F := F.wrI0 (cs' := #[.int .i64 k, .int .i64 0, .int .i64 0]) K
  clear K
  go_wp2_with (first | ((with_reducible refine listN F ?_); clear F; intro wN F) | ((with_reducible refine at_load rfl ?_); first | (with_reducible refine wpList_load1 F rfl rfl rfl (by first | exact m0 | exact m1 | exact m2) (f := 0) (v := .int .i64 k) rfl ukindInt64 ?_) | (with_reducible refine wpList_load1 F rfl rfl rfl (by first | exact m0 | exact m1 | exact m2) (f := 1) (v := .int .i64 a) rfl ukindInt64 ?_) | (with_reducible refine wpList_load1 F rfl rfl rfl (by first | exact m0 | exact m1 | exact m2) (f := 2) (v := .int .i64 b) rfl ukindInt64 ?_)) | (with_reducible refine stop_store rfl ?_))
  show wpList _ _ _ _ _ _
  refine wpList_store1 rfl rfl (f := 1) rfl rfl (F.row m0) uinfo1Int64 (by simp) rfl #[.int .i64 k, .int .i64 a, .int .i64 0] rfl (fun w2 K => ?_)
  replace F := F.wrI0 (cs' := #[.int .i64 k, .int .i64 a, .int .i64 0]) K
  clear K
  go_wp2_with (first | ((with_reducible refine listN F ?_); clear F; intro wN F) | ((with_reducible refine at_load rfl ?_); first | (with_reducible refine wpList_load1 F rfl rfl rfl (by first | exact m0 | exact m1 | exact m2) (f := 0) (v := .int .i64 k) rfl ukindInt64 ?_) | (with_reducible refine wpList_load1 F rfl rfl rfl (by first | exact m0 | exact m1 | exact m2) (f := 1) (v := .int .i64 a) rfl ukindInt64 ?_) | (with_reducible refine wpList_load1 F rfl rfl rfl (by first | exact m0 | exact m1 | exact m2) (f := 2) (v := .int .i64 b) rfl ukindInt64 ?_)) | (with_reducible refine stop_store rfl ?_))
  show wpList _ _ _ _ _ _
  refine wpList_store1 rfl rfl (f := 2) rfl rfl (F.row m0) uinfo1Int64 (by simp) rfl #[.int .i64 k, .int .i64 a, .int .i64 b] rfl (fun w2 K => ?_)
  replace F := F.wrI0 (cs' := #[.int .i64 k, .int .i64 a, .int .i64 b]) K
  clear K
  go_wp2_with (first | ((with_reducible refine listN F ?_); clear F; intro wN F) | ((with_reducible refine at_load rfl ?_); (with_reducible refine wpList_loadG F rfl rfl rfl m0 Tryd.underlying25 rfl uinfoDeedI rfl ?_)) | (with_reducible refine stop_store rfl ?_))
  show wpList _ _ _ _ _ _
  refine wpList_storeD rfl rfl rfl (cells := #[.int .i64 k, .int .i64 a, .int .i64 b]) rfl (F.row m1) uinfoDeedI rfl (by (simp only [List.all_toArray', List.all_cons, List.all_nil, Bool.and_true, Bool.true_and]) <;> rfl) (fun w6 K => ?_)
  have R := hid K.row
  replace F := F.wrI1 K
  clear K
  go_wp2
  exact bodyPost_ret (results_row1 rfl _ _ _ _ _ rfl R.out Tryd.underlying25 rfl uinfoDeedI) rfl ⟨rfl, F.below⟩
end Go.Proofs.YtogledmlbcmkjaaDoor

/- The walk of 'FnExactReadDeed'. -/
namespace Go.Proofs.YtogledmlbcmkjaaDoor.fnExactReadDeed
open Go.RowKit Go.Fk
set_option maxRecDepth 100000 in
set_option maxHeartbeats 4000000 in
theorem eqDeed_yes (k a b : Int) (w : World) : Calls Tryd.prog 11 #[.agg #[.int .i64 k, .int .i64 a, .int .i64 b], .agg #[.int .i64 k, .int .i64 a, .int .i64 b]] w fun e w' => e = .returned (.bool true) ∧ le w w' := by
  have F := ((Frg.nil w).box 25 #[.int .i64 k, .int .i64 a, .int .i64 b]).box 25 #[.int .i64 k, .int .i64 a, .int .i64 b]
  simp only [World.size_alloc] at F
  go_enter Tryd.func11, Tryd.ntmps11
  go_wp2_with (first | ((with_reducible refine at_load rfl ?_); first | (with_reducible refine wpList_load1C rfl (g := w.heap.size + 1) (f := 0) rfl (v := .int .i64 k) (by kernel_rfl) (F.row m0) rfl ukindInt64 ?_) | (with_reducible refine wpList_load1C rfl (g := w.heap.size + 1) (f := 1) rfl (v := .int .i64 a) (by kernel_rfl) (F.row m0) rfl ukindInt64 ?_) | (with_reducible refine wpList_load1C rfl (g := w.heap.size + 1) (f := 2) rfl (v := .int .i64 b) (by kernel_rfl) (F.row m0) rfl ukindInt64 ?_) | (with_reducible refine wpList_load1C rfl (g := w.heap.size) (f := 0) rfl (v := .int .i64 k) (by kernel_rfl) (F.row m1) rfl ukindInt64 ?_) | (with_reducible refine wpList_load1C rfl (g := w.heap.size) (f := 1) rfl (v := .int .i64 a) (by kernel_rfl) (F.row m1) rfl ukindInt64 ?_) | (with_reducible refine wpList_load1C rfl (g := w.heap.size) (f := 2) rfl (v := .int .i64 b) (by kernel_rfl) (F.row m1) rfl ukindInt64 ?_)) | ((with_reducible refine listN F ?_); clear F; intro wN F))
  go_ret
  exact ⟨rfl, F.below⟩
theorem same {t : ByteArray} {k a b c k' a' b' c' : Int} (h : (PD t k a b ∧ c = 0) ∨ ((∀ k' a' b', ¬ PD t k' a' b') ∧ k = 0 ∧ a = 0 ∧ b = 0 ∧ c = 5)) (h' : (PD t k' a' b' ∧ c' = 0) ∨ ((∀ k' a' b', ¬ PD t k' a' b') ∧ k' = 0 ∧ a' = 0 ∧ b' = 0 ∧ c' = 5)) : k' = k ∧ a' = a ∧ b' = b ∧ c' = c := by
  rcases h with ⟨p, rfl⟩ | ⟨n, rfl, rfl, rfl, rfl⟩ <;> rcases h' with ⟨p', rfl⟩ | ⟨n', rfl, rfl, rfl, rfl⟩
  · obtain ⟨rfl, rfl, rfl⟩ := pd_uniq p p'; exact ⟨rfl, rfl, rfl, rfl⟩
  · exact absurd p (n' _ _ _)
  · exact absurd p' (n _ _ _)
  · exact ⟨rfl, rfl, rfl, rfl⟩
set_option maxRecDepth 100000 in
set_option maxHeartbeats 4000000 in
theorem walk (a0 : ByteArray) (w : World) (w0 : a0.size ≤ maxLen) (hT : Tab10 w) :
    Calls Tryd.prog 4 #[.string a0] w fun e w' => e = .returned (.bool true) ∧ Below w.heap.size w w' := by
  unfold maxLen at w0
  by_cases h20 : 1048576 < a0.size
  · have h20' : (1048576 : Int) < (a0.size : Int) := by omega
    clear h20
    go_enter Tryd.func4, Tryd.ntmps4
    go_wp2
    go_ret
    exact ⟨rfl, le_refl _⟩
  have HS := hid (fun (w' : World) => s_ReadDeed a0 w' (by omega))
  have HI := hid (fun (w' : World) (hl : le w w') => i_ReadDeed a0 w' (by omega) (hT.le hl))
  have h20' : ¬ (1048576 : Int) < (a0.size : Int) := by omega
  clear h20 hT
  have HE := hid eqDeed_yes
  have F := Frg.nil w
  go_enter Tryd.func4, Tryd.ntmps4
  go_wp2_with (first | (go_at_call 9; ((with_reducible refine (HS.out _).mono ?_); rintro e w1 ⟨k, a, b, c, rfl, hl, hS⟩; replace F := F.le hl; clear hl; replace hS := hid hS)) | ((with_reducible refine listN F ?_); clear F; intro wN F) | (with_reducible refine stop_store rfl ?_))
  replace F := F.box 25 #[.int .i64 0, .int .i64 0, .int .i64 0]
  show wpList _ _ _ _ _ _
  refine wpList_storeD rfl rfl rfl (cells := #[.int .i64 k, .int .i64 a, .int .i64 b]) rfl (F.row m0) uinfoDeedI rfl (by (simp only [List.all_toArray', List.all_cons, List.all_nil, Bool.and_true, Bool.true_and]) <;> rfl) (fun w6 K => ?_)
  replace F := F.wrI0 K
  clear K
  go_wp2_with (first | (go_at_call 10; ((with_reducible refine (HI.out _ F.below).mono ?_); rintro e w1 ⟨k', a', b', c', rfl, hl, hI⟩; replace F := F.le hl; clear hl; replace hI := hid hI)) | ((with_reducible refine listN F ?_); clear F; intro wN F) | (with_reducible refine stop_store rfl ?_))
  obtain ⟨rfl, rfl, rfl, rfl⟩ := same hS.out hI.out
  clear hS hI
  replace F := F.box 25 #[.int .i64 0, .int .i64 0, .int .i64 0]
  show wpList _ _ _ _ _ _
  refine wpList_storeD rfl rfl rfl (cells := #[.int .i64 k', .int .i64 a', .int .i64 b']) rfl (F.row m0) uinfoDeedI rfl (by (simp only [List.all_toArray', List.all_cons, List.all_nil, Bool.and_true, Bool.true_and]) <;> rfl) (fun w6 K => ?_)
  replace F := F.wrI0 K
  clear K
  go_wp2_with (first | ((with_reducible refine at_load rfl ?_); first | (with_reducible refine wpList_loadG F rfl rfl rfl m0 Tryd.underlying25 rfl uinfoDeedI rfl ?_) | (with_reducible refine wpList_loadG F rfl rfl rfl m1 Tryd.underlying25 rfl uinfoDeedI rfl ?_)) | (go_at_call 11; ((with_reducible refine (HE.out _ _ _ _).mono ?_); rintro e w1 ⟨rfl, hl⟩; replace F := F.le hl; clear hl)) | ((with_reducible refine listN F ?_); clear F; intro wN F))
  go_ret
  exact ⟨rfl, F.below⟩
end Go.Proofs.YtogledmlbcmkjaaDoor.fnExactReadDeed
