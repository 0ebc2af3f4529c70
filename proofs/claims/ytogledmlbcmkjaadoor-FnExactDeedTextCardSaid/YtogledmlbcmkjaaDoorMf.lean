/- Texts of the walk, laid in one file. -/
import Derived.Test.YtogledmlbcmkjaaDoorMe
set_option linter.unusedVariables false
set_option linter.unusedSimpArgs false
/- The text of a deed, of both. -/
namespace Go.Fk
open Go Go.RowKit
/-- The word of a kind. -/
def wordD (k : Int) : ByteArray := ([⟨#[]⟩, ⟨#[103, 105, 118, 101]⟩, ⟨#[119, 111, 114, 107]⟩, ⟨#[100, 101, 108, 105, 118, 101, 114]⟩, ⟨#[99, 111, 112, 121]⟩, ⟨#[100, 114, 111, 112]⟩, ⟨#[115, 112, 111, 105, 108]⟩, ⟨#[115, 121, 110, 99]⟩, ⟨#[99, 114, 97, 115, 104]⟩, ⟨#[113, 117, 105, 116]⟩] : List ByteArray).getD k.toNat ⟨#[]⟩
/-- The text of a deed. -/
def deedT (k a b : Int) : ByteArray := if okD k a b then jnB spB (([wordD k, decT a.toNat, decT b.toNat] : List ByteArray).take (1 + (numD k).toNat)) else ⟨#[]⟩
theorem isD_nat {a : Int} {m : Bool} (h : isD a m = true) : ∃ n : Nat, a = n ∧ n ≤ 999 := by
  unfold isD at h
  simp only [Bool.or_eq_true, Bool.and_eq_true, decide_eq_true_eq] at h
  refine ⟨a.toNat, ?_, ?_⟩ <;> omega
theorem okD_parts {k a b : Int} (h : okD k a b = true) : (k = 1 ∨ k = 2 ∨ k = 3 ∨ k = 4 ∨ k = 5 ∨ k = 6 ∨ k = 7 ∨ k = 8 ∨ k = 9) ∧ (∃ n : Nat, a = n ∧ n ≤ 999) ∧ (∃ n : Nat, b = n ∧ n ≤ 999) := by
  unfold okD at h
  simp only [Bool.and_eq_true, decide_eq_true_eq] at h
  exact ⟨by omega, isD_nat h.1.2, isD_nat h.2⟩
end Go.Fk
namespace Go.Proofs.YtogledmlbcmkjaaDoor
open Go.RowKit Go.Fk
set_option maxRecDepth 100000 in
set_option maxHeartbeats 4000000 in
theorem infoNames : (Tryd.prog.info? 9).map (fun i => (i.zero, i.size, i.bytes)) = some (some (.string ⟨#[]⟩), 1, 16) := by kernel_rfl
set_option maxRecDepth 100000 in
set_option maxHeartbeats 4000000 in
theorem s_l10Names (w : World) : Calls Tryd.prog 18 #[] w fun e w' => ∃ z, e = .returned (.slice (some ⟨z, 0, none⟩) 10 10) ∧ Row w' z 9 #[.string ⟨#[]⟩, .string ⟨#[103, 105, 118, 101]⟩, .string ⟨#[119, 111, 114, 107]⟩, .string ⟨#[100, 101, 108, 105, 118, 101, 114]⟩, .string ⟨#[99, 111, 112, 121]⟩, .string ⟨#[100, 114, 111, 112]⟩, .string ⟨#[115, 112, 111, 105, 108]⟩, .string ⟨#[115, 121, 110, 99]⟩, .string ⟨#[99, 114, 97, 115, 104]⟩, .string ⟨#[113, 117, 105, 116]⟩] ∧ w.heap.size ≤ z ∧ le w w' := by
  have F := Frg.nil w
  go_enter Tryd.func18, Tryd.ntmps18
  go_wp2
  go_ret
  exact ⟨_, rfl, Row.new _ _ _, Nat.le_refl _, le_alloc _ _⟩
set_option maxRecDepth 100000 in
set_option maxHeartbeats 4000000 in
theorem s_DeedText (k a b : Int) (w : World) : Calls Tryd.prog 6 #[.agg #[.int .i64 k, .int .i64 a, .int .i64 b]] w (Out_t (deedT k a b) w) := by
  obtain ⟨v, hv⟩ : ∃ v, v = okD k a b := ⟨_, rfl⟩
  have HV := hid (fun (w' : World) => s_ValidDeed k a b w')
  rw [← hv] at HV
  cases v
  · have E := hid (show deedT k a b = ⟨#[]⟩ by unfold deedT; rw [← hv]; rfl)
    clear hv
    have F := (Frg.nil w).box 25 #[.int .i64 k, .int .i64 a, .int .i64 b]
    go_enter Tryd.func6, Tryd.ntmps6
    go_wp2_with (first | ((with_reducible refine listN F ?_); clear F; intro wN F) | ((with_reducible refine at_load rfl ?_); (with_reducible refine wpList_loadG F rfl rfl rfl m0 Tryd.underlying25 rfl uinfoDeedI rfl ?_)) | (go_at_call 17; ((with_reducible refine (HV.out _).mono ?_); rintro e w1 ⟨rfl, hl1⟩; replace F := F.le hl1; clear hl1)))
    go_ret
    exact ⟨by rw [E.out]; rfl, F.below⟩
  obtain ⟨hk, ⟨na, rfl, ha⟩, nb, rfl, hb⟩ := okD_parts hv.symm
  have HN := hid (fun (w : World) => s_l10Numbers k w)
  have HL := hid s_l10Names
  have HD := hid s_Decimal
  have za := decT_size na (by omega)
  have zb := decT_size nb (by omega)
  rcases hk with rfl | hk
  · have F := (Frg.nil w).box 25 #[.int .i64 1, .int .i64 (na : Nat), .int .i64 (nb : Nat)]
    have E := hid (show deedT 1 (na : Int) (nb : Int) = jnB spB [wordD 1, decT na] by unfold deedT; rw [← hv]; rfl)
    have HN1 := hid (show ∀ w, Calls Tryd.prog 19 #[.int .i64 1] w (fun e w' => e = .returned (.int .i64 1) ∧ w = w') from HN.out)
    have E2 := hid (show deedT 1 (na : Int) (nb : Int) = wordD 1 ++ ((⟨#[32]⟩ : ByteArray) ++ decT na) by rw [E.out]; simp only [jnB_cons, jnB_one, ba_assoc]; rfl)
    have zw : (wordD 1).size = 4 := rfl
    clear hv HN
    go_enter Tryd.func6, Tryd.ntmps6
    go_wp2_with (first | ((with_reducible refine listN F ?_); clear F; intro wN F) | ((with_reducible refine at_load rfl ?_); (with_reducible refine wpList_loadG F rfl rfl rfl m0 Tryd.underlying25 rfl uinfoDeedI rfl ?_)) | (go_at_call 17; ((with_reducible refine (HV.out _).mono ?_); rintro e w1 ⟨rfl, hl1⟩; replace F := F.le hl1; clear hl1)))
    first | (refine wpAt0 F ?_; clear F; intro wN F) | (refine wpAtN F ?_; clear F; intro wN F)
    have FD := F.drewN 1
    refine region_tailD (E := leX) (fun f args w v => ∃ z, v = .slice (some ⟨z, 0, none⟩) 10 10 ∧ Row w z 9 #[.string ⟨#[]⟩, .string ⟨#[103, 105, 118, 101]⟩, .string ⟨#[119, 111, 114, 107]⟩, .string ⟨#[100, 101, 108, 105, 118, 101, 114]⟩, .string ⟨#[99, 111, 112, 121]⟩, .string ⟨#[100, 114, 111, 112]⟩, .string ⟨#[115, 112, 111, 105, 108]⟩, .string ⟨#[115, 121, 110, 99]⟩, .string ⟨#[99, 114, 97, 115, 104]⟩, .string ⟨#[113, 117, 105, 116]⟩]) 3 (by kernel_rfl) (by kernel_rfl) ?_
    simp only [List.take_succ_cons, List.take_zero, List.drop_succ_cons, List.drop_zero]
    refine wpFreeD_callB rfl rfl Tryd.func18 (by kernel_rfl) (by kernel_rfl) (args := #[]) (by simp [Act.eval]) (fun v w1 w2 hw hv => by obtain ⟨z, h1, h2⟩ := hv; exact ⟨z, h1, h2.le hw⟩) (fun w1 hw1 _ => (HL.out w1).mono ?_) ?_
    · rintro e w2 ⟨z, rfl, hr, _, hl⟩
      exact ⟨_, rfl, hl, z, rfl, hr⟩
    rintro v ⟨_, _, _, z, rfl, _⟩
    simp only [Act.put, List.setIfInBounds_toArray, List.set_cons_succ, List.set_cons_zero]
    refine wpFreeD_one rfl (.pointer (some ⟨w.heap.size, 0, none⟩)) (fun w1 _ => by kernel_rfl) ?_
    simp only [Act.put, List.setIfInBounds_toArray, List.set_cons_succ, List.set_cons_zero]
    refine wpFreeD_load1 rfl rfl rfl (p := ⟨w.heap.size, 0, none⟩) (v := .int .i64 1) (fun w1 h1 => by rw [((FD.le h1).row m0).cell?]; rfl) ukindInt64 ?_
    simp only [Act.put, List.setIfInBounds_toArray, List.set_cons_succ, List.set_cons_zero]
    refine wpFreeD_nil (fun wR hwR hF => ?_)
    obtain ⟨z', hz', hrow⟩ := (hF 0).1.1.2 rfl
    clear hF
    simp only [Value.slice.injEq, Option.some.injEq, Addr.mk.injEq] at hz'
    obtain ⟨⟨rfl, _⟩, _⟩ := hz'
    replace F := FD.le hwR
    clear hwR FD
    have cz := hid (show wR.cell? ⟨z, 1, none⟩ = some (.string (wordD 1)) by rw [hrow.cell?]; rfl)
    have rz := hrow
    clear hrow
    go_wp2_with (first | ((with_reducible refine listN F ?_); clear F; intro wN F) | ((with_reducible refine at_load rfl ?_); first | (with_reducible refine wpList_load1G rfl (p := ⟨z, 1, none⟩) rfl (v := .string (wordD 1)) (by kernel_rfl) cz.out ukindString ?_) | (with_reducible refine wpList_load1C rfl (g := w.heap.size) (f := 0) rfl (v := .int .i64 1) (by kernel_rfl) (F.row m0) rfl ukindInt64 ?_) | (with_reducible refine wpList_load1C rfl (g := w.heap.size) (f := 1) rfl (v := .int .i64 (na : Nat)) (by kernel_rfl) (F.row m0) rfl ukindInt64 ?_) | (with_reducible refine wpList_load1C rfl (g := w.heap.size) (f := 2) rfl (v := .int .i64 (nb : Nat)) (by kernel_rfl) (F.row m0) rfl ukindInt64 ?_)) | (go_at_call 19; ((with_reducible refine (HN1.out _).mono ?_); rintro e w1 ⟨rfl, rfl⟩; skip)) | (go_at_call 20; ((with_reducible refine (HD.out _ (by omega) _).mono ?_); rintro e w1 ⟨rfl, hl1⟩; replace F := F.le hl1; clear hl1)))
    go_ret
    exact ⟨by rw [E2.out]; rfl, F.below⟩
  rcases hk with rfl | hk
  · have F := (Frg.nil w).box 25 #[.int .i64 2, .int .i64 (na : Nat), .int .i64 (nb : Nat)]
    have E := hid (show deedT 2 (na : Int) (nb : Int) = jnB spB [wordD 2, decT na] by unfold deedT; rw [← hv]; rfl)
    have HN1 := hid (show ∀ w, Calls Tryd.prog 19 #[.int .i64 2] w (fun e w' => e = .returned (.int .i64 1) ∧ w = w') from HN.out)
    have E2 := hid (show deedT 2 (na : Int) (nb : Int) = wordD 2 ++ ((⟨#[32]⟩ : ByteArray) ++ decT na) by rw [E.out]; simp only [jnB_cons, jnB_one, ba_assoc]; rfl)
    have zw : (wordD 2).size = 4 := rfl
    clear hv HN
    go_enter Tryd.func6, Tryd.ntmps6
    go_wp2_with (first | ((with_reducible refine listN F ?_); clear F; intro wN F) | ((with_reducible refine at_load rfl ?_); (with_reducible refine wpList_loadG F rfl rfl rfl m0 Tryd.underlying25 rfl uinfoDeedI rfl ?_)) | (go_at_call 17; ((with_reducible refine (HV.out _).mono ?_); rintro e w1 ⟨rfl, hl1⟩; replace F := F.le hl1; clear hl1)))
    first | (refine wpAt0 F ?_; clear F; intro wN F) | (refine wpAtN F ?_; clear F; intro wN F)
    have FD := F.drewN 1
    refine region_tailD (E := leX) (fun f args w v => ∃ z, v = .slice (some ⟨z, 0, none⟩) 10 10 ∧ Row w z 9 #[.string ⟨#[]⟩, .string ⟨#[103, 105, 118, 101]⟩, .string ⟨#[119, 111, 114, 107]⟩, .string ⟨#[100, 101, 108, 105, 118, 101, 114]⟩, .string ⟨#[99, 111, 112, 121]⟩, .string ⟨#[100, 114, 111, 112]⟩, .string ⟨#[115, 112, 111, 105, 108]⟩, .string ⟨#[115, 121, 110, 99]⟩, .string ⟨#[99, 114, 97, 115, 104]⟩, .string ⟨#[113, 117, 105, 116]⟩]) 3 (by kernel_rfl) (by kernel_rfl) ?_
    simp only [List.take_succ_cons, List.take_zero, List.drop_succ_cons, List.drop_zero]
    refine wpFreeD_callB rfl rfl Tryd.func18 (by kernel_rfl) (by kernel_rfl) (args := #[]) (by simp [Act.eval]) (fun v w1 w2 hw hv => by obtain ⟨z, h1, h2⟩ := hv; exact ⟨z, h1, h2.le hw⟩) (fun w1 hw1 _ => (HL.out w1).mono ?_) ?_
    · rintro e w2 ⟨z, rfl, hr, _, hl⟩
      exact ⟨_, rfl, hl, z, rfl, hr⟩
    rintro v ⟨_, _, _, z, rfl, _⟩
    simp only [Act.put, List.setIfInBounds_toArray, List.set_cons_succ, List.set_cons_zero]
    refine wpFreeD_one rfl (.pointer (some ⟨w.heap.size, 0, none⟩)) (fun w1 _ => by kernel_rfl) ?_
    simp only [Act.put, List.setIfInBounds_toArray, List.set_cons_succ, List.set_cons_zero]
    refine wpFreeD_load1 rfl rfl rfl (p := ⟨w.heap.size, 0, none⟩) (v := .int .i64 2) (fun w1 h1 => by rw [((FD.le h1).row m0).cell?]; rfl) ukindInt64 ?_
    simp only [Act.put, List.setIfInBounds_toArray, List.set_cons_succ, List.set_cons_zero]
    refine wpFreeD_nil (fun wR hwR hF => ?_)
    obtain ⟨z', hz', hrow⟩ := (hF 0).1.1.2 rfl
    clear hF
    simp only [Value.slice.injEq, Option.some.injEq, Addr.mk.injEq] at hz'
    obtain ⟨⟨rfl, _⟩, _⟩ := hz'
    replace F := FD.le hwR
    clear hwR FD
    have cz := hid (show wR.cell? ⟨z, 2, none⟩ = some (.string (wordD 2)) by rw [hrow.cell?]; rfl)
    have rz := hrow
    clear hrow
    go_wp2_with (first | ((with_reducible refine listN F ?_); clear F; intro wN F) | ((with_reducible refine at_load rfl ?_); first | (with_reducible refine wpList_load1G rfl (p := ⟨z, 2, none⟩) rfl (v := .string (wordD 2)) (by kernel_rfl) cz.out ukindString ?_) | (with_reducible refine wpList_load1C rfl (g := w.heap.size) (f := 0) rfl (v := .int .i64 2) (by kernel_rfl) (F.row m0) rfl ukindInt64 ?_) | (with_reducible refine wpList_load1C rfl (g := w.heap.size) (f := 1) rfl (v := .int .i64 (na : Nat)) (by kernel_rfl) (F.row m0) rfl ukindInt64 ?_) | (with_reducible refine wpList_load1C rfl (g := w.heap.size) (f := 2) rfl (v := .int .i64 (nb : Nat)) (by kernel_rfl) (F.row m0) rfl ukindInt64 ?_)) | (go_at_call 19; ((with_reducible refine (HN1.out _).mono ?_); rintro e w1 ⟨rfl, rfl⟩; skip)) | (go_at_call 20; ((with_reducible refine (HD.out _ (by omega) _).mono ?_); rintro e w1 ⟨rfl, hl1⟩; replace F := F.le hl1; clear hl1)))
    go_ret
    exact ⟨by rw [E2.out]; rfl, F.below⟩
  rcases hk with rfl | hk
  · have F := (Frg.nil w).box 25 #[.int .i64 3, .int .i64 (na : Nat), .int .i64 (nb : Nat)]
    have E := hid (show deedT 3 (na : Int) (nb : Int) = jnB spB [wordD 3, decT na] by unfold deedT; rw [← hv]; rfl)
    have HN1 := hid (show ∀ w, Calls Tryd.prog 19 #[.int .i64 3] w (fun e w' => e = .returned (.int .i64 1) ∧ w = w') from HN.out)
    have E2 := hid (show deedT 3 (na : Int) (nb : Int) = wordD 3 ++ ((⟨#[32]⟩ : ByteArray) ++ decT na) by rw [E.out]; simp only [jnB_cons, jnB_one, ba_assoc]; rfl)
    have zw : (wordD 3).size = 7 := rfl
    clear hv HN
    go_enter Tryd.func6, Tryd.ntmps6
    go_wp2_with (first | ((with_reducible refine listN F ?_); clear F; intro wN F) | ((with_reducible refine at_load rfl ?_); (with_reducible refine wpList_loadG F rfl rfl rfl m0 Tryd.underlying25 rfl uinfoDeedI rfl ?_)) | (go_at_call 17; ((with_reducible refine (HV.out _).mono ?_); rintro e w1 ⟨rfl, hl1⟩; replace F := F.le hl1; clear hl1)))
    first | (refine wpAt0 F ?_; clear F; intro wN F) | (refine wpAtN F ?_; clear F; intro wN F)
    have FD := F.drewN 1
    refine region_tailD (E := leX) (fun f args w v => ∃ z, v = .slice (some ⟨z, 0, none⟩) 10 10 ∧ Row w z 9 #[.string ⟨#[]⟩, .string ⟨#[103, 105, 118, 101]⟩, .string ⟨#[119, 111, 114, 107]⟩, .string ⟨#[100, 101, 108, 105, 118, 101, 114]⟩, .string ⟨#[99, 111, 112, 121]⟩, .string ⟨#[100, 114, 111, 112]⟩, .string ⟨#[115, 112, 111, 105, 108]⟩, .string ⟨#[115, 121, 110, 99]⟩, .string ⟨#[99, 114, 97, 115, 104]⟩, .string ⟨#[113, 117, 105, 116]⟩]) 3 (by kernel_rfl) (by kernel_rfl) ?_
    simp only [List.take_succ_cons, List.take_zero, List.drop_succ_cons, List.drop_zero]
    refine wpFreeD_callB rfl rfl Tryd.func18 (by kernel_rfl) (by kernel_rfl) (args := #[]) (by simp [Act.eval]) (fun v w1 w2 hw hv => by obtain ⟨z, h1, h2⟩ := hv; exact ⟨z, h1, h2.le hw⟩) (fun w1 hw1 _ => (HL.out w1).mono ?_) ?_
    · rintro e w2 ⟨z, rfl, hr, _, hl⟩
      exact ⟨_, rfl, hl, z, rfl, hr⟩
    rintro v ⟨_, _, _, z, rfl, _⟩
    simp only [Act.put, List.setIfInBounds_toArray, List.set_cons_succ, List.set_cons_zero]
    refine wpFreeD_one rfl (.pointer (some ⟨w.heap.size, 0, none⟩)) (fun w1 _ => by kernel_rfl) ?_
    simp only [Act.put, List.setIfInBounds_toArray, List.set_cons_succ, List.set_cons_zero]
    refine wpFreeD_load1 rfl rfl rfl (p := ⟨w.heap.size, 0, none⟩) (v := .int .i64 3) (fun w1 h1 => by rw [((FD.le h1).row m0).cell?]; rfl) ukindInt64 ?_
    simp only [Act.put, List.setIfInBounds_toArray, List.set_cons_succ, List.set_cons_zero]
    refine wpFreeD_nil (fun wR hwR hF => ?_)
    obtain ⟨z', hz', hrow⟩ := (hF 0).1.1.2 rfl
    clear hF
    simp only [Value.slice.injEq, Option.some.injEq, Addr.mk.injEq] at hz'
    obtain ⟨⟨rfl, _⟩, _⟩ := hz'
    replace F := FD.le hwR
    clear hwR FD
    have cz := hid (show wR.cell? ⟨z, 3, none⟩ = some (.string (wordD 3)) by rw [hrow.cell?]; rfl)
    have rz := hrow
    clear hrow
    go_wp2_with (first | ((with_reducible refine listN F ?_); clear F; intro wN F) | ((with_reducible refine at_load rfl ?_); first | (with_reducible refine wpList_load1G rfl (p := ⟨z, 3, none⟩) rfl (v := .string (wordD 3)) (by kernel_rfl) cz.out ukindString ?_) | (with_reducible refine wpList_load1C rfl (g := w.heap.size) (f := 0) rfl (v := .int .i64 3) (by kernel_rfl) (F.row m0) rfl ukindInt64 ?_) | (with_reducible refine wpList_load1C rfl (g := w.heap.size) (f := 1) rfl (v := .int .i64 (na : Nat)) (by kernel_rfl) (F.row m0) rfl ukindInt64 ?_) | (with_reducible refine wpList_load1C rfl (g := w.heap.size) (f := 2) rfl (v := .int .i64 (nb : Nat)) (by kernel_rfl) (F.row m0) rfl ukindInt64 ?_)) | (go_at_call 19; ((with_reducible refine (HN1.out _).mono ?_); rintro e w1 ⟨rfl, rfl⟩; skip)) | (go_at_call 20; ((with_reducible refine (HD.out _ (by omega) _).mono ?_); rintro e w1 ⟨rfl, hl1⟩; replace F := F.le hl1; clear hl1)))
    go_ret
    exact ⟨by rw [E2.out]; rfl, F.below⟩
  rcases hk with rfl | hk
  · have F := (Frg.nil w).box 25 #[.int .i64 4, .int .i64 (na : Nat), .int .i64 (nb : Nat)]
    have E := hid (show deedT 4 (na : Int) (nb : Int) = jnB spB [wordD 4, decT na] by unfold deedT; rw [← hv]; rfl)
    have HN1 := hid (show ∀ w, Calls Tryd.prog 19 #[.int .i64 4] w (fun e w' => e = .returned (.int .i64 1) ∧ w = w') from HN.out)
    have E2 := hid (show deedT 4 (na : Int) (nb : Int) = wordD 4 ++ ((⟨#[32]⟩ : ByteArray) ++ decT na) by rw [E.out]; simp only [jnB_cons, jnB_one, ba_assoc]; rfl)
    have zw : (wordD 4).size = 4 := rfl
    clear hv HN
    go_enter Tryd.func6, Tryd.ntmps6
    go_wp2_with (first | ((with_reducible refine listN F ?_); clear F; intro wN F) | ((with_reducible refine at_load rfl ?_); (with_reducible refine wpList_loadG F rfl rfl rfl m0 Tryd.underlying25 rfl uinfoDeedI rfl ?_)) | (go_at_call 17; ((with_reducible refine (HV.out _).mono ?_); rintro e w1 ⟨rfl, hl1⟩; replace F := F.le hl1; clear hl1)))
    first | (refine wpAt0 F ?_; clear F; intro wN F) | (refine wpAtN F ?_; clear F; intro wN F)
    have FD := F.drewN 1
    refine region_tailD (E := leX) (fun f args w v => ∃ z, v = .slice (some ⟨z, 0, none⟩) 10 10 ∧ Row w z 9 #[.string ⟨#[]⟩, .string ⟨#[103, 105, 118, 101]⟩, .string ⟨#[119, 111, 114, 107]⟩, .string ⟨#[100, 101, 108, 105, 118, 101, 114]⟩, .string ⟨#[99, 111, 112, 121]⟩, .string ⟨#[100, 114, 111, 112]⟩, .string ⟨#[115, 112, 111, 105, 108]⟩, .string ⟨#[115, 121, 110, 99]⟩, .string ⟨#[99, 114, 97, 115, 104]⟩, .string ⟨#[113, 117, 105, 116]⟩]) 3 (by kernel_rfl) (by kernel_rfl) ?_
    simp only [List.take_succ_cons, List.take_zero, List.drop_succ_cons, List.drop_zero]
    refine wpFreeD_callB rfl rfl Tryd.func18 (by kernel_rfl) (by kernel_rfl) (args := #[]) (by simp [Act.eval]) (fun v w1 w2 hw hv => by obtain ⟨z, h1, h2⟩ := hv; exact ⟨z, h1, h2.le hw⟩) (fun w1 hw1 _ => (HL.out w1).mono ?_) ?_
    · rintro e w2 ⟨z, rfl, hr, _, hl⟩
      exact ⟨_, rfl, hl, z, rfl, hr⟩
    rintro v ⟨_, _, _, z, rfl, _⟩
    simp only [Act.put, List.setIfInBounds_toArray, List.set_cons_succ, List.set_cons_zero]
    refine wpFreeD_one rfl (.pointer (some ⟨w.heap.size, 0, none⟩)) (fun w1 _ => by kernel_rfl) ?_
    simp only [Act.put, List.setIfInBounds_toArray, List.set_cons_succ, List.set_cons_zero]
    refine wpFreeD_load1 rfl rfl rfl (p := ⟨w.heap.size, 0, none⟩) (v := .int .i64 4) (fun w1 h1 => by rw [((FD.le h1).row m0).cell?]; rfl) ukindInt64 ?_
    simp only [Act.put, List.setIfInBounds_toArray, List.set_cons_succ, List.set_cons_zero]
    refine wpFreeD_nil (fun wR hwR hF => ?_)
    obtain ⟨z', hz', hrow⟩ := (hF 0).1.1.2 rfl
    clear hF
    simp only [Value.slice.injEq, Option.some.injEq, Addr.mk.injEq] at hz'
    obtain ⟨⟨rfl, _⟩, _⟩ := hz'
    replace F := FD.le hwR
    clear hwR FD
    have cz := hid (show wR.cell? ⟨z, 4, none⟩ = some (.string (wordD 4)) by rw [hrow.cell?]; rfl)
    have rz := hrow
    clear hrow
    go_wp2_with (first | ((with_reducible refine listN F ?_); clear F; intro wN F) | ((with_reducible refine at_load rfl ?_); first | (with_reducible refine wpList_load1G rfl (p := ⟨z, 4, none⟩) rfl (v := .string (wordD 4)) (by kernel_rfl) cz.out ukindString ?_) | (with_reducible refine wpList_load1C rfl (g := w.heap.size) (f := 0) rfl (v := .int .i64 4) (by kernel_rfl) (F.row m0) rfl ukindInt64 ?_) | (with_reducible refine wpList_load1C rfl (g := w.heap.size) (f := 1) rfl (v := .int .i64 (na : Nat)) (by kernel_rfl) (F.row m0) rfl ukindInt64 ?_) | (with_reducible refine wpList_load1C rfl (g := w.heap.size) (f := 2) rfl (v := .int .i64 (nb : Nat)) (by kernel_rfl) (F.row m0) rfl ukindInt64 ?_)) | (go_at_call 19; ((with_reducible refine (HN1.out _).mono ?_); rintro e w1 ⟨rfl, rfl⟩; skip)) | (go_at_call 20; ((with_reducible refine (HD.out _ (by omega) _).mono ?_); rintro e w1 ⟨rfl, hl1⟩; replace F := F.le hl1; clear hl1)))
    go_ret
    exact ⟨by rw [E2.out]; rfl, F.below⟩
  rcases hk with rfl | hk
  · have F := (Frg.nil w).box 25 #[.int .i64 5, .int .i64 (na : Nat), .int .i64 (nb : Nat)]
    have E := hid (show deedT 5 (na : Int) (nb : Int) = jnB spB [wordD 5, decT na] by unfold deedT; rw [← hv]; rfl)
    have HN1 := hid (show ∀ w, Calls Tryd.prog 19 #[.int .i64 5] w (fun e w' => e = .returned (.int .i64 1) ∧ w = w') from HN.out)
    have E2 := hid (show deedT 5 (na : Int) (nb : Int) = wordD 5 ++ ((⟨#[32]⟩ : ByteArray) ++ decT na) by rw [E.out]; simp only [jnB_cons, jnB_one, ba_assoc]; rfl)
    have zw : (wordD 5).size = 4 := rfl
    clear hv HN
    go_enter Tryd.func6, Tryd.ntmps6
    go_wp2_with (first | ((with_reducible refine listN F ?_); clear F; intro wN F) | ((with_reducible refine at_load rfl ?_); (with_reducible refine wpList_loadG F rfl rfl rfl m0 Tryd.underlying25 rfl uinfoDeedI rfl ?_)) | (go_at_call 17; ((with_reducible refine (HV.out _).mono ?_); rintro e w1 ⟨rfl, hl1⟩; replace F := F.le hl1; clear hl1)))
    first | (refine wpAt0 F ?_; clear F; intro wN F) | (refine wpAtN F ?_; clear F; intro wN F)
    have FD := F.drewN 1
    refine region_tailD (E := leX) (fun f args w v => ∃ z, v = .slice (some ⟨z, 0, none⟩) 10 10 ∧ Row w z 9 #[.string ⟨#[]⟩, .string ⟨#[103, 105, 118, 101]⟩, .string ⟨#[119, 111, 114, 107]⟩, .string ⟨#[100, 101, 108, 105, 118, 101, 114]⟩, .string ⟨#[99, 111, 112, 121]⟩, .string ⟨#[100, 114, 111, 112]⟩, .string ⟨#[115, 112, 111, 105, 108]⟩, .string ⟨#[115, 121, 110, 99]⟩, .string ⟨#[99, 114, 97, 115, 104]⟩, .string ⟨#[113, 117, 105, 116]⟩]) 3 (by kernel_rfl) (by kernel_rfl) ?_
    simp only [List.take_succ_cons, List.take_zero, List.drop_succ_cons, List.drop_zero]
    refine wpFreeD_callB rfl rfl Tryd.func18 (by kernel_rfl) (by kernel_rfl) (args := #[]) (by simp [Act.eval]) (fun v w1 w2 hw hv => by obtain ⟨z, h1, h2⟩ := hv; exact ⟨z, h1, h2.le hw⟩) (fun w1 hw1 _ => (HL.out w1).mono ?_) ?_
    · rintro e w2 ⟨z, rfl, hr, _, hl⟩
      exact ⟨_, rfl, hl, z, rfl, hr⟩
    rintro v ⟨_, _, _, z, rfl, _⟩
    simp only [Act.put, List.setIfInBounds_toArray, List.set_cons_succ, List.set_cons_zero]
    refine wpFreeD_one rfl (.pointer (some ⟨w.heap.size, 0, none⟩)) (fun w1 _ => by kernel_rfl) ?_
    simp only [Act.put, List.setIfInBounds_toArray, List.set_cons_succ, List.set_cons_zero]
    refine wpFreeD_load1 rfl rfl rfl (p := ⟨w.heap.size, 0, none⟩) (v := .int .i64 5) (fun w1 h1 => by rw [((FD.le h1).row m0).cell?]; rfl) ukindInt64 ?_
    simp only [Act.put, List.setIfInBounds_toArray, List.set_cons_succ, List.set_cons_zero]
    refine wpFreeD_nil (fun wR hwR hF => ?_)
    obtain ⟨z', hz', hrow⟩ := (hF 0).1.1.2 rfl
    clear hF
    simp only [Value.slice.injEq, Option.some.injEq, Addr.mk.injEq] at hz'
    obtain ⟨⟨rfl, _⟩, _⟩ := hz'
    replace F := FD.le hwR
    clear hwR FD
    have cz := hid (show wR.cell? ⟨z, 5, none⟩ = some (.string (wordD 5)) by rw [hrow.cell?]; rfl)
    have rz := hrow
    clear hrow
    go_wp2_with (first | ((with_reducible refine listN F ?_); clear F; intro wN F) | ((with_reducible refine at_load rfl ?_); first | (with_reducible refine wpList_load1G rfl (p := ⟨z, 5, none⟩) rfl (v := .string (wordD 5)) (by kernel_rfl) cz.out ukindString ?_) | (with_reducible refine wpList_load1C rfl (g := w.heap.size) (f := 0) rfl (v := .int .i64 5) (by kernel_rfl) (F.row m0) rfl ukindInt64 ?_) | (with_reducible refine wpList_load1C rfl (g := w.heap.size) (f := 1) rfl (v := .int .i64 (na : Nat)) (by kernel_rfl) (F.row m0) rfl ukindInt64 ?_) | (with_reducible refine wpList_load1C rfl (g := w.heap.size) (f := 2) rfl (v := .int .i64 (nb : Nat)) (by kernel_rfl) (F.row m0) rfl ukindInt64 ?_)) | (go_at_call 19; ((with_reducible refine (HN1.out _).mono ?_); rintro e w1 ⟨rfl, rfl⟩; skip)) | (go_at_call 20; ((with_reducible refine (HD.out _ (by omega) _).mono ?_); rintro e w1 ⟨rfl, hl1⟩; replace F := F.le hl1; clear hl1)))
    go_ret
    exact ⟨by rw [E2.out]; rfl, F.below⟩
  rcases hk with rfl | hk
  · have F := (Frg.nil w).box 25 #[.int .i64 6, .int .i64 (na : Nat), .int .i64 (nb : Nat)]
    have E := hid (show deedT 6 (na : Int) (nb : Int) = jnB spB [wordD 6, decT na, decT nb] by unfold deedT; rw [← hv]; rfl)
    have HN1 := hid (show ∀ w, Calls Tryd.prog 19 #[.int .i64 6] w (fun e w' => e = .returned (.int .i64 2) ∧ w = w') from HN.out)
    have E2 := hid (show deedT 6 (na : Int) (nb : Int) = wordD 6 ++ ((⟨#[32]⟩ : ByteArray) ++ decT na) ++ ((⟨#[32]⟩ : ByteArray) ++ decT nb) by rw [E.out]; simp only [jnB_cons, jnB_one, ba_assoc]; rfl)
    have zw : (wordD 6).size = 5 := rfl
    clear hv HN
    go_enter Tryd.func6, Tryd.ntmps6
    go_wp2_with (first | ((with_reducible refine listN F ?_); clear F; intro wN F) | ((with_reducible refine at_load rfl ?_); (with_reducible refine wpList_loadG F rfl rfl rfl m0 Tryd.underlying25 rfl uinfoDeedI rfl ?_)) | (go_at_call 17; ((with_reducible refine (HV.out _).mono ?_); rintro e w1 ⟨rfl, hl1⟩; replace F := F.le hl1; clear hl1)))
    first | (refine wpAt0 F ?_; clear F; intro wN F) | (refine wpAtN F ?_; clear F; intro wN F)
    have FD := F.drewN 1
    refine region_tailD (E := leX) (fun f args w v => ∃ z, v = .slice (some ⟨z, 0, none⟩) 10 10 ∧ Row w z 9 #[.string ⟨#[]⟩, .string ⟨#[103, 105, 118, 101]⟩, .string ⟨#[119, 111, 114, 107]⟩, .string ⟨#[100, 101, 108, 105, 118, 101, 114]⟩, .string ⟨#[99, 111, 112, 121]⟩, .string ⟨#[100, 114, 111, 112]⟩, .string ⟨#[115, 112, 111, 105, 108]⟩, .string ⟨#[115, 121, 110, 99]⟩, .string ⟨#[99, 114, 97, 115, 104]⟩, .string ⟨#[113, 117, 105, 116]⟩]) 3 (by kernel_rfl) (by kernel_rfl) ?_
    simp only [List.take_succ_cons, List.take_zero, List.drop_succ_cons, List.drop_zero]
    refine wpFreeD_callB rfl rfl Tryd.func18 (by kernel_rfl) (by kernel_rfl) (args := #[]) (by simp [Act.eval]) (fun v w1 w2 hw hv => by obtain ⟨z, h1, h2⟩ := hv; exact ⟨z, h1, h2.le hw⟩) (fun w1 hw1 _ => (HL.out w1).mono ?_) ?_
    · rintro e w2 ⟨z, rfl, hr, _, hl⟩
      exact ⟨_, rfl, hl, z, rfl, hr⟩
    rintro v ⟨_, _, _, z, rfl, _⟩
    simp only [Act.put, List.setIfInBounds_toArray, List.set_cons_succ, List.set_cons_zero]
    refine wpFreeD_one rfl (.pointer (some ⟨w.heap.size, 0, none⟩)) (fun w1 _ => by kernel_rfl) ?_
    simp only [Act.put, List.setIfInBounds_toArray, List.set_cons_succ, List.set_cons_zero]
    refine wpFreeD_load1 rfl rfl rfl (p := ⟨w.heap.size, 0, none⟩) (v := .int .i64 6) (fun w1 h1 => by rw [((FD.le h1).row m0).cell?]; rfl) ukindInt64 ?_
    simp only [Act.put, List.setIfInBounds_toArray, List.set_cons_succ, List.set_cons_zero]
    refine wpFreeD_nil (fun wR hwR hF => ?_)
    obtain ⟨z', hz', hrow⟩ := (hF 0).1.1.2 rfl
    clear hF
    simp only [Value.slice.injEq, Option.some.injEq, Addr.mk.injEq] at hz'
    obtain ⟨⟨rfl, _⟩, _⟩ := hz'
    replace F := FD.le hwR
    clear hwR FD
    have cz := hid (show wR.cell? ⟨z, 6, none⟩ = some (.string (wordD 6)) by rw [hrow.cell?]; rfl)
    have rz := hrow
    clear hrow
    go_wp2_with (first | ((with_reducible refine listN F ?_); clear F; intro wN F) | ((with_reducible refine at_load rfl ?_); first | (with_reducible refine wpList_load1G rfl (p := ⟨z, 6, none⟩) rfl (v := .string (wordD 6)) (by kernel_rfl) cz.out ukindString ?_) | (with_reducible refine wpList_load1C rfl (g := w.heap.size) (f := 0) rfl (v := .int .i64 6) (by kernel_rfl) (F.row m0) rfl ukindInt64 ?_) | (with_reducible refine wpList_load1C rfl (g := w.heap.size) (f := 1) rfl (v := .int .i64 (na : Nat)) (by kernel_rfl) (F.row m0) rfl ukindInt64 ?_) | (with_reducible refine wpList_load1C rfl (g := w.heap.size) (f := 2) rfl (v := .int .i64 (nb : Nat)) (by kernel_rfl) (F.row m0) rfl ukindInt64 ?_)) | (go_at_call 19; ((with_reducible refine (HN1.out _).mono ?_); rintro e w1 ⟨rfl, rfl⟩; skip)) | (go_at_call 20; ((with_reducible refine (HD.out _ (by omega) _).mono ?_); rintro e w1 ⟨rfl, hl1⟩; replace F := F.le hl1; clear hl1)))
    go_ret
    exact ⟨by rw [E2.out]; rfl, F.below⟩
  rcases hk with rfl | hk
  · have F := (Frg.nil w).box 25 #[.int .i64 7, .int .i64 (na : Nat), .int .i64 (nb : Nat)]
    have E := hid (show deedT 7 (na : Int) (nb : Int) = jnB spB [wordD 7] by unfold deedT; rw [← hv]; rfl)
    have HN1 := hid (show ∀ w, Calls Tryd.prog 19 #[.int .i64 7] w (fun e w' => e = .returned (.int .i64 0) ∧ w = w') from HN.out)
    have E2 := hid (show deedT 7 (na : Int) (nb : Int) = wordD 7 by rw [E.out]; exact jnB_one _ _)
    have zw : (wordD 7).size = 4 := rfl
    clear hv HN
    go_enter Tryd.func6, Tryd.ntmps6
    go_wp2_with (first | ((with_reducible refine listN F ?_); clear F; intro wN F) | ((with_reducible refine at_load rfl ?_); (with_reducible refine wpList_loadG F rfl rfl rfl m0 Tryd.underlying25 rfl uinfoDeedI rfl ?_)) | (go_at_call 17; ((with_reducible refine (HV.out _).mono ?_); rintro e w1 ⟨rfl, hl1⟩; replace F := F.le hl1; clear hl1)))
    first | (refine wpAt0 F ?_; clear F; intro wN F) | (refine wpAtN F ?_; clear F; intro wN F)
    have FD := F.drewN 1
    refine region_tailD (E := leX) (fun f args w v => ∃ z, v = .slice (some ⟨z, 0, none⟩) 10 10 ∧ Row w z 9 #[.string ⟨#[]⟩, .string ⟨#[103, 105, 118, 101]⟩, .string ⟨#[119, 111, 114, 107]⟩, .string ⟨#[100, 101, 108, 105, 118, 101, 114]⟩, .string ⟨#[99, 111, 112, 121]⟩, .string ⟨#[100, 114, 111, 112]⟩, .string ⟨#[115, 112, 111, 105, 108]⟩, .string ⟨#[115, 121, 110, 99]⟩, .string ⟨#[99, 114, 97, 115, 104]⟩, .string ⟨#[113, 117, 105, 116]⟩]) 3 (by kernel_rfl) (by kernel_rfl) ?_
    simp only [List.take_succ_cons, List.take_zero, List.drop_succ_cons, List.drop_zero]
    refine wpFreeD_callB rfl rfl Tryd.func18 (by kernel_rfl) (by kernel_rfl) (args := #[]) (by simp [Act.eval]) (fun v w1 w2 hw hv => by obtain ⟨z, h1, h2⟩ := hv; exact ⟨z, h1, h2.le hw⟩) (fun w1 hw1 _ => (HL.out w1).mono ?_) ?_
    · rintro e w2 ⟨z, rfl, hr, _, hl⟩
      exact ⟨_, rfl, hl, z, rfl, hr⟩
    rintro v ⟨_, _, _, z, rfl, _⟩
    simp only [Act.put, List.setIfInBounds_toArray, List.set_cons_succ, List.set_cons_zero]
    refine wpFreeD_one rfl (.pointer (some ⟨w.heap.size, 0, none⟩)) (fun w1 _ => by kernel_rfl) ?_
    simp only [Act.put, List.setIfInBounds_toArray, List.set_cons_succ, List.set_cons_zero]
    refine wpFreeD_load1 rfl rfl rfl (p := ⟨w.heap.size, 0, none⟩) (v := .int .i64 7) (fun w1 h1 => by rw [((FD.le h1).row m0).cell?]; rfl) ukindInt64 ?_
    simp only [Act.put, List.setIfInBounds_toArray, List.set_cons_succ, List.set_cons_zero]
    refine wpFreeD_nil (fun wR hwR hF => ?_)
    obtain ⟨z', hz', hrow⟩ := (hF 0).1.1.2 rfl
    clear hF
    simp only [Value.slice.injEq, Option.some.injEq, Addr.mk.injEq] at hz'
    obtain ⟨⟨rfl, _⟩, _⟩ := hz'
    replace F := FD.le hwR
    clear hwR FD
    have cz := hid (show wR.cell? ⟨z, 7, none⟩ = some (.string (wordD 7)) by rw [hrow.cell?]; rfl)
    have rz := hrow
    clear hrow
    go_wp2_with (first | ((with_reducible refine listN F ?_); clear F; intro wN F) | ((with_reducible refine at_load rfl ?_); first | (with_reducible refine wpList_load1G rfl (p := ⟨z, 7, none⟩) rfl (v := .string (wordD 7)) (by kernel_rfl) cz.out ukindString ?_) | (with_reducible refine wpList_load1C rfl (g := w.heap.size) (f := 0) rfl (v := .int .i64 7) (by kernel_rfl) (F.row m0) rfl ukindInt64 ?_) | (with_reducible refine wpList_load1C rfl (g := w.heap.size) (f := 1) rfl (v := .int .i64 (na : Nat)) (by kernel_rfl) (F.row m0) rfl ukindInt64 ?_) | (with_reducible refine wpList_load1C rfl (g := w.heap.size) (f := 2) rfl (v := .int .i64 (nb : Nat)) (by kernel_rfl) (F.row m0) rfl ukindInt64 ?_)) | (go_at_call 19; ((with_reducible refine (HN1.out _).mono ?_); rintro e w1 ⟨rfl, rfl⟩; skip)) | (go_at_call 20; ((with_reducible refine (HD.out _ (by omega) _).mono ?_); rintro e w1 ⟨rfl, hl1⟩; replace F := F.le hl1; clear hl1)))
    go_ret
    exact ⟨by rw [E2.out]; rfl, F.below⟩
  rcases hk with rfl | hk
  · have F := (Frg.nil w).box 25 #[.int .i64 8, .int .i64 (na : Nat), .int .i64 (nb : Nat)]
    have E := hid (show deedT 8 (na : Int) (nb : Int) = jnB spB [wordD 8] by unfold deedT; rw [← hv]; rfl)
    have HN1 := hid (show ∀ w, Calls Tryd.prog 19 #[.int .i64 8] w (fun e w' => e = .returned (.int .i64 0) ∧ w = w') from HN.out)
    have E2 := hid (show deedT 8 (na : Int) (nb : Int) = wordD 8 by rw [E.out]; exact jnB_one _ _)
    have zw : (wordD 8).size = 5 := rfl
    clear hv HN
    go_enter Tryd.func6, Tryd.ntmps6
    go_wp2_with (first | ((with_reducible refine listN F ?_); clear F; intro wN F) | ((with_reducible refine at_load rfl ?_); (with_reducible refine wpList_loadG F rfl rfl rfl m0 Tryd.underlying25 rfl uinfoDeedI rfl ?_)) | (go_at_call 17; ((with_reducible refine (HV.out _).mono ?_); rintro e w1 ⟨rfl, hl1⟩; replace F := F.le hl1; clear hl1)))
    first | (refine wpAt0 F ?_; clear F; intro wN F) | (refine wpAtN F ?_; clear F; intro wN F)
    have FD := F.drewN 1
    refine region_tailD (E := leX) (fun f args w v => ∃ z, v = .slice (some ⟨z, 0, none⟩) 10 10 ∧ Row w z 9 #[.string ⟨#[]⟩, .string ⟨#[103, 105, 118, 101]⟩, .string ⟨#[119, 111, 114, 107]⟩, .string ⟨#[100, 101, 108, 105, 118, 101, 114]⟩, .string ⟨#[99, 111, 112, 121]⟩, .string ⟨#[100, 114, 111, 112]⟩, .string ⟨#[115, 112, 111, 105, 108]⟩, .string ⟨#[115, 121, 110, 99]⟩, .string ⟨#[99, 114, 97, 115, 104]⟩, .string ⟨#[113, 117, 105, 116]⟩]) 3 (by kernel_rfl) (by kernel_rfl) ?_
    simp only [List.take_succ_cons, List.take_zero, List.drop_succ_cons, List.drop_zero]
    refine wpFreeD_callB rfl rfl Tryd.func18 (by kernel_rfl) (by kernel_rfl) (args := #[]) (by simp [Act.eval]) (fun v w1 w2 hw hv => by obtain ⟨z, h1, h2⟩ := hv; exact ⟨z, h1, h2.le hw⟩) (fun w1 hw1 _ => (HL.out w1).mono ?_) ?_
    · rintro e w2 ⟨z, rfl, hr, _, hl⟩
      exact ⟨_, rfl, hl, z, rfl, hr⟩
    rintro v ⟨_, _, _, z, rfl, _⟩
    simp only [Act.put, List.setIfInBounds_toArray, List.set_cons_succ, List.set_cons_zero]
    refine wpFreeD_one rfl (.pointer (some ⟨w.heap.size, 0, none⟩)) (fun w1 _ => by kernel_rfl) ?_
    simp only [Act.put, List.setIfInBounds_toArray, List.set_cons_succ, List.set_cons_zero]
    refine wpFreeD_load1 rfl rfl rfl (p := ⟨w.heap.size, 0, none⟩) (v := .int .i64 8) (fun w1 h1 => by rw [((FD.le h1).row m0).cell?]; rfl) ukindInt64 ?_
    simp only [Act.put, List.setIfInBounds_toArray, List.set_cons_succ, List.set_cons_zero]
    refine wpFreeD_nil (fun wR hwR hF => ?_)
    obtain ⟨z', hz', hrow⟩ := (hF 0).1.1.2 rfl
    clear hF
    simp only [Value.slice.injEq, Option.some.injEq, Addr.mk.injEq] at hz'
    obtain ⟨⟨rfl, _⟩, _⟩ := hz'
    replace F := FD.le hwR
    clear hwR FD
    have cz := hid (show wR.cell? ⟨z, 8, none⟩ = some (.string (wordD 8)) by rw [hrow.cell?]; rfl)
    have rz := hrow
    clear hrow
    go_wp2_with (first | ((with_reducible refine listN F ?_); clear F; intro wN F) | ((with_reducible refine at_load rfl ?_); first | (with_reducible refine wpList_load1G rfl (p := ⟨z, 8, none⟩) rfl (v := .string (wordD 8)) (by kernel_rfl) cz.out ukindString ?_) | (with_reducible refine wpList_load1C rfl (g := w.heap.size) (f := 0) rfl (v := .int .i64 8) (by kernel_rfl) (F.row m0) rfl ukindInt64 ?_) | (with_reducible refine wpList_load1C rfl (g := w.heap.size) (f := 1) rfl (v := .int .i64 (na : Nat)) (by kernel_rfl) (F.row m0) rfl ukindInt64 ?_) | (with_reducible refine wpList_load1C rfl (g := w.heap.size) (f := 2) rfl (v := .int .i64 (nb : Nat)) (by kernel_rfl) (F.row m0) rfl ukindInt64 ?_)) | (go_at_call 19; ((with_reducible refine (HN1.out _).mono ?_); rintro e w1 ⟨rfl, rfl⟩; skip)) | (go_at_call 20; ((with_reducible refine (HD.out _ (by omega) _).mono ?_); rintro e w1 ⟨rfl, hl1⟩; replace F := F.le hl1; clear hl1)))
    go_ret
    exact ⟨by rw [E2.out]; rfl, F.below⟩
  subst hk
  have F := (Frg.nil w).box 25 #[.int .i64 9, .int .i64 (na : Nat), .int .i64 (nb : Nat)]
  have E := hid (show deedT 9 (na : Int) (nb : Int) = jnB spB [wordD 9, decT na] by unfold deedT; rw [← hv]; rfl)
  have HN1 := hid (show ∀ w, Calls Tryd.prog 19 #[.int .i64 9] w (fun e w' => e = .returned (.int .i64 1) ∧ w = w') from HN.out)
  have E2 := hid (show deedT 9 (na : Int) (nb : Int) = wordD 9 ++ ((⟨#[32]⟩ : ByteArray) ++ decT na) by rw [E.out]; simp only [jnB_cons, jnB_one, ba_assoc]; rfl)
  have zw : (wordD 9).size = 4 := rfl
  clear hv HN
  go_enter Tryd.func6, Tryd.ntmps6
  go_wp2_with (first | ((with_reducible refine listN F ?_); clear F; intro wN F) | ((with_reducible refine at_load rfl ?_); (with_reducible refine wpList_loadG F rfl rfl rfl m0 Tryd.underlying25 rfl uinfoDeedI rfl ?_)) | (go_at_call 17; ((with_reducible refine (HV.out _).mono ?_); rintro e w1 ⟨rfl, hl1⟩; replace F := F.le hl1; clear hl1)))
  first | (refine wpAt0 F ?_; clear F; intro wN F) | (refine wpAtN F ?_; clear F; intro wN F)
  have FD := F.drewN 1
  refine region_tailD (E := leX) (fun f args w v => ∃ z, v = .slice (some ⟨z, 0, none⟩) 10 10 ∧ Row w z 9 #[.string ⟨#[]⟩, .string ⟨#[103, 105, 118, 101]⟩, .string ⟨#[119, 111, 114, 107]⟩, .string ⟨#[100, 101, 108, 105, 118, 101, 114]⟩, .string ⟨#[99, 111, 112, 121]⟩, .string ⟨#[100, 114, 111, 112]⟩, .string ⟨#[115, 112, 111, 105, 108]⟩, .string ⟨#[115, 121, 110, 99]⟩, .string ⟨#[99, 114, 97, 115, 104]⟩, .string ⟨#[113, 117, 105, 116]⟩]) 3 (by kernel_rfl) (by kernel_rfl) ?_
  simp only [List.take_succ_cons, List.take_zero, List.drop_succ_cons, List.drop_zero]
  refine wpFreeD_callB rfl rfl Tryd.func18 (by kernel_rfl) (by kernel_rfl) (args := #[]) (by simp [Act.eval]) (fun v w1 w2 hw hv => by obtain ⟨z, h1, h2⟩ := hv; exact ⟨z, h1, h2.le hw⟩) (fun w1 hw1 _ => (HL.out w1).mono ?_) ?_
  · rintro e w2 ⟨z, rfl, hr, _, hl⟩
    exact ⟨_, rfl, hl, z, rfl, hr⟩
  rintro v ⟨_, _, _, z, rfl, _⟩
  simp only [Act.put, List.setIfInBounds_toArray, List.set_cons_succ, List.set_cons_zero]
  refine wpFreeD_one rfl (.pointer (some ⟨w.heap.size, 0, none⟩)) (fun w1 _ => by kernel_rfl) ?_
  simp only [Act.put, List.setIfInBounds_toArray, List.set_cons_succ, List.set_cons_zero]
  refine wpFreeD_load1 rfl rfl rfl (p := ⟨w.heap.size, 0, none⟩) (v := .int .i64 9) (fun w1 h1 => by rw [((FD.le h1).row m0).cell?]; rfl) ukindInt64 ?_
  simp only [Act.put, List.setIfInBounds_toArray, List.set_cons_succ, List.set_cons_zero]
  refine wpFreeD_nil (fun wR hwR hF => ?_)
  obtain ⟨z', hz', hrow⟩ := (hF 0).1.1.2 rfl
  clear hF
  simp only [Value.slice.injEq, Option.some.injEq, Addr.mk.injEq] at hz'
  obtain ⟨⟨rfl, _⟩, _⟩ := hz'
  replace F := FD.le hwR
  clear hwR FD
  have cz := hid (show wR.cell? ⟨z, 9, none⟩ = some (.string (wordD 9)) by rw [hrow.cell?]; rfl)
  have rz := hrow
  clear hrow
  go_wp2_with (first | ((with_reducible refine listN F ?_); clear F; intro wN F) | ((with_reducible refine at_load rfl ?_); first | (with_reducible refine wpList_load1G rfl (p := ⟨z, 9, none⟩) rfl (v := .string (wordD 9)) (by kernel_rfl) cz.out ukindString ?_) | (with_reducible refine wpList_load1C rfl (g := w.heap.size) (f := 0) rfl (v := .int .i64 9) (by kernel_rfl) (F.row m0) rfl ukindInt64 ?_) | (with_reducible refine wpList_load1C rfl (g := w.heap.size) (f := 1) rfl (v := .int .i64 (na : Nat)) (by kernel_rfl) (F.row m0) rfl ukindInt64 ?_) | (with_reducible refine wpList_load1C rfl (g := w.heap.size) (f := 2) rfl (v := .int .i64 (nb : Nat)) (by kernel_rfl) (F.row m0) rfl ukindInt64 ?_)) | (go_at_call 19; ((with_reducible refine (HN1.out _).mono ?_); rintro e w1 ⟨rfl, rfl⟩; skip)) | (go_at_call 20; ((with_reducible refine (HD.out _ (by omega) _).mono ?_); rintro e w1 ⟨rfl, hl1⟩; replace F := F.le hl1; clear hl1)))
  go_ret
  exact ⟨by rw [E2.out]; rfl, F.below⟩
theorem kindND : ∀ w : World, (isAgg 3).run Tryd.prog w = .ok false w := fun w => by kernel_rfl
theorem infoFormI : (Tryd.prog.info? 57).map (·.size) = some 2 := by kernel_rfl
theorem infoStrD : (Tryd.prog.info? 9).map (fun i => (i.zero, i.size, i.bytes)) = some (some (.string ⟨#[]⟩), 1, 16) := by kernel_rfl
theorem fillSD (ti : TypeInfo) (p q r : ByteArray) (h : ti.size = 1) : Instr.fill (fun i => some (i * ti.size, ti.size)) ((Array.range (3 * ti.size)).map ((.string ⟨#[]⟩ : Value).cells[· % (.string ⟨#[]⟩ : Value).cells.size]!)) (#[(0, .string p), (1, .string q), (2, .string r)] : Array (Nat × Value)).toList = some #[.string p, .string q, .string r] := by
  rw [h]
  have hr : Array.range (3 * 1) = #[0, 1, 2] := by decide
  rw [hr]
  simp [Instr.fill, Value.cells]
theorem mkStrD (p q r : ByteArray) (w : World) : (Instr.buildSlice 52 3 #[(0, .string p), (1, .string q), (2, .string r)]).run Tryd.prog w = .ok (.slice (some ⟨w.heap.size, 0, none⟩) 3 3) (w.alloc (.cells #[.string p, .string q, .string r] 9)) := by
  have h := infoStrD
  cases hi : Tryd.prog.info? 9 with
  | none => rw [hi] at h; simp at h
  | some i =>
    rw [hi] at h; simp at h
    exact run_buildSlice (P := Tryd.prog) w 52 9 3 _ _ i _ Tryd.underlying52 hi h.1 (by rw [h.2.1]; decide) (by rw [h.2.1]; decide) (fillSD _ _ _ _ h.2.1)
/-- The number that a call gets, in decimal. -/
def decD (args : Array Value) : ByteArray := match args.toList with | [.int _ z] => decT z.toNat | _ => ⟨#[]⟩
set_option maxRecDepth 100000 in
set_option maxHeartbeats 4000000 in
theorem i_DeedText (k a b : Int) (w : World) (hT : Tab10 w) : Calls Tryd.prog 8 #[.agg #[.int .i64 k, .int .i64 a, .int .i64 b]] w (Out_t (deedT k a b) w) := by
  obtain ⟨v, hv⟩ : ∃ v, v = okD k a b := ⟨_, rfl⟩
  have HV := hid (fun (w' : World) => i_ValidDeed k a b w')
  rw [← hv] at HV
  cases v
  · have E := hid (show deedT k a b = ⟨#[]⟩ by unfold deedT; rw [← hv]; rfl)
    clear hv
    have F := (Frg.nil w).box 25 #[.int .i64 k, .int .i64 a, .int .i64 b]
    go_enter Tryd.func8, Tryd.ntmps8
    go_wp2_with (first | ((with_reducible refine listN F ?_); clear F; intro wN F) | ((with_reducible refine at_load rfl ?_); (with_reducible refine wpList_loadG F rfl rfl rfl m0 Tryd.underlying25 rfl uinfoDeedI rfl ?_)) | (go_at_call 21; ((with_reducible refine (HV.out _).mono ?_); rintro e w1 ⟨rfl, hl1⟩; replace F := F.le hl1; clear hl1)))
    go_ret
    exact ⟨by rw [E.out]; rfl, F.below⟩
  obtain ⟨hk, ⟨na, rfl, ha⟩, nb, rfl, hb⟩ := okD_parts hv.symm
  have HF := hid (i_deedForms)
  have HD := hid (fun (z : Nat) (hz : z ≤ 999) (w' : World) (hl2 : le w w') => i_decimal z (by omega) w' (hT.le hl2))
  have za := decT_size na (by omega)
  have zb := decT_size nb (by omega)
  clear hT
  rcases hk with rfl | hk
  · have F := (Frg.nil w).box 25 #[.int .i64 1, .int .i64 (na : Nat), .int .i64 (nb : Nat)]
    have E := hid (show deedT 1 (na : Int) (nb : Int) = jnB spB [wordD 1, decT na] by unfold deedT; rw [← hv]; rfl)
    clear hv
    go_enter Tryd.func8, Tryd.ntmps8
    go_wp2_with (first | ((with_reducible refine listN F ?_); clear F; intro wN F) | ((with_reducible refine at_load rfl ?_); (with_reducible refine wpList_loadG F rfl rfl rfl m0 Tryd.underlying25 rfl uinfoDeedI rfl ?_)) | (go_at_call 21; ((with_reducible refine (HV.out _).mono ?_); rintro e w1 ⟨rfl, hl1⟩; replace F := F.le hl1; clear hl1)))
    first | (refine wpAt0 F ?_; clear F; intro wN F) | (refine wpAtN F ?_; clear F; intro wN F)
    have FD := F.drewN 1
    refine region_tailD (E := leX) (fun f args w v => v = .agg formsD) 5 (by kernel_rfl) (by kernel_rfl) ?_
    simp only [List.take_succ_cons, List.take_zero, List.drop_succ_cons, List.drop_zero]
    refine wpFreeD_callB rfl rfl Tryd.func22 (by kernel_rfl) (by kernel_rfl) (args := #[]) (by simp [Act.eval]) (fun v w1 w2 hw hv => hv) (fun w1 hw1 _ => (HF.out w1).mono ?_) ?_
    · rintro e w2 ⟨rfl, hl⟩
      exact ⟨_, rfl, hl, rfl⟩
    rintro v ⟨_, _, _, hv⟩
    replace hv : v = .agg formsD := hv
    subst hv
    simp only [Act.put, List.setIfInBounds_toArray, List.set_cons_succ, List.set_cons_zero]
    refine wpFreeD_one rfl (.pointer (some ⟨w.heap.size, 0, none⟩)) (fun w1 _ => by kernel_rfl) ?_
    simp only [Act.put, List.setIfInBounds_toArray, List.set_cons_succ, List.set_cons_zero]
    refine wpFreeD_load1 rfl rfl rfl (p := ⟨w.heap.size, 0, none⟩) (v := .int .i64 1) (fun w1 h1 => by rw [((FD.le h1).row m0).cell?]; rfl) ukindInt64 ?_
    simp only [Act.put, List.setIfInBounds_toArray, List.set_cons_succ, List.set_cons_zero]
    refine wpFreeD_one rfl (.agg #[.string ⟨#[103, 105, 118, 101]⟩, .int .i64 1]) (fun w1 _ => by kernel_rfl) ?_
    simp only [Act.put, List.setIfInBounds_toArray, List.set_cons_succ, List.set_cons_zero]
    refine wpFreeD_allocD rfl rfl #[.string ⟨#[]⟩, .int .i64 0] (fun w => by go_simp) (fun b0 => ?_)
    simp only [Act.put, List.setIfInBounds_toArray, List.set_cons_succ, List.set_cons_zero]
    refine wpFreeD_nil (fun wR hwR hF => ?_)
    obtain ⟨lb0, rb⟩ := (hF 4).2 rfl
    clear hF
    replace F : Frg w wR (rowF b0 57 #[.string ⟨#[]⟩, .int .i64 0] :: _) := F.rowS ((Frg.nil _).drewN 1 |>.le hwR).below (Nat.le_trans (by simp) lb0) rb
    clear hwR FD lb0 rb
    show wpList _ _ _ _ _ _
    refine wpList_storeD rfl rfl rfl (cells := #[.string ⟨#[103, 105, 118, 101]⟩, .int .i64 1]) rfl (F.row m0) infoFormI rfl (by (simp only [List.all_toArray', List.all_cons, List.all_nil, Bool.and_true, Bool.true_and]) <;> rfl) (fun w6 K => ?_)
    replace F := F.wrI0 K
    clear K
    go_wp2_with (first | ((with_reducible refine listN F ?_); clear F; intro wN F))
    first | (refine wpAt0 F ?_; clear F; intro wN F) | (refine wpAtN F ?_; clear F; intro wN F)
    have FD := F.drewN 1
    refine region_freeD (E := leX) (fun f args _ v => v = .string (decD args)) (by kernel_rfl) (by kernel_rfl) ?_
    refine wpFreeD_one rfl (.pointer (some ⟨b0, 0, none⟩)) (fun w1 _ => by kernel_rfl) ?_
    simp only [Act.put, List.setIfInBounds_toArray, List.set_cons_succ, List.set_cons_zero]
    refine wpFreeD_load1 rfl rfl rfl (p := ⟨b0, 0, none⟩) (v := .string ⟨#[103, 105, 118, 101]⟩) (fun w1 h1 => by rw [((FD.le h1).row m0).cell?]; rfl) ukindString ?_
    simp only [Act.put, List.setIfInBounds_toArray, List.set_cons_succ, List.set_cons_zero]
    refine wpFreeD_one rfl (.pointer (some ⟨w.heap.size, 1, none⟩)) (fun w1 _ => by kernel_rfl) ?_
    simp only [Act.put, List.setIfInBounds_toArray, List.set_cons_succ, List.set_cons_zero]
    refine wpFreeD_load1 rfl rfl rfl (p := ⟨w.heap.size, 1, none⟩) (v := .int .i64 (na : Nat)) (fun w1 h1 => by rw [((FD.le h1).row m1).cell?]; rfl) ukindInt64 ?_
    simp only [Act.put, List.setIfInBounds_toArray, List.set_cons_succ, List.set_cons_zero]
    refine wpFreeD_callB rfl rfl Tryd.func23 (by kernel_rfl) (by kernel_rfl) (args := #[.int .i64 (na : Nat)]) (by simp [Act.eval]) (fun v w1 w2 hw hv => hv) (fun w1 hw1 _ => (HD.out na (by omega) w1 (FD.le hw1).below).mono ?_) ?_
    · rintro e w2 ⟨rfl, hl⟩
      exact ⟨_, rfl, hl, rfl⟩
    rintro v ⟨_, _, _, hv⟩
    replace hv : v = .string (decT na) := hv
    subst hv
    simp only [Act.put, List.setIfInBounds_toArray, List.set_cons_succ, List.set_cons_zero]
    refine wpFreeD_one rfl (.pointer (some ⟨w.heap.size, 2, none⟩)) (fun w1 _ => by kernel_rfl) ?_
    simp only [Act.put, List.setIfInBounds_toArray, List.set_cons_succ, List.set_cons_zero]
    refine wpFreeD_load1 rfl rfl rfl (p := ⟨w.heap.size, 2, none⟩) (v := .int .i64 (nb : Nat)) (fun w1 h1 => by rw [((FD.le h1).row m1).cell?]; rfl) ukindInt64 ?_
    simp only [Act.put, List.setIfInBounds_toArray, List.set_cons_succ, List.set_cons_zero]
    refine wpFreeD_callB rfl rfl Tryd.func23 (by kernel_rfl) (by kernel_rfl) (args := #[.int .i64 (nb : Nat)]) (by simp [Act.eval]) (fun v w1 w2 hw hv => hv) (fun w1 hw1 _ => (HD.out nb (by omega) w1 (FD.le hw1).below).mono ?_) ?_
    · rintro e w2 ⟨rfl, hl⟩
      exact ⟨_, rfl, hl, rfl⟩
    rintro v ⟨_, _, _, hv⟩
    replace hv : v = .string (decT nb) := hv
    subst hv
    simp only [Act.put, List.setIfInBounds_toArray, List.set_cons_succ, List.set_cons_zero]
    refine wpFreeD_newN rfl (fun z => .slice (some ⟨z, 0, none⟩) 3 3) (fun b b' h => by simpa using h) 9 #[.string ⟨#[103, 105, 118, 101]⟩, .string (decT na), .string (decT nb)] (fun w1 => ?_) (fun z => ?_)
    · have hb := mkStrD ⟨#[103, 105, 118, 101]⟩ (decT na) (decT nb) w1
      simp [execOp, Act.eval, Result.andThen, hb]
    simp only [Act.put, List.setIfInBounds_toArray, List.set_cons_succ, List.set_cons_zero]
    refine wpFreeD_one rfl (.slice (some ⟨z, 0, none⟩) 3 3) (fun w1 _ => by kernel_rfl) ?_
    simp only [Act.put, List.setIfInBounds_toArray, List.set_cons_succ, List.set_cons_zero]
    refine wpFreeD_nil (fun wR hwR hF => ?_)
    obtain ⟨_, hq4⟩ := (hF 8).1.2 rfl
    clear hF
    replace F := FD.le hwR
    clear hwR FD
    have HJ := hid (run_Join z 0 3 [wordD 1, decT na] spB 2 rfl wR (fun j u hj => by
      rw [Nat.zero_add, hq4.cell?]
      match j, hj with
      | 0, hj => simp at hj; subst hj; rfl
      | 1, hj => simp at hj; subst hj; rfl
      | j + 2, hj => simp at hj) hq4.lt (by simp) (by decide) (Nat.le_trans (jnB_size spB 30 _ (fun x hx => by
        have zw : (wordD 1).size ≤ 30 := by decide
        simp only [List.mem_cons, List.not_mem_nil, or_false] at hx
        rcases hx with rfl | rfl <;> omega)) (by rw [show spB.size = 1 from rfl]; simp)))
    clear hq4
    go_wp2_with (first | ((with_reducible refine listN F ?_); clear F; intro wN F) | ((with_reducible refine at_load rfl ?_); (with_reducible refine wpList_load1C rfl (g := b0) (f := 1) rfl (v := .int .i64 1) (by kernel_rfl) (F.row m0) rfl kindND ?_)) | (go_at_call 24; (refine HJ.out.mono ?_; rintro e w1 ⟨rfl, hl1⟩; replace F := F.le hl1; clear hl1)))
    go_ret
    exact ⟨by rw [E.out]; rfl, F.below⟩
  rcases hk with rfl | hk
  · have F := (Frg.nil w).box 25 #[.int .i64 2, .int .i64 (na : Nat), .int .i64 (nb : Nat)]
    have E := hid (show deedT 2 (na : Int) (nb : Int) = jnB spB [wordD 2, decT na] by unfold deedT; rw [← hv]; rfl)
    clear hv
    go_enter Tryd.func8, Tryd.ntmps8
    go_wp2_with (first | ((with_reducible refine listN F ?_); clear F; intro wN F) | ((with_reducible refine at_load rfl ?_); (with_reducible refine wpList_loadG F rfl rfl rfl m0 Tryd.underlying25 rfl uinfoDeedI rfl ?_)) | (go_at_call 21; ((with_reducible refine (HV.out _).mono ?_); rintro e w1 ⟨rfl, hl1⟩; replace F := F.le hl1; clear hl1)))
    first | (refine wpAt0 F ?_; clear F; intro wN F) | (refine wpAtN F ?_; clear F; intro wN F)
    have FD := F.drewN 1
    refine region_tailD (E := leX) (fun f args w v => v = .agg formsD) 5 (by kernel_rfl) (by kernel_rfl) ?_
    simp only [List.take_succ_cons, List.take_zero, List.drop_succ_cons, List.drop_zero]
    refine wpFreeD_callB rfl rfl Tryd.func22 (by kernel_rfl) (by kernel_rfl) (args := #[]) (by simp [Act.eval]) (fun v w1 w2 hw hv => hv) (fun w1 hw1 _ => (HF.out w1).mono ?_) ?_
    · rintro e w2 ⟨rfl, hl⟩
      exact ⟨_, rfl, hl, rfl⟩
    rintro v ⟨_, _, _, hv⟩
    replace hv : v = .agg formsD := hv
    subst hv
    simp only [Act.put, List.setIfInBounds_toArray, List.set_cons_succ, List.set_cons_zero]
    refine wpFreeD_one rfl (.pointer (some ⟨w.heap.size, 0, none⟩)) (fun w1 _ => by kernel_rfl) ?_
    simp only [Act.put, List.setIfInBounds_toArray, List.set_cons_succ, List.set_cons_zero]
    refine wpFreeD_load1 rfl rfl rfl (p := ⟨w.heap.size, 0, none⟩) (v := .int .i64 2) (fun w1 h1 => by rw [((FD.le h1).row m0).cell?]; rfl) ukindInt64 ?_
    simp only [Act.put, List.setIfInBounds_toArray, List.set_cons_succ, List.set_cons_zero]
    refine wpFreeD_one rfl (.agg #[.string ⟨#[119, 111, 114, 107]⟩, .int .i64 1]) (fun w1 _ => by kernel_rfl) ?_
    simp only [Act.put, List.setIfInBounds_toArray, List.set_cons_succ, List.set_cons_zero]
    refine wpFreeD_allocD rfl rfl #[.string ⟨#[]⟩, .int .i64 0] (fun w => by go_simp) (fun b0 => ?_)
    simp only [Act.put, List.setIfInBounds_toArray, List.set_cons_succ, List.set_cons_zero]
    refine wpFreeD_nil (fun wR hwR hF => ?_)
    obtain ⟨lb0, rb⟩ := (hF 4).2 rfl
    clear hF
    replace F : Frg w wR (rowF b0 57 #[.string ⟨#[]⟩, .int .i64 0] :: _) := F.rowS ((Frg.nil _).drewN 1 |>.le hwR).below (Nat.le_trans (by simp) lb0) rb
    clear hwR FD lb0 rb
    show wpList _ _ _ _ _ _
    refine wpList_storeD rfl rfl rfl (cells := #[.string ⟨#[119, 111, 114, 107]⟩, .int .i64 1]) rfl (F.row m0) infoFormI rfl (by (simp only [List.all_toArray', List.all_cons, List.all_nil, Bool.and_true, Bool.true_and]) <;> rfl) (fun w6 K => ?_)
    replace F := F.wrI0 K
    clear K
    go_wp2_with (first | ((with_reducible refine listN F ?_); clear F; intro wN F))
    first | (refine wpAt0 F ?_; clear F; intro wN F) | (refine wpAtN F ?_; clear F; intro wN F)
    have FD := F.drewN 1
    refine region_freeD (E := leX) (fun f args _ v => v = .string (decD args)) (by kernel_rfl) (by kernel_rfl) ?_
    refine wpFreeD_one rfl (.pointer (some ⟨b0, 0, none⟩)) (fun w1 _ => by kernel_rfl) ?_
    simp only [Act.put, List.setIfInBounds_toArray, List.set_cons_succ, List.set_cons_zero]
    refine wpFreeD_load1 rfl rfl rfl (p := ⟨b0, 0, none⟩) (v := .string ⟨#[119, 111, 114, 107]⟩) (fun w1 h1 => by rw [((FD.le h1).row m0).cell?]; rfl) ukindString ?_
    simp only [Act.put, List.setIfInBounds_toArray, List.set_cons_succ, List.set_cons_zero]
    refine wpFreeD_one rfl (.pointer (some ⟨w.heap.size, 1, none⟩)) (fun w1 _ => by kernel_rfl) ?_
    simp only [Act.put, List.setIfInBounds_toArray, List.set_cons_succ, List.set_cons_zero]
    refine wpFreeD_load1 rfl rfl rfl (p := ⟨w.heap.size, 1, none⟩) (v := .int .i64 (na : Nat)) (fun w1 h1 => by rw [((FD.le h1).row m1).cell?]; rfl) ukindInt64 ?_
    simp only [Act.put, List.setIfInBounds_toArray, List.set_cons_succ, List.set_cons_zero]
    refine wpFreeD_callB rfl rfl Tryd.func23 (by kernel_rfl) (by kernel_rfl) (args := #[.int .i64 (na : Nat)]) (by simp [Act.eval]) (fun v w1 w2 hw hv => hv) (fun w1 hw1 _ => (HD.out na (by omega) w1 (FD.le hw1).below).mono ?_) ?_
    · rintro e w2 ⟨rfl, hl⟩
      exact ⟨_, rfl, hl, rfl⟩
    rintro v ⟨_, _, _, hv⟩
    replace hv : v = .string (decT na) := hv
    subst hv
    simp only [Act.put, List.setIfInBounds_toArray, List.set_cons_succ, List.set_cons_zero]
    refine wpFreeD_one rfl (.pointer (some ⟨w.heap.size, 2, none⟩)) (fun w1 _ => by kernel_rfl) ?_
    simp only [Act.put, List.setIfInBounds_toArray, List.set_cons_succ, List.set_cons_zero]
    refine wpFreeD_load1 rfl rfl rfl (p := ⟨w.heap.size, 2, none⟩) (v := .int .i64 (nb : Nat)) (fun w1 h1 => by rw [((FD.le h1).row m1).cell?]; rfl) ukindInt64 ?_
    simp only [Act.put, List.setIfInBounds_toArray, List.set_cons_succ, List.set_cons_zero]
    refine wpFreeD_callB rfl rfl Tryd.func23 (by kernel_rfl) (by kernel_rfl) (args := #[.int .i64 (nb : Nat)]) (by simp [Act.eval]) (fun v w1 w2 hw hv => hv) (fun w1 hw1 _ => (HD.out nb (by omega) w1 (FD.le hw1).below).mono ?_) ?_
    · rintro e w2 ⟨rfl, hl⟩
      exact ⟨_, rfl, hl, rfl⟩
    rintro v ⟨_, _, _, hv⟩
    replace hv : v = .string (decT nb) := hv
    subst hv
    simp only [Act.put, List.setIfInBounds_toArray, List.set_cons_succ, List.set_cons_zero]
    refine wpFreeD_newN rfl (fun z => .slice (some ⟨z, 0, none⟩) 3 3) (fun b b' h => by simpa using h) 9 #[.string ⟨#[119, 111, 114, 107]⟩, .string (decT na), .string (decT nb)] (fun w1 => ?_) (fun z => ?_)
    · have hb := mkStrD ⟨#[119, 111, 114, 107]⟩ (decT na) (decT nb) w1
      simp [execOp, Act.eval, Result.andThen, hb]
    simp only [Act.put, List.setIfInBounds_toArray, List.set_cons_succ, List.set_cons_zero]
    refine wpFreeD_one rfl (.slice (some ⟨z, 0, none⟩) 3 3) (fun w1 _ => by kernel_rfl) ?_
    simp only [Act.put, List.setIfInBounds_toArray, List.set_cons_succ, List.set_cons_zero]
    refine wpFreeD_nil (fun wR hwR hF => ?_)
    obtain ⟨_, hq4⟩ := (hF 8).1.2 rfl
    clear hF
    replace F := FD.le hwR
    clear hwR FD
    have HJ := hid (run_Join z 0 3 [wordD 2, decT na] spB 2 rfl wR (fun j u hj => by
      rw [Nat.zero_add, hq4.cell?]
      match j, hj with
      | 0, hj => simp at hj; subst hj; rfl
      | 1, hj => simp at hj; subst hj; rfl
      | j + 2, hj => simp at hj) hq4.lt (by simp) (by decide) (Nat.le_trans (jnB_size spB 30 _ (fun x hx => by
        have zw : (wordD 2).size ≤ 30 := by decide
        simp only [List.mem_cons, List.not_mem_nil, or_false] at hx
        rcases hx with rfl | rfl <;> omega)) (by rw [show spB.size = 1 from rfl]; simp)))
    clear hq4
    go_wp2_with (first | ((with_reducible refine listN F ?_); clear F; intro wN F) | ((with_reducible refine at_load rfl ?_); (with_reducible refine wpList_load1C rfl (g := b0) (f := 1) rfl (v := .int .i64 1) (by kernel_rfl) (F.row m0) rfl kindND ?_)) | (go_at_call 24; (refine HJ.out.mono ?_; rintro e w1 ⟨rfl, hl1⟩; replace F := F.le hl1; clear hl1)))
    go_ret
    exact ⟨by rw [E.out]; rfl, F.below⟩
  rcases hk with rfl | hk
  · have F := (Frg.nil w).box 25 #[.int .i64 3, .int .i64 (na : Nat), .int .i64 (nb : Nat)]
    have E := hid (show deedT 3 (na : Int) (nb : Int) = jnB spB [wordD 3, decT na] by unfold deedT; rw [← hv]; rfl)
    clear hv
    go_enter Tryd.func8, Tryd.ntmps8
    go_wp2_with (first | ((with_reducible refine listN F ?_); clear F; intro wN F) | ((with_reducible refine at_load rfl ?_); (with_reducible refine wpList_loadG F rfl rfl rfl m0 Tryd.underlying25 rfl uinfoDeedI rfl ?_)) | (go_at_call 21; ((with_reducible refine (HV.out _).mono ?_); rintro e w1 ⟨rfl, hl1⟩; replace F := F.le hl1; clear hl1)))
    first | (refine wpAt0 F ?_; clear F; intro wN F) | (refine wpAtN F ?_; clear F; intro wN F)
    have FD := F.drewN 1
    refine region_tailD (E := leX) (fun f args w v => v = .agg formsD) 5 (by kernel_rfl) (by kernel_rfl) ?_
    simp only [List.take_succ_cons, List.take_zero, List.drop_succ_cons, List.drop_zero]
    refine wpFreeD_callB rfl rfl Tryd.func22 (by kernel_rfl) (by kernel_rfl) (args := #[]) (by simp [Act.eval]) (fun v w1 w2 hw hv => hv) (fun w1 hw1 _ => (HF.out w1).mono ?_) ?_
    · rintro e w2 ⟨rfl, hl⟩
      exact ⟨_, rfl, hl, rfl⟩
    rintro v ⟨_, _, _, hv⟩
    replace hv : v = .agg formsD := hv
    subst hv
    simp only [Act.put, List.setIfInBounds_toArray, List.set_cons_succ, List.set_cons_zero]
    refine wpFreeD_one rfl (.pointer (some ⟨w.heap.size, 0, none⟩)) (fun w1 _ => by kernel_rfl) ?_
    simp only [Act.put, List.setIfInBounds_toArray, List.set_cons_succ, List.set_cons_zero]
    refine wpFreeD_load1 rfl rfl rfl (p := ⟨w.heap.size, 0, none⟩) (v := .int .i64 3) (fun w1 h1 => by rw [((FD.le h1).row m0).cell?]; rfl) ukindInt64 ?_
    simp only [Act.put, List.setIfInBounds_toArray, List.set_cons_succ, List.set_cons_zero]
    refine wpFreeD_one rfl (.agg #[.string ⟨#[100, 101, 108, 105, 118, 101, 114]⟩, .int .i64 1]) (fun w1 _ => by kernel_rfl) ?_
    simp only [Act.put, List.setIfInBounds_toArray, List.set_cons_succ, List.set_cons_zero]
    refine wpFreeD_allocD rfl rfl #[.string ⟨#[]⟩, .int .i64 0] (fun w => by go_simp) (fun b0 => ?_)
    simp only [Act.put, List.setIfInBounds_toArray, List.set_cons_succ, List.set_cons_zero]
    refine wpFreeD_nil (fun wR hwR hF => ?_)
    obtain ⟨lb0, rb⟩ := (hF 4).2 rfl
    clear hF
    replace F : Frg w wR (rowF b0 57 #[.string ⟨#[]⟩, .int .i64 0] :: _) := F.rowS ((Frg.nil _).drewN 1 |>.le hwR).below (Nat.le_trans (by simp) lb0) rb
    clear hwR FD lb0 rb
    show wpList _ _ _ _ _ _
    refine wpList_storeD rfl rfl rfl (cells := #[.string ⟨#[100, 101, 108, 105, 118, 101, 114]⟩, .int .i64 1]) rfl (F.row m0) infoFormI rfl (by (simp only [List.all_toArray', List.all_cons, List.all_nil, Bool.and_true, Bool.true_and]) <;> rfl) (fun w6 K => ?_)
    replace F := F.wrI0 K
    clear K
    go_wp2_with (first | ((with_reducible refine listN F ?_); clear F; intro wN F))
    first | (refine wpAt0 F ?_; clear F; intro wN F) | (refine wpAtN F ?_; clear F; intro wN F)
    have FD := F.drewN 1
    refine region_freeD (E := leX) (fun f args _ v => v = .string (decD args)) (by kernel_rfl) (by kernel_rfl) ?_
    refine wpFreeD_one rfl (.pointer (some ⟨b0, 0, none⟩)) (fun w1 _ => by kernel_rfl) ?_
    simp only [Act.put, List.setIfInBounds_toArray, List.set_cons_succ, List.set_cons_zero]
    refine wpFreeD_load1 rfl rfl rfl (p := ⟨b0, 0, none⟩) (v := .string ⟨#[100, 101, 108, 105, 118, 101, 114]⟩) (fun w1 h1 => by rw [((FD.le h1).row m0).cell?]; rfl) ukindString ?_
    simp only [Act.put, List.setIfInBounds_toArray, List.set_cons_succ, List.set_cons_zero]
    refine wpFreeD_one rfl (.pointer (some ⟨w.heap.size, 1, none⟩)) (fun w1 _ => by kernel_rfl) ?_
    simp only [Act.put, List.setIfInBounds_toArray, List.set_cons_succ, List.set_cons_zero]
    refine wpFreeD_load1 rfl rfl rfl (p := ⟨w.heap.size, 1, none⟩) (v := .int .i64 (na : Nat)) (fun w1 h1 => by rw [((FD.le h1).row m1).cell?]; rfl) ukindInt64 ?_
    simp only [Act.put, List.setIfInBounds_toArray, List.set_cons_succ, List.set_cons_zero]
    refine wpFreeD_callB rfl rfl Tryd.func23 (by kernel_rfl) (by kernel_rfl) (args := #[.int .i64 (na : Nat)]) (by simp [Act.eval]) (fun v w1 w2 hw hv => hv) (fun w1 hw1 _ => (HD.out na (by omega) w1 (FD.le hw1).below).mono ?_) ?_
    · rintro e w2 ⟨rfl, hl⟩
      exact ⟨_, rfl, hl, rfl⟩
    rintro v ⟨_, _, _, hv⟩
    replace hv : v = .string (decT na) := hv
    subst hv
    simp only [Act.put, List.setIfInBounds_toArray, List.set_cons_succ, List.set_cons_zero]
    refine wpFreeD_one rfl (.pointer (some ⟨w.heap.size, 2, none⟩)) (fun w1 _ => by kernel_rfl) ?_
    simp only [Act.put, List.setIfInBounds_toArray, List.set_cons_succ, List.set_cons_zero]
    refine wpFreeD_load1 rfl rfl rfl (p := ⟨w.heap.size, 2, none⟩) (v := .int .i64 (nb : Nat)) (fun w1 h1 => by rw [((FD.le h1).row m1).cell?]; rfl) ukindInt64 ?_
    simp only [Act.put, List.setIfInBounds_toArray, List.set_cons_succ, List.set_cons_zero]
    refine wpFreeD_callB rfl rfl Tryd.func23 (by kernel_rfl) (by kernel_rfl) (args := #[.int .i64 (nb : Nat)]) (by simp [Act.eval]) (fun v w1 w2 hw hv => hv) (fun w1 hw1 _ => (HD.out nb (by omega) w1 (FD.le hw1).below).mono ?_) ?_
    · rintro e w2 ⟨rfl, hl⟩
      exact ⟨_, rfl, hl, rfl⟩
    rintro v ⟨_, _, _, hv⟩
    replace hv : v = .string (decT nb) := hv
    subst hv
    simp only [Act.put, List.setIfInBounds_toArray, List.set_cons_succ, List.set_cons_zero]
    refine wpFreeD_newN rfl (fun z => .slice (some ⟨z, 0, none⟩) 3 3) (fun b b' h => by simpa using h) 9 #[.string ⟨#[100, 101, 108, 105, 118, 101, 114]⟩, .string (decT na), .string (decT nb)] (fun w1 => ?_) (fun z => ?_)
    · have hb := mkStrD ⟨#[100, 101, 108, 105, 118, 101, 114]⟩ (decT na) (decT nb) w1
      simp [execOp, Act.eval, Result.andThen, hb]
    simp only [Act.put, List.setIfInBounds_toArray, List.set_cons_succ, List.set_cons_zero]
    refine wpFreeD_one rfl (.slice (some ⟨z, 0, none⟩) 3 3) (fun w1 _ => by kernel_rfl) ?_
    simp only [Act.put, List.setIfInBounds_toArray, List.set_cons_succ, List.set_cons_zero]
    refine wpFreeD_nil (fun wR hwR hF => ?_)
    obtain ⟨_, hq4⟩ := (hF 8).1.2 rfl
    clear hF
    replace F := FD.le hwR
    clear hwR FD
    have HJ := hid (run_Join z 0 3 [wordD 3, decT na] spB 2 rfl wR (fun j u hj => by
      rw [Nat.zero_add, hq4.cell?]
      match j, hj with
      | 0, hj => simp at hj; subst hj; rfl
      | 1, hj => simp at hj; subst hj; rfl
      | j + 2, hj => simp at hj) hq4.lt (by simp) (by decide) (Nat.le_trans (jnB_size spB 30 _ (fun x hx => by
        have zw : (wordD 3).size ≤ 30 := by decide
        simp only [List.mem_cons, List.not_mem_nil, or_false] at hx
        rcases hx with rfl | rfl <;> omega)) (by rw [show spB.size = 1 from rfl]; simp)))
    clear hq4
    go_wp2_with (first | ((with_reducible refine listN F ?_); clear F; intro wN F) | ((with_reducible refine at_load rfl ?_); (with_reducible refine wpList_load1C rfl (g := b0) (f := 1) rfl (v := .int .i64 1) (by kernel_rfl) (F.row m0) rfl kindND ?_)) | (go_at_call 24; (refine HJ.out.mono ?_; rintro e w1 ⟨rfl, hl1⟩; replace F := F.le hl1; clear hl1)))
    go_ret
    exact ⟨by rw [E.out]; rfl, F.below⟩
  rcases hk with rfl | hk
  · have F := (Frg.nil w).box 25 #[.int .i64 4, .int .i64 (na : Nat), .int .i64 (nb : Nat)]
    have E := hid (show deedT 4 (na : Int) (nb : Int) = jnB spB [wordD 4, decT na] by unfold deedT; rw [← hv]; rfl)
    clear hv
    go_enter Tryd.func8, Tryd.ntmps8
    go_wp2_with (first | ((with_reducible refine listN F ?_); clear F; intro wN F) | ((with_reducible refine at_load rfl ?_); (with_reducible refine wpList_loadG F rfl rfl rfl m0 Tryd.underlying25 rfl uinfoDeedI rfl ?_)) | (go_at_call 21; ((with_reducible refine (HV.out _).mono ?_); rintro e w1 ⟨rfl, hl1⟩; replace F := F.le hl1; clear hl1)))
    first | (refine wpAt0 F ?_; clear F; intro wN F) | (refine wpAtN F ?_; clear F; intro wN F)
    have FD := F.drewN 1
    refine region_tailD (E := leX) (fun f args w v => v = .agg formsD) 5 (by kernel_rfl) (by kernel_rfl) ?_
    simp only [List.take_succ_cons, List.take_zero, List.drop_succ_cons, List.drop_zero]
    refine wpFreeD_callB rfl rfl Tryd.func22 (by kernel_rfl) (by kernel_rfl) (args := #[]) (by simp [Act.eval]) (fun v w1 w2 hw hv => hv) (fun w1 hw1 _ => (HF.out w1).mono ?_) ?_
    · rintro e w2 ⟨rfl, hl⟩
      exact ⟨_, rfl, hl, rfl⟩
    rintro v ⟨_, _, _, hv⟩
    replace hv : v = .agg formsD := hv
    subst hv
    simp only [Act.put, List.setIfInBounds_toArray, List.set_cons_succ, List.set_cons_zero]
    refine wpFreeD_one rfl (.pointer (some ⟨w.heap.size, 0, none⟩)) (fun w1 _ => by kernel_rfl) ?_
    simp only [Act.put, List.setIfInBounds_toArray, List.set_cons_succ, List.set_cons_zero]
    refine wpFreeD_load1 rfl rfl rfl (p := ⟨w.heap.size, 0, none⟩) (v := .int .i64 4) (fun w1 h1 => by rw [((FD.le h1).row m0).cell?]; rfl) ukindInt64 ?_
    simp only [Act.put, List.setIfInBounds_toArray, List.set_cons_succ, List.set_cons_zero]
    refine wpFreeD_one rfl (.agg #[.string ⟨#[99, 111, 112, 121]⟩, .int .i64 1]) (fun w1 _ => by kernel_rfl) ?_
    simp only [Act.put, List.setIfInBounds_toArray, List.set_cons_succ, List.set_cons_zero]
    refine wpFreeD_allocD rfl rfl #[.string ⟨#[]⟩, .int .i64 0] (fun w => by go_simp) (fun b0 => ?_)
    simp only [Act.put, List.setIfInBounds_toArray, List.set_cons_succ, List.set_cons_zero]
    refine wpFreeD_nil (fun wR hwR hF => ?_)
    obtain ⟨lb0, rb⟩ := (hF 4).2 rfl
    clear hF
    replace F : Frg w wR (rowF b0 57 #[.string ⟨#[]⟩, .int .i64 0] :: _) := F.rowS ((Frg.nil _).drewN 1 |>.le hwR).below (Nat.le_trans (by simp) lb0) rb
    clear hwR FD lb0 rb
    show wpList _ _ _ _ _ _
    refine wpList_storeD rfl rfl rfl (cells := #[.string ⟨#[99, 111, 112, 121]⟩, .int .i64 1]) rfl (F.row m0) infoFormI rfl (by (simp only [List.all_toArray', List.all_cons, List.all_nil, Bool.and_true, Bool.true_and]) <;> rfl) (fun w6 K => ?_)
    replace F := F.wrI0 K
    clear K
    go_wp2_with (first | ((with_reducible refine listN F ?_); clear F; intro wN F))
    first | (refine wpAt0 F ?_; clear F; intro wN F) | (refine wpAtN F ?_; clear F; intro wN F)
    have FD := F.drewN 1
    refine region_freeD (E := leX) (fun f args _ v => v = .string (decD args)) (by kernel_rfl) (by kernel_rfl) ?_
    refine wpFreeD_one rfl (.pointer (some ⟨b0, 0, none⟩)) (fun w1 _ => by kernel_rfl) ?_
    simp only [Act.put, List.setIfInBounds_toArray, List.set_cons_succ, List.set_cons_zero]
    refine wpFreeD_load1 rfl rfl rfl (p := ⟨b0, 0, none⟩) (v := .string ⟨#[99, 111, 112, 121]⟩) (fun w1 h1 => by rw [((FD.le h1).row m0).cell?]; rfl) ukindString ?_
    simp only [Act.put, List.setIfInBounds_toArray, List.set_cons_succ, List.set_cons_zero]
    refine wpFreeD_one rfl (.pointer (some ⟨w.heap.size, 1, none⟩)) (fun w1 _ => by kernel_rfl) ?_
    simp only [Act.put, List.setIfInBounds_toArray, List.set_cons_succ, List.set_cons_zero]
    refine wpFreeD_load1 rfl rfl rfl (p := ⟨w.heap.size, 1, none⟩) (v := .int .i64 (na : Nat)) (fun w1 h1 => by rw [((FD.le h1).row m1).cell?]; rfl) ukindInt64 ?_
    simp only [Act.put, List.setIfInBounds_toArray, List.set_cons_succ, List.set_cons_zero]
    refine wpFreeD_callB rfl rfl Tryd.func23 (by kernel_rfl) (by kernel_rfl) (args := #[.int .i64 (na : Nat)]) (by simp [Act.eval]) (fun v w1 w2 hw hv => hv) (fun w1 hw1 _ => (HD.out na (by omega) w1 (FD.le hw1).below).mono ?_) ?_
    · rintro e w2 ⟨rfl, hl⟩
      exact ⟨_, rfl, hl, rfl⟩
    rintro v ⟨_, _, _, hv⟩
    replace hv : v = .string (decT na) := hv
    subst hv
    simp only [Act.put, List.setIfInBounds_toArray, List.set_cons_succ, List.set_cons_zero]
    refine wpFreeD_one rfl (.pointer (some ⟨w.heap.size, 2, none⟩)) (fun w1 _ => by kernel_rfl) ?_
    simp only [Act.put, List.setIfInBounds_toArray, List.set_cons_succ, List.set_cons_zero]
    refine wpFreeD_load1 rfl rfl rfl (p := ⟨w.heap.size, 2, none⟩) (v := .int .i64 (nb : Nat)) (fun w1 h1 => by rw [((FD.le h1).row m1).cell?]; rfl) ukindInt64 ?_
    simp only [Act.put, List.setIfInBounds_toArray, List.set_cons_succ, List.set_cons_zero]
    refine wpFreeD_callB rfl rfl Tryd.func23 (by kernel_rfl) (by kernel_rfl) (args := #[.int .i64 (nb : Nat)]) (by simp [Act.eval]) (fun v w1 w2 hw hv => hv) (fun w1 hw1 _ => (HD.out nb (by omega) w1 (FD.le hw1).below).mono ?_) ?_
    · rintro e w2 ⟨rfl, hl⟩
      exact ⟨_, rfl, hl, rfl⟩
    rintro v ⟨_, _, _, hv⟩
    replace hv : v = .string (decT nb) := hv
    subst hv
    simp only [Act.put, List.setIfInBounds_toArray, List.set_cons_succ, List.set_cons_zero]
    refine wpFreeD_newN rfl (fun z => .slice (some ⟨z, 0, none⟩) 3 3) (fun b b' h => by simpa using h) 9 #[.string ⟨#[99, 111, 112, 121]⟩, .string (decT na), .string (decT nb)] (fun w1 => ?_) (fun z => ?_)
    · have hb := mkStrD ⟨#[99, 111, 112, 121]⟩ (decT na) (decT nb) w1
      simp [execOp, Act.eval, Result.andThen, hb]
    simp only [Act.put, List.setIfInBounds_toArray, List.set_cons_succ, List.set_cons_zero]
    refine wpFreeD_one rfl (.slice (some ⟨z, 0, none⟩) 3 3) (fun w1 _ => by kernel_rfl) ?_
    simp only [Act.put, List.setIfInBounds_toArray, List.set_cons_succ, List.set_cons_zero]
    refine wpFreeD_nil (fun wR hwR hF => ?_)
    obtain ⟨_, hq4⟩ := (hF 8).1.2 rfl
    clear hF
    replace F := FD.le hwR
    clear hwR FD
    have HJ := hid (run_Join z 0 3 [wordD 4, decT na] spB 2 rfl wR (fun j u hj => by
      rw [Nat.zero_add, hq4.cell?]
      match j, hj with
      | 0, hj => simp at hj; subst hj; rfl
      | 1, hj => simp at hj; subst hj; rfl
      | j + 2, hj => simp at hj) hq4.lt (by simp) (by decide) (Nat.le_trans (jnB_size spB 30 _ (fun x hx => by
        have zw : (wordD 4).size ≤ 30 := by decide
        simp only [List.mem_cons, List.not_mem_nil, or_false] at hx
        rcases hx with rfl | rfl <;> omega)) (by rw [show spB.size = 1 from rfl]; simp)))
    clear hq4
    go_wp2_with (first | ((with_reducible refine listN F ?_); clear F; intro wN F) | ((with_reducible refine at_load rfl ?_); (with_reducible refine wpList_load1C rfl (g := b0) (f := 1) rfl (v := .int .i64 1) (by kernel_rfl) (F.row m0) rfl kindND ?_)) | (go_at_call 24; (refine HJ.out.mono ?_; rintro e w1 ⟨rfl, hl1⟩; replace F := F.le hl1; clear hl1)))
    go_ret
    exact ⟨by rw [E.out]; rfl, F.below⟩
  rcases hk with rfl | hk
  · have F := (Frg.nil w).box 25 #[.int .i64 5, .int .i64 (na : Nat), .int .i64 (nb : Nat)]
    have E := hid (show deedT 5 (na : Int) (nb : Int) = jnB spB [wordD 5, decT na] by unfold deedT; rw [← hv]; rfl)
    clear hv
    go_enter Tryd.func8, Tryd.ntmps8
    go_wp2_with (first | ((with_reducible refine listN F ?_); clear F; intro wN F) | ((with_reducible refine at_load rfl ?_); (with_reducible refine wpList_loadG F rfl rfl rfl m0 Tryd.underlying25 rfl uinfoDeedI rfl ?_)) | (go_at_call 21; ((with_reducible refine (HV.out _).mono ?_); rintro e w1 ⟨rfl, hl1⟩; replace F := F.le hl1; clear hl1)))
    first | (refine wpAt0 F ?_; clear F; intro wN F) | (refine wpAtN F ?_; clear F; intro wN F)
    have FD := F.drewN 1
    refine region_tailD (E := leX) (fun f args w v => v = .agg formsD) 5 (by kernel_rfl) (by kernel_rfl) ?_
    simp only [List.take_succ_cons, List.take_zero, List.drop_succ_cons, List.drop_zero]
    refine wpFreeD_callB rfl rfl Tryd.func22 (by kernel_rfl) (by kernel_rfl) (args := #[]) (by simp [Act.eval]) (fun v w1 w2 hw hv => hv) (fun w1 hw1 _ => (HF.out w1).mono ?_) ?_
    · rintro e w2 ⟨rfl, hl⟩
      exact ⟨_, rfl, hl, rfl⟩
    rintro v ⟨_, _, _, hv⟩
    replace hv : v = .agg formsD := hv
    subst hv
    simp only [Act.put, List.setIfInBounds_toArray, List.set_cons_succ, List.set_cons_zero]
    refine wpFreeD_one rfl (.pointer (some ⟨w.heap.size, 0, none⟩)) (fun w1 _ => by kernel_rfl) ?_
    simp only [Act.put, List.setIfInBounds_toArray, List.set_cons_succ, List.set_cons_zero]
    refine wpFreeD_load1 rfl rfl rfl (p := ⟨w.heap.size, 0, none⟩) (v := .int .i64 5) (fun w1 h1 => by rw [((FD.le h1).row m0).cell?]; rfl) ukindInt64 ?_
    simp only [Act.put, List.setIfInBounds_toArray, List.set_cons_succ, List.set_cons_zero]
    refine wpFreeD_one rfl (.agg #[.string ⟨#[100, 114, 111, 112]⟩, .int .i64 1]) (fun w1 _ => by kernel_rfl) ?_
    simp only [Act.put, List.setIfInBounds_toArray, List.set_cons_succ, List.set_cons_zero]
    refine wpFreeD_allocD rfl rfl #[.string ⟨#[]⟩, .int .i64 0] (fun w => by go_simp) (fun b0 => ?_)
    simp only [Act.put, List.setIfInBounds_toArray, List.set_cons_succ, List.set_cons_zero]
    refine wpFreeD_nil (fun wR hwR hF => ?_)
    obtain ⟨lb0, rb⟩ := (hF 4).2 rfl
    clear hF
    replace F : Frg w wR (rowF b0 57 #[.string ⟨#[]⟩, .int .i64 0] :: _) := F.rowS ((Frg.nil _).drewN 1 |>.le hwR).below (Nat.le_trans (by simp) lb0) rb
    clear hwR FD lb0 rb
    show wpList _ _ _ _ _ _
    refine wpList_storeD rfl rfl rfl (cells := #[.string ⟨#[100, 114, 111, 112]⟩, .int .i64 1]) rfl (F.row m0) infoFormI rfl (by (simp only [List.all_toArray', List.all_cons, List.all_nil, Bool.and_true, Bool.true_and]) <;> rfl) (fun w6 K => ?_)
    replace F := F.wrI0 K
    clear K
    go_wp2_with (first | ((with_reducible refine listN F ?_); clear F; intro wN F))
    first | (refine wpAt0 F ?_; clear F; intro wN F) | (refine wpAtN F ?_; clear F; intro wN F)
    have FD := F.drewN 1
    refine region_freeD (E := leX) (fun f args _ v => v = .string (decD args)) (by kernel_rfl) (by kernel_rfl) ?_
    refine wpFreeD_one rfl (.pointer (some ⟨b0, 0, none⟩)) (fun w1 _ => by kernel_rfl) ?_
    simp only [Act.put, List.setIfInBounds_toArray, List.set_cons_succ, List.set_cons_zero]
    refine wpFreeD_load1 rfl rfl rfl (p := ⟨b0, 0, none⟩) (v := .string ⟨#[100, 114, 111, 112]⟩) (fun w1 h1 => by rw [((FD.le h1).row m0).cell?]; rfl) ukindString ?_
    simp only [Act.put, List.setIfInBounds_toArray, List.set_cons_succ, List.set_cons_zero]
    refine wpFreeD_one rfl (.pointer (some ⟨w.heap.size, 1, none⟩)) (fun w1 _ => by kernel_rfl) ?_
    simp only [Act.put, List.setIfInBounds_toArray, List.set_cons_succ, List.set_cons_zero]
    refine wpFreeD_load1 rfl rfl rfl (p := ⟨w.heap.size, 1, none⟩) (v := .int .i64 (na : Nat)) (fun w1 h1 => by rw [((FD.le h1).row m1).cell?]; rfl) ukindInt64 ?_
    simp only [Act.put, List.setIfInBounds_toArray, List.set_cons_succ, List.set_cons_zero]
    refine wpFreeD_callB rfl rfl Tryd.func23 (by kernel_rfl) (by kernel_rfl) (args := #[.int .i64 (na : Nat)]) (by simp [Act.eval]) (fun v w1 w2 hw hv => hv) (fun w1 hw1 _ => (HD.out na (by omega) w1 (FD.le hw1).below).mono ?_) ?_
    · rintro e w2 ⟨rfl, hl⟩
      exact ⟨_, rfl, hl, rfl⟩
    rintro v ⟨_, _, _, hv⟩
    replace hv : v = .string (decT na) := hv
    subst hv
    simp only [Act.put, List.setIfInBounds_toArray, List.set_cons_succ, List.set_cons_zero]
    refine wpFreeD_one rfl (.pointer (some ⟨w.heap.size, 2, none⟩)) (fun w1 _ => by kernel_rfl) ?_
    simp only [Act.put, List.setIfInBounds_toArray, List.set_cons_succ, List.set_cons_zero]
    refine wpFreeD_load1 rfl rfl rfl (p := ⟨w.heap.size, 2, none⟩) (v := .int .i64 (nb : Nat)) (fun w1 h1 => by rw [((FD.le h1).row m1).cell?]; rfl) ukindInt64 ?_
    simp only [Act.put, List.setIfInBounds_toArray, List.set_cons_succ, List.set_cons_zero]
    refine wpFreeD_callB rfl rfl Tryd.func23 (by kernel_rfl) (by kernel_rfl) (args := #[.int .i64 (nb : Nat)]) (by simp [Act.eval]) (fun v w1 w2 hw hv => hv) (fun w1 hw1 _ => (HD.out nb (by omega) w1 (FD.le hw1).below).mono ?_) ?_
    · rintro e w2 ⟨rfl, hl⟩
      exact ⟨_, rfl, hl, rfl⟩
    rintro v ⟨_, _, _, hv⟩
    replace hv : v = .string (decT nb) := hv
    subst hv
    simp only [Act.put, List.setIfInBounds_toArray, List.set_cons_succ, List.set_cons_zero]
    refine wpFreeD_newN rfl (fun z => .slice (some ⟨z, 0, none⟩) 3 3) (fun b b' h => by simpa using h) 9 #[.string ⟨#[100, 114, 111, 112]⟩, .string (decT na), .string (decT nb)] (fun w1 => ?_) (fun z => ?_)
    · have hb := mkStrD ⟨#[100, 114, 111, 112]⟩ (decT na) (decT nb) w1
      simp [execOp, Act.eval, Result.andThen, hb]
    simp only [Act.put, List.setIfInBounds_toArray, List.set_cons_succ, List.set_cons_zero]
    refine wpFreeD_one rfl (.slice (some ⟨z, 0, none⟩) 3 3) (fun w1 _ => by kernel_rfl) ?_
    simp only [Act.put, List.setIfInBounds_toArray, List.set_cons_succ, List.set_cons_zero]
    refine wpFreeD_nil (fun wR hwR hF => ?_)
    obtain ⟨_, hq4⟩ := (hF 8).1.2 rfl
    clear hF
    replace F := FD.le hwR
    clear hwR FD
    have HJ := hid (run_Join z 0 3 [wordD 5, decT na] spB 2 rfl wR (fun j u hj => by
      rw [Nat.zero_add, hq4.cell?]
      match j, hj with
      | 0, hj => simp at hj; subst hj; rfl
      | 1, hj => simp at hj; subst hj; rfl
      | j + 2, hj => simp at hj) hq4.lt (by simp) (by decide) (Nat.le_trans (jnB_size spB 30 _ (fun x hx => by
        have zw : (wordD 5).size ≤ 30 := by decide
        simp only [List.mem_cons, List.not_mem_nil, or_false] at hx
        rcases hx with rfl | rfl <;> omega)) (by rw [show spB.size = 1 from rfl]; simp)))
    clear hq4
    go_wp2_with (first | ((with_reducible refine listN F ?_); clear F; intro wN F) | ((with_reducible refine at_load rfl ?_); (with_reducible refine wpList_load1C rfl (g := b0) (f := 1) rfl (v := .int .i64 1) (by kernel_rfl) (F.row m0) rfl kindND ?_)) | (go_at_call 24; (refine HJ.out.mono ?_; rintro e w1 ⟨rfl, hl1⟩; replace F := F.le hl1; clear hl1)))
    go_ret
    exact ⟨by rw [E.out]; rfl, F.below⟩
  rcases hk with rfl | hk
  · have F := (Frg.nil w).box 25 #[.int .i64 6, .int .i64 (na : Nat), .int .i64 (nb : Nat)]
    have E := hid (show deedT 6 (na : Int) (nb : Int) = jnB spB [wordD 6, decT na, decT nb] by unfold deedT; rw [← hv]; rfl)
    clear hv
    go_enter Tryd.func8, Tryd.ntmps8
    go_wp2_with (first | ((with_reducible refine listN F ?_); clear F; intro wN F) | ((with_reducible refine at_load rfl ?_); (with_reducible refine wpList_loadG F rfl rfl rfl m0 Tryd.underlying25 rfl uinfoDeedI rfl ?_)) | (go_at_call 21; ((with_reducible refine (HV.out _).mono ?_); rintro e w1 ⟨rfl, hl1⟩; replace F := F.le hl1; clear hl1)))
    first | (refine wpAt0 F ?_; clear F; intro wN F) | (refine wpAtN F ?_; clear F; intro wN F)
    have FD := F.drewN 1
    refine region_tailD (E := leX) (fun f args w v => v = .agg formsD) 5 (by kernel_rfl) (by kernel_rfl) ?_
    simp only [List.take_succ_cons, List.take_zero, List.drop_succ_cons, List.drop_zero]
    refine wpFreeD_callB rfl rfl Tryd.func22 (by kernel_rfl) (by kernel_rfl) (args := #[]) (by simp [Act.eval]) (fun v w1 w2 hw hv => hv) (fun w1 hw1 _ => (HF.out w1).mono ?_) ?_
    · rintro e w2 ⟨rfl, hl⟩
      exact ⟨_, rfl, hl, rfl⟩
    rintro v ⟨_, _, _, hv⟩
    replace hv : v = .agg formsD := hv
    subst hv
    simp only [Act.put, List.setIfInBounds_toArray, List.set_cons_succ, List.set_cons_zero]
    refine wpFreeD_one rfl (.pointer (some ⟨w.heap.size, 0, none⟩)) (fun w1 _ => by kernel_rfl) ?_
    simp only [Act.put, List.setIfInBounds_toArray, List.set_cons_succ, List.set_cons_zero]
    refine wpFreeD_load1 rfl rfl rfl (p := ⟨w.heap.size, 0, none⟩) (v := .int .i64 6) (fun w1 h1 => by rw [((FD.le h1).row m0).cell?]; rfl) ukindInt64 ?_
    simp only [Act.put, List.setIfInBounds_toArray, List.set_cons_succ, List.set_cons_zero]
    refine wpFreeD_one rfl (.agg #[.string ⟨#[115, 112, 111, 105, 108]⟩, .int .i64 2]) (fun w1 _ => by kernel_rfl) ?_
    simp only [Act.put, List.setIfInBounds_toArray, List.set_cons_succ, List.set_cons_zero]
    refine wpFreeD_allocD rfl rfl #[.string ⟨#[]⟩, .int .i64 0] (fun w => by go_simp) (fun b0 => ?_)
    simp only [Act.put, List.setIfInBounds_toArray, List.set_cons_succ, List.set_cons_zero]
    refine wpFreeD_nil (fun wR hwR hF => ?_)
    obtain ⟨lb0, rb⟩ := (hF 4).2 rfl
    clear hF
    replace F : Frg w wR (rowF b0 57 #[.string ⟨#[]⟩, .int .i64 0] :: _) := F.rowS ((Frg.nil _).drewN 1 |>.le hwR).below (Nat.le_trans (by simp) lb0) rb
    clear hwR FD lb0 rb
    show wpList _ _ _ _ _ _
    refine wpList_storeD rfl rfl rfl (cells := #[.string ⟨#[115, 112, 111, 105, 108]⟩, .int .i64 2]) rfl (F.row m0) infoFormI rfl (by (simp only [List.all_toArray', List.all_cons, List.all_nil, Bool.and_true, Bool.true_and]) <;> rfl) (fun w6 K => ?_)
    replace F := F.wrI0 K
    clear K
    go_wp2_with (first | ((with_reducible refine listN F ?_); clear F; intro wN F))
    first | (refine wpAt0 F ?_; clear F; intro wN F) | (refine wpAtN F ?_; clear F; intro wN F)
    have FD := F.drewN 1
    refine region_freeD (E := leX) (fun f args _ v => v = .string (decD args)) (by kernel_rfl) (by kernel_rfl) ?_
    refine wpFreeD_one rfl (.pointer (some ⟨b0, 0, none⟩)) (fun w1 _ => by kernel_rfl) ?_
    simp only [Act.put, List.setIfInBounds_toArray, List.set_cons_succ, List.set_cons_zero]
    refine wpFreeD_load1 rfl rfl rfl (p := ⟨b0, 0, none⟩) (v := .string ⟨#[115, 112, 111, 105, 108]⟩) (fun w1 h1 => by rw [((FD.le h1).row m0).cell?]; rfl) ukindString ?_
    simp only [Act.put, List.setIfInBounds_toArray, List.set_cons_succ, List.set_cons_zero]
    refine wpFreeD_one rfl (.pointer (some ⟨w.heap.size, 1, none⟩)) (fun w1 _ => by kernel_rfl) ?_
    simp only [Act.put, List.setIfInBounds_toArray, List.set_cons_succ, List.set_cons_zero]
    refine wpFreeD_load1 rfl rfl rfl (p := ⟨w.heap.size, 1, none⟩) (v := .int .i64 (na : Nat)) (fun w1 h1 => by rw [((FD.le h1).row m1).cell?]; rfl) ukindInt64 ?_
    simp only [Act.put, List.setIfInBounds_toArray, List.set_cons_succ, List.set_cons_zero]
    refine wpFreeD_callB rfl rfl Tryd.func23 (by kernel_rfl) (by kernel_rfl) (args := #[.int .i64 (na : Nat)]) (by simp [Act.eval]) (fun v w1 w2 hw hv => hv) (fun w1 hw1 _ => (HD.out na (by omega) w1 (FD.le hw1).below).mono ?_) ?_
    · rintro e w2 ⟨rfl, hl⟩
      exact ⟨_, rfl, hl, rfl⟩
    rintro v ⟨_, _, _, hv⟩
    replace hv : v = .string (decT na) := hv
    subst hv
    simp only [Act.put, List.setIfInBounds_toArray, List.set_cons_succ, List.set_cons_zero]
    refine wpFreeD_one rfl (.pointer (some ⟨w.heap.size, 2, none⟩)) (fun w1 _ => by kernel_rfl) ?_
    simp only [Act.put, List.setIfInBounds_toArray, List.set_cons_succ, List.set_cons_zero]
    refine wpFreeD_load1 rfl rfl rfl (p := ⟨w.heap.size, 2, none⟩) (v := .int .i64 (nb : Nat)) (fun w1 h1 => by rw [((FD.le h1).row m1).cell?]; rfl) ukindInt64 ?_
    simp only [Act.put, List.setIfInBounds_toArray, List.set_cons_succ, List.set_cons_zero]
    refine wpFreeD_callB rfl rfl Tryd.func23 (by kernel_rfl) (by kernel_rfl) (args := #[.int .i64 (nb : Nat)]) (by simp [Act.eval]) (fun v w1 w2 hw hv => hv) (fun w1 hw1 _ => (HD.out nb (by omega) w1 (FD.le hw1).below).mono ?_) ?_
    · rintro e w2 ⟨rfl, hl⟩
      exact ⟨_, rfl, hl, rfl⟩
    rintro v ⟨_, _, _, hv⟩
    replace hv : v = .string (decT nb) := hv
    subst hv
    simp only [Act.put, List.setIfInBounds_toArray, List.set_cons_succ, List.set_cons_zero]
    refine wpFreeD_newN rfl (fun z => .slice (some ⟨z, 0, none⟩) 3 3) (fun b b' h => by simpa using h) 9 #[.string ⟨#[115, 112, 111, 105, 108]⟩, .string (decT na), .string (decT nb)] (fun w1 => ?_) (fun z => ?_)
    · have hb := mkStrD ⟨#[115, 112, 111, 105, 108]⟩ (decT na) (decT nb) w1
      simp [execOp, Act.eval, Result.andThen, hb]
    simp only [Act.put, List.setIfInBounds_toArray, List.set_cons_succ, List.set_cons_zero]
    refine wpFreeD_one rfl (.slice (some ⟨z, 0, none⟩) 3 3) (fun w1 _ => by kernel_rfl) ?_
    simp only [Act.put, List.setIfInBounds_toArray, List.set_cons_succ, List.set_cons_zero]
    refine wpFreeD_nil (fun wR hwR hF => ?_)
    obtain ⟨_, hq4⟩ := (hF 8).1.2 rfl
    clear hF
    replace F := FD.le hwR
    clear hwR FD
    have HJ := hid (run_Join z 0 3 [wordD 6, decT na, decT nb] spB 3 rfl wR (fun j u hj => by
      rw [Nat.zero_add, hq4.cell?]
      match j, hj with
      | 0, hj => simp at hj; subst hj; rfl
      | 1, hj => simp at hj; subst hj; rfl
      | 2, hj => simp at hj; subst hj; rfl
      | j + 3, hj => simp at hj) hq4.lt (by simp) (by decide) (Nat.le_trans (jnB_size spB 30 _ (fun x hx => by
        have zw : (wordD 6).size ≤ 30 := by decide
        simp only [List.mem_cons, List.not_mem_nil, or_false] at hx
        rcases hx with rfl | rfl | rfl <;> omega)) (by rw [show spB.size = 1 from rfl]; simp)))
    clear hq4
    go_wp2_with (first | ((with_reducible refine listN F ?_); clear F; intro wN F) | ((with_reducible refine at_load rfl ?_); (with_reducible refine wpList_load1C rfl (g := b0) (f := 1) rfl (v := .int .i64 2) (by kernel_rfl) (F.row m0) rfl kindND ?_)) | (go_at_call 24; (refine HJ.out.mono ?_; rintro e w1 ⟨rfl, hl1⟩; replace F := F.le hl1; clear hl1)))
    go_ret
    exact ⟨by rw [E.out]; rfl, F.below⟩
  rcases hk with rfl | hk
  · have F := (Frg.nil w).box 25 #[.int .i64 7, .int .i64 (na : Nat), .int .i64 (nb : Nat)]
    have E := hid (show deedT 7 (na : Int) (nb : Int) = jnB spB [wordD 7] by unfold deedT; rw [← hv]; rfl)
    clear hv
    go_enter Tryd.func8, Tryd.ntmps8
    go_wp2_with (first | ((with_reducible refine listN F ?_); clear F; intro wN F) | ((with_reducible refine at_load rfl ?_); (with_reducible refine wpList_loadG F rfl rfl rfl m0 Tryd.underlying25 rfl uinfoDeedI rfl ?_)) | (go_at_call 21; ((with_reducible refine (HV.out _).mono ?_); rintro e w1 ⟨rfl, hl1⟩; replace F := F.le hl1; clear hl1)))
    first | (refine wpAt0 F ?_; clear F; intro wN F) | (refine wpAtN F ?_; clear F; intro wN F)
    have FD := F.drewN 1
    refine region_tailD (E := leX) (fun f args w v => v = .agg formsD) 5 (by kernel_rfl) (by kernel_rfl) ?_
    simp only [List.take_succ_cons, List.take_zero, List.drop_succ_cons, List.drop_zero]
    refine wpFreeD_callB rfl rfl Tryd.func22 (by kernel_rfl) (by kernel_rfl) (args := #[]) (by simp [Act.eval]) (fun v w1 w2 hw hv => hv) (fun w1 hw1 _ => (HF.out w1).mono ?_) ?_
    · rintro e w2 ⟨rfl, hl⟩
      exact ⟨_, rfl, hl, rfl⟩
    rintro v ⟨_, _, _, hv⟩
    replace hv : v = .agg formsD := hv
    subst hv
    simp only [Act.put, List.setIfInBounds_toArray, List.set_cons_succ, List.set_cons_zero]
    refine wpFreeD_one rfl (.pointer (some ⟨w.heap.size, 0, none⟩)) (fun w1 _ => by kernel_rfl) ?_
    simp only [Act.put, List.setIfInBounds_toArray, List.set_cons_succ, List.set_cons_zero]
    refine wpFreeD_load1 rfl rfl rfl (p := ⟨w.heap.size, 0, none⟩) (v := .int .i64 7) (fun w1 h1 => by rw [((FD.le h1).row m0).cell?]; rfl) ukindInt64 ?_
    simp only [Act.put, List.setIfInBounds_toArray, List.set_cons_succ, List.set_cons_zero]
    refine wpFreeD_one rfl (.agg #[.string ⟨#[115, 121, 110, 99]⟩, .int .i64 0]) (fun w1 _ => by kernel_rfl) ?_
    simp only [Act.put, List.setIfInBounds_toArray, List.set_cons_succ, List.set_cons_zero]
    refine wpFreeD_allocD rfl rfl #[.string ⟨#[]⟩, .int .i64 0] (fun w => by go_simp) (fun b0 => ?_)
    simp only [Act.put, List.setIfInBounds_toArray, List.set_cons_succ, List.set_cons_zero]
    refine wpFreeD_nil (fun wR hwR hF => ?_)
    obtain ⟨lb0, rb⟩ := (hF 4).2 rfl
    clear hF
    replace F : Frg w wR (rowF b0 57 #[.string ⟨#[]⟩, .int .i64 0] :: _) := F.rowS ((Frg.nil _).drewN 1 |>.le hwR).below (Nat.le_trans (by simp) lb0) rb
    clear hwR FD lb0 rb
    show wpList _ _ _ _ _ _
    refine wpList_storeD rfl rfl rfl (cells := #[.string ⟨#[115, 121, 110, 99]⟩, .int .i64 0]) rfl (F.row m0) infoFormI rfl (by (simp only [List.all_toArray', List.all_cons, List.all_nil, Bool.and_true, Bool.true_and]) <;> rfl) (fun w6 K => ?_)
    replace F := F.wrI0 K
    clear K
    go_wp2_with (first | ((with_reducible refine listN F ?_); clear F; intro wN F))
    first | (refine wpAt0 F ?_; clear F; intro wN F) | (refine wpAtN F ?_; clear F; intro wN F)
    have FD := F.drewN 1
    refine region_freeD (E := leX) (fun f args _ v => v = .string (decD args)) (by kernel_rfl) (by kernel_rfl) ?_
    refine wpFreeD_one rfl (.pointer (some ⟨b0, 0, none⟩)) (fun w1 _ => by kernel_rfl) ?_
    simp only [Act.put, List.setIfInBounds_toArray, List.set_cons_succ, List.set_cons_zero]
    refine wpFreeD_load1 rfl rfl rfl (p := ⟨b0, 0, none⟩) (v := .string ⟨#[115, 121, 110, 99]⟩) (fun w1 h1 => by rw [((FD.le h1).row m0).cell?]; rfl) ukindString ?_
    simp only [Act.put, List.setIfInBounds_toArray, List.set_cons_succ, List.set_cons_zero]
    refine wpFreeD_one rfl (.pointer (some ⟨w.heap.size, 1, none⟩)) (fun w1 _ => by kernel_rfl) ?_
    simp only [Act.put, List.setIfInBounds_toArray, List.set_cons_succ, List.set_cons_zero]
    refine wpFreeD_load1 rfl rfl rfl (p := ⟨w.heap.size, 1, none⟩) (v := .int .i64 (na : Nat)) (fun w1 h1 => by rw [((FD.le h1).row m1).cell?]; rfl) ukindInt64 ?_
    simp only [Act.put, List.setIfInBounds_toArray, List.set_cons_succ, List.set_cons_zero]
    refine wpFreeD_callB rfl rfl Tryd.func23 (by kernel_rfl) (by kernel_rfl) (args := #[.int .i64 (na : Nat)]) (by simp [Act.eval]) (fun v w1 w2 hw hv => hv) (fun w1 hw1 _ => (HD.out na (by omega) w1 (FD.le hw1).below).mono ?_) ?_
    · rintro e w2 ⟨rfl, hl⟩
      exact ⟨_, rfl, hl, rfl⟩
    rintro v ⟨_, _, _, hv⟩
    replace hv : v = .string (decT na) := hv
    subst hv
    simp only [Act.put, List.setIfInBounds_toArray, List.set_cons_succ, List.set_cons_zero]
    refine wpFreeD_one rfl (.pointer (some ⟨w.heap.size, 2, none⟩)) (fun w1 _ => by kernel_rfl) ?_
    simp only [Act.put, List.setIfInBounds_toArray, List.set_cons_succ, List.set_cons_zero]
    refine wpFreeD_load1 rfl rfl rfl (p := ⟨w.heap.size, 2, none⟩) (v := .int .i64 (nb : Nat)) (fun w1 h1 => by rw [((FD.le h1).row m1).cell?]; rfl) ukindInt64 ?_
    simp only [Act.put, List.setIfInBounds_toArray, List.set_cons_succ, List.set_cons_zero]
    refine wpFreeD_callB rfl rfl Tryd.func23 (by kernel_rfl) (by kernel_rfl) (args := #[.int .i64 (nb : Nat)]) (by simp [Act.eval]) (fun v w1 w2 hw hv => hv) (fun w1 hw1 _ => (HD.out nb (by omega) w1 (FD.le hw1).below).mono ?_) ?_
    · rintro e w2 ⟨rfl, hl⟩
      exact ⟨_, rfl, hl, rfl⟩
    rintro v ⟨_, _, _, hv⟩
    replace hv : v = .string (decT nb) := hv
    subst hv
    simp only [Act.put, List.setIfInBounds_toArray, List.set_cons_succ, List.set_cons_zero]
    refine wpFreeD_newN rfl (fun z => .slice (some ⟨z, 0, none⟩) 3 3) (fun b b' h => by simpa using h) 9 #[.string ⟨#[115, 121, 110, 99]⟩, .string (decT na), .string (decT nb)] (fun w1 => ?_) (fun z => ?_)
    · have hb := mkStrD ⟨#[115, 121, 110, 99]⟩ (decT na) (decT nb) w1
      simp [execOp, Act.eval, Result.andThen, hb]
    simp only [Act.put, List.setIfInBounds_toArray, List.set_cons_succ, List.set_cons_zero]
    refine wpFreeD_one rfl (.slice (some ⟨z, 0, none⟩) 3 3) (fun w1 _ => by kernel_rfl) ?_
    simp only [Act.put, List.setIfInBounds_toArray, List.set_cons_succ, List.set_cons_zero]
    refine wpFreeD_nil (fun wR hwR hF => ?_)
    obtain ⟨_, hq4⟩ := (hF 8).1.2 rfl
    clear hF
    replace F := FD.le hwR
    clear hwR FD
    have HJ := hid (run_Join z 0 3 [wordD 7] spB 1 rfl wR (fun j u hj => by
      rw [Nat.zero_add, hq4.cell?]
      match j, hj with
      | 0, hj => simp at hj; subst hj; rfl
      | j + 1, hj => simp at hj) hq4.lt (by simp) (by decide) (Nat.le_trans (jnB_size spB 30 _ (fun x hx => by
        have zw : (wordD 7).size ≤ 30 := by decide
        simp only [List.mem_cons, List.not_mem_nil, or_false] at hx
        rcases hx with rfl <;> omega)) (by rw [show spB.size = 1 from rfl]; simp)))
    clear hq4
    go_wp2_with (first | ((with_reducible refine listN F ?_); clear F; intro wN F) | ((with_reducible refine at_load rfl ?_); (with_reducible refine wpList_load1C rfl (g := b0) (f := 1) rfl (v := .int .i64 0) (by kernel_rfl) (F.row m0) rfl kindND ?_)) | (go_at_call 24; (refine HJ.out.mono ?_; rintro e w1 ⟨rfl, hl1⟩; replace F := F.le hl1; clear hl1)))
    go_ret
    exact ⟨by rw [E.out]; rfl, F.below⟩
  rcases hk with rfl | hk
  · have F := (Frg.nil w).box 25 #[.int .i64 8, .int .i64 (na : Nat), .int .i64 (nb : Nat)]
    have E := hid (show deedT 8 (na : Int) (nb : Int) = jnB spB [wordD 8] by unfold deedT; rw [← hv]; rfl)
    clear hv
    go_enter Tryd.func8, Tryd.ntmps8
    go_wp2_with (first | ((with_reducible refine listN F ?_); clear F; intro wN F) | ((with_reducible refine at_load rfl ?_); (with_reducible refine wpList_loadG F rfl rfl rfl m0 Tryd.underlying25 rfl uinfoDeedI rfl ?_)) | (go_at_call 21; ((with_reducible refine (HV.out _).mono ?_); rintro e w1 ⟨rfl, hl1⟩; replace F := F.le hl1; clear hl1)))
    first | (refine wpAt0 F ?_; clear F; intro wN F) | (refine wpAtN F ?_; clear F; intro wN F)
    have FD := F.drewN 1
    refine region_tailD (E := leX) (fun f args w v => v = .agg formsD) 5 (by kernel_rfl) (by kernel_rfl) ?_
    simp only [List.take_succ_cons, List.take_zero, List.drop_succ_cons, List.drop_zero]
    refine wpFreeD_callB rfl rfl Tryd.func22 (by kernel_rfl) (by kernel_rfl) (args := #[]) (by simp [Act.eval]) (fun v w1 w2 hw hv => hv) (fun w1 hw1 _ => (HF.out w1).mono ?_) ?_
    · rintro e w2 ⟨rfl, hl⟩
      exact ⟨_, rfl, hl, rfl⟩
    rintro v ⟨_, _, _, hv⟩
    replace hv : v = .agg formsD := hv
    subst hv
    simp only [Act.put, List.setIfInBounds_toArray, List.set_cons_succ, List.set_cons_zero]
    refine wpFreeD_one rfl (.pointer (some ⟨w.heap.size, 0, none⟩)) (fun w1 _ => by kernel_rfl) ?_
    simp only [Act.put, List.setIfInBounds_toArray, List.set_cons_succ, List.set_cons_zero]
    refine wpFreeD_load1 rfl rfl rfl (p := ⟨w.heap.size, 0, none⟩) (v := .int .i64 8) (fun w1 h1 => by rw [((FD.le h1).row m0).cell?]; rfl) ukindInt64 ?_
    simp only [Act.put, List.setIfInBounds_toArray, List.set_cons_succ, List.set_cons_zero]
    refine wpFreeD_one rfl (.agg #[.string ⟨#[99, 114, 97, 115, 104]⟩, .int .i64 0]) (fun w1 _ => by kernel_rfl) ?_
    simp only [Act.put, List.setIfInBounds_toArray, List.set_cons_succ, List.set_cons_zero]
    refine wpFreeD_allocD rfl rfl #[.string ⟨#[]⟩, .int .i64 0] (fun w => by go_simp) (fun b0 => ?_)
    simp only [Act.put, List.setIfInBounds_toArray, List.set_cons_succ, List.set_cons_zero]
    refine wpFreeD_nil (fun wR hwR hF => ?_)
    obtain ⟨lb0, rb⟩ := (hF 4).2 rfl
    clear hF
    replace F : Frg w wR (rowF b0 57 #[.string ⟨#[]⟩, .int .i64 0] :: _) := F.rowS ((Frg.nil _).drewN 1 |>.le hwR).below (Nat.le_trans (by simp) lb0) rb
    clear hwR FD lb0 rb
    show wpList _ _ _ _ _ _
    refine wpList_storeD rfl rfl rfl (cells := #[.string ⟨#[99, 114, 97, 115, 104]⟩, .int .i64 0]) rfl (F.row m0) infoFormI rfl (by (simp only [List.all_toArray', List.all_cons, List.all_nil, Bool.and_true, Bool.true_and]) <;> rfl) (fun w6 K => ?_)
    replace F := F.wrI0 K
    clear K
    go_wp2_with (first | ((with_reducible refine listN F ?_); clear F; intro wN F))
    first | (refine wpAt0 F ?_; clear F; intro wN F) | (refine wpAtN F ?_; clear F; intro wN F)
    have FD := F.drewN 1
    refine region_freeD (E := leX) (fun f args _ v => v = .string (decD args)) (by kernel_rfl) (by kernel_rfl) ?_
    refine wpFreeD_one rfl (.pointer (some ⟨b0, 0, none⟩)) (fun w1 _ => by kernel_rfl) ?_
    simp only [Act.put, List.setIfInBounds_toArray, List.set_cons_succ, List.set_cons_zero]
    refine wpFreeD_load1 rfl rfl rfl (p := ⟨b0, 0, none⟩) (v := .string ⟨#[99, 114, 97, 115, 104]⟩) (fun w1 h1 => by rw [((FD.le h1).row m0).cell?]; rfl) ukindString ?_
    simp only [Act.put, List.setIfInBounds_toArray, List.set_cons_succ, List.set_cons_zero]
    refine wpFreeD_one rfl (.pointer (some ⟨w.heap.size, 1, none⟩)) (fun w1 _ => by kernel_rfl) ?_
    simp only [Act.put, List.setIfInBounds_toArray, List.set_cons_succ, List.set_cons_zero]
    refine wpFreeD_load1 rfl rfl rfl (p := ⟨w.heap.size, 1, none⟩) (v := .int .i64 (na : Nat)) (fun w1 h1 => by rw [((FD.le h1).row m1).cell?]; rfl) ukindInt64 ?_
    simp only [Act.put, List.setIfInBounds_toArray, List.set_cons_succ, List.set_cons_zero]
    refine wpFreeD_callB rfl rfl Tryd.func23 (by kernel_rfl) (by kernel_rfl) (args := #[.int .i64 (na : Nat)]) (by simp [Act.eval]) (fun v w1 w2 hw hv => hv) (fun w1 hw1 _ => (HD.out na (by omega) w1 (FD.le hw1).below).mono ?_) ?_
    · rintro e w2 ⟨rfl, hl⟩
      exact ⟨_, rfl, hl, rfl⟩
    rintro v ⟨_, _, _, hv⟩
    replace hv : v = .string (decT na) := hv
    subst hv
    simp only [Act.put, List.setIfInBounds_toArray, List.set_cons_succ, List.set_cons_zero]
    refine wpFreeD_one rfl (.pointer (some ⟨w.heap.size, 2, none⟩)) (fun w1 _ => by kernel_rfl) ?_
    simp only [Act.put, List.setIfInBounds_toArray, List.set_cons_succ, List.set_cons_zero]
    refine wpFreeD_load1 rfl rfl rfl (p := ⟨w.heap.size, 2, none⟩) (v := .int .i64 (nb : Nat)) (fun w1 h1 => by rw [((FD.le h1).row m1).cell?]; rfl) ukindInt64 ?_
    simp only [Act.put, List.setIfInBounds_toArray, List.set_cons_succ, List.set_cons_zero]
    refine wpFreeD_callB rfl rfl Tryd.func23 (by kernel_rfl) (by kernel_rfl) (args := #[.int .i64 (nb : Nat)]) (by simp [Act.eval]) (fun v w1 w2 hw hv => hv) (fun w1 hw1 _ => (HD.out nb (by omega) w1 (FD.le hw1).below).mono ?_) ?_
    · rintro e w2 ⟨rfl, hl⟩
      exact ⟨_, rfl, hl, rfl⟩
    rintro v ⟨_, _, _, hv⟩
    replace hv : v = .string (decT nb) := hv
    subst hv
    simp only [Act.put, List.setIfInBounds_toArray, List.set_cons_succ, List.set_cons_zero]
    refine wpFreeD_newN rfl (fun z => .slice (some ⟨z, 0, none⟩) 3 3) (fun b b' h => by simpa using h) 9 #[.string ⟨#[99, 114, 97, 115, 104]⟩, .string (decT na), .string (decT nb)] (fun w1 => ?_) (fun z => ?_)
    · have hb := mkStrD ⟨#[99, 114, 97, 115, 104]⟩ (decT na) (decT nb) w1
      simp [execOp, Act.eval, Result.andThen, hb]
    simp only [Act.put, List.setIfInBounds_toArray, List.set_cons_succ, List.set_cons_zero]
    refine wpFreeD_one rfl (.slice (some ⟨z, 0, none⟩) 3 3) (fun w1 _ => by kernel_rfl) ?_
    simp only [Act.put, List.setIfInBounds_toArray, List.set_cons_succ, List.set_cons_zero]
    refine wpFreeD_nil (fun wR hwR hF => ?_)
    obtain ⟨_, hq4⟩ := (hF 8).1.2 rfl
    clear hF
    replace F := FD.le hwR
    clear hwR FD
    have HJ := hid (run_Join z 0 3 [wordD 8] spB 1 rfl wR (fun j u hj => by
      rw [Nat.zero_add, hq4.cell?]
      match j, hj with
      | 0, hj => simp at hj; subst hj; rfl
      | j + 1, hj => simp at hj) hq4.lt (by simp) (by decide) (Nat.le_trans (jnB_size spB 30 _ (fun x hx => by
        have zw : (wordD 8).size ≤ 30 := by decide
        simp only [List.mem_cons, List.not_mem_nil, or_false] at hx
        rcases hx with rfl <;> omega)) (by rw [show spB.size = 1 from rfl]; simp)))
    clear hq4
    go_wp2_with (first | ((with_reducible refine listN F ?_); clear F; intro wN F) | ((with_reducible refine at_load rfl ?_); (with_reducible refine wpList_load1C rfl (g := b0) (f := 1) rfl (v := .int .i64 0) (by kernel_rfl) (F.row m0) rfl kindND ?_)) | (go_at_call 24; (refine HJ.out.mono ?_; rintro e w1 ⟨rfl, hl1⟩; replace F := F.le hl1; clear hl1)))
    go_ret
    exact ⟨by rw [E.out]; rfl, F.below⟩
  subst hk
  have F := (Frg.nil w).box 25 #[.int .i64 9, .int .i64 (na : Nat), .int .i64 (nb : Nat)]
  have E := hid (show deedT 9 (na : Int) (nb : Int) = jnB spB [wordD 9, decT na] by unfold deedT; rw [← hv]; rfl)
  clear hv
  go_enter Tryd.func8, Tryd.ntmps8
  go_wp2_with (first | ((with_reducible refine listN F ?_); clear F; intro wN F) | ((with_reducible refine at_load rfl ?_); (with_reducible refine wpList_loadG F rfl rfl rfl m0 Tryd.underlying25 rfl uinfoDeedI rfl ?_)) | (go_at_call 21; ((with_reducible refine (HV.out _).mono ?_); rintro e w1 ⟨rfl, hl1⟩; replace F := F.le hl1; clear hl1)))
  first | (refine wpAt0 F ?_; clear F; intro wN F) | (refine wpAtN F ?_; clear F; intro wN F)
  have FD := F.drewN 1
  refine region_tailD (E := leX) (fun f args w v => v = .agg formsD) 5 (by kernel_rfl) (by kernel_rfl) ?_
  simp only [List.take_succ_cons, List.take_zero, List.drop_succ_cons, List.drop_zero]
  refine wpFreeD_callB rfl rfl Tryd.func22 (by kernel_rfl) (by kernel_rfl) (args := #[]) (by simp [Act.eval]) (fun v w1 w2 hw hv => hv) (fun w1 hw1 _ => (HF.out w1).mono ?_) ?_
  · rintro e w2 ⟨rfl, hl⟩
    exact ⟨_, rfl, hl, rfl⟩
  rintro v ⟨_, _, _, hv⟩
  replace hv : v = .agg formsD := hv
  subst hv
  simp only [Act.put, List.setIfInBounds_toArray, List.set_cons_succ, List.set_cons_zero]
  refine wpFreeD_one rfl (.pointer (some ⟨w.heap.size, 0, none⟩)) (fun w1 _ => by kernel_rfl) ?_
  simp only [Act.put, List.setIfInBounds_toArray, List.set_cons_succ, List.set_cons_zero]
  refine wpFreeD_load1 rfl rfl rfl (p := ⟨w.heap.size, 0, none⟩) (v := .int .i64 9) (fun w1 h1 => by rw [((FD.le h1).row m0).cell?]; rfl) ukindInt64 ?_
  simp only [Act.put, List.setIfInBounds_toArray, List.set_cons_succ, List.set_cons_zero]
  refine wpFreeD_one rfl (.agg #[.string ⟨#[113, 117, 105, 116]⟩, .int .i64 1]) (fun w1 _ => by kernel_rfl) ?_
  simp only [Act.put, List.setIfInBounds_toArray, List.set_cons_succ, List.set_cons_zero]
  refine wpFreeD_allocD rfl rfl #[.string ⟨#[]⟩, .int .i64 0] (fun w => by go_simp) (fun b0 => ?_)
  simp only [Act.put, List.setIfInBounds_toArray, List.set_cons_succ, List.set_cons_zero]
  refine wpFreeD_nil (fun wR hwR hF => ?_)
  obtain ⟨lb0, rb⟩ := (hF 4).2 rfl
  clear hF
  replace F : Frg w wR (rowF b0 57 #[.string ⟨#[]⟩, .int .i64 0] :: _) := F.rowS ((Frg.nil _).drewN 1 |>.le hwR).below (Nat.le_trans (by simp) lb0) rb
  clear hwR FD lb0 rb
  show wpList _ _ _ _ _ _
  refine wpList_storeD rfl rfl rfl (cells := #[.string ⟨#[113, 117, 105, 116]⟩, .int .i64 1]) rfl (F.row m0) infoFormI rfl (by (simp only [List.all_toArray', List.all_cons, List.all_nil, Bool.and_true, Bool.true_and]) <;> rfl) (fun w6 K => ?_)
  replace F := F.wrI0 K
  clear K
  go_wp2_with (first | ((with_reducible refine listN F ?_); clear F; intro wN F))
  first | (refine wpAt0 F ?_; clear F; intro wN F) | (refine wpAtN F ?_; clear F; intro wN F)
  have FD := F.drewN 1
  refine region_freeD (E := leX) (fun f args _ v => v = .string (decD args)) (by kernel_rfl) (by kernel_rfl) ?_
  refine wpFreeD_one rfl (.pointer (some ⟨b0, 0, none⟩)) (fun w1 _ => by kernel_rfl) ?_
  simp only [Act.put, List.setIfInBounds_toArray, List.set_cons_succ, List.set_cons_zero]
  refine wpFreeD_load1 rfl rfl rfl (p := ⟨b0, 0, none⟩) (v := .string ⟨#[113, 117, 105, 116]⟩) (fun w1 h1 => by rw [((FD.le h1).row m0).cell?]; rfl) ukindString ?_
  simp only [Act.put, List.setIfInBounds_toArray, List.set_cons_succ, List.set_cons_zero]
  refine wpFreeD_one rfl (.pointer (some ⟨w.heap.size, 1, none⟩)) (fun w1 _ => by kernel_rfl) ?_
  simp only [Act.put, List.setIfInBounds_toArray, List.set_cons_succ, List.set_cons_zero]
  refine wpFreeD_load1 rfl rfl rfl (p := ⟨w.heap.size, 1, none⟩) (v := .int .i64 (na : Nat)) (fun w1 h1 => by rw [((FD.le h1).row m1).cell?]; rfl) ukindInt64 ?_
  simp only [Act.put, List.setIfInBounds_toArray, List.set_cons_succ, List.set_cons_zero]
  refine wpFreeD_callB rfl rfl Tryd.func23 (by kernel_rfl) (by kernel_rfl) (args := #[.int .i64 (na : Nat)]) (by simp [Act.eval]) (fun v w1 w2 hw hv => hv) (fun w1 hw1 _ => (HD.out na (by omega) w1 (FD.le hw1).below).mono ?_) ?_
  · rintro e w2 ⟨rfl, hl⟩
    exact ⟨_, rfl, hl, rfl⟩
  rintro v ⟨_, _, _, hv⟩
  replace hv : v = .string (decT na) := hv
  subst hv
  simp only [Act.put, List.setIfInBounds_toArray, List.set_cons_succ, List.set_cons_zero]
  refine wpFreeD_one rfl (.pointer (some ⟨w.heap.size, 2, none⟩)) (fun w1 _ => by kernel_rfl) ?_
  simp only [Act.put, List.setIfInBounds_toArray, List.set_cons_succ, List.set_cons_zero]
  refine wpFreeD_load1 rfl rfl rfl (p := ⟨w.heap.size, 2, none⟩) (v := .int .i64 (nb : Nat)) (fun w1 h1 => by rw [((FD.le h1).row m1).cell?]; rfl) ukindInt64 ?_
  simp only [Act.put, List.setIfInBounds_toArray, List.set_cons_succ, List.set_cons_zero]
  refine wpFreeD_callB rfl rfl Tryd.func23 (by kernel_rfl) (by kernel_rfl) (args := #[.int .i64 (nb : Nat)]) (by simp [Act.eval]) (fun v w1 w2 hw hv => hv) (fun w1 hw1 _ => (HD.out nb (by omega) w1 (FD.le hw1).below).mono ?_) ?_
  · rintro e w2 ⟨rfl, hl⟩
    exact ⟨_, rfl, hl, rfl⟩
  rintro v ⟨_, _, _, hv⟩
  replace hv : v = .string (decT nb) := hv
  subst hv
  simp only [Act.put, List.setIfInBounds_toArray, List.set_cons_succ, List.set_cons_zero]
  refine wpFreeD_newN rfl (fun z => .slice (some ⟨z, 0, none⟩) 3 3) (fun b b' h => by simpa using h) 9 #[.string ⟨#[113, 117, 105, 116]⟩, .string (decT na), .string (decT nb)] (fun w1 => ?_) (fun z => ?_)
  · have hb := mkStrD ⟨#[113, 117, 105, 116]⟩ (decT na) (decT nb) w1
    simp [execOp, Act.eval, Result.andThen, hb]
  simp only [Act.put, List.setIfInBounds_toArray, List.set_cons_succ, List.set_cons_zero]
  refine wpFreeD_one rfl (.slice (some ⟨z, 0, none⟩) 3 3) (fun w1 _ => by kernel_rfl) ?_
  simp only [Act.put, List.setIfInBounds_toArray, List.set_cons_succ, List.set_cons_zero]
  refine wpFreeD_nil (fun wR hwR hF => ?_)
  obtain ⟨_, hq4⟩ := (hF 8).1.2 rfl
  clear hF
  replace F := FD.le hwR
  clear hwR FD
  have HJ := hid (run_Join z 0 3 [wordD 9, decT na] spB 2 rfl wR (fun j u hj => by
    rw [Nat.zero_add, hq4.cell?]
    match j, hj with
    | 0, hj => simp at hj; subst hj; rfl
    | 1, hj => simp at hj; subst hj; rfl
    | j + 2, hj => simp at hj) hq4.lt (by simp) (by decide) (Nat.le_trans (jnB_size spB 30 _ (fun x hx => by
      have zw : (wordD 9).size ≤ 30 := by decide
      simp only [List.mem_cons, List.not_mem_nil, or_false] at hx
      rcases hx with rfl | rfl <;> omega)) (by rw [show spB.size = 1 from rfl]; simp)))
  clear hq4
  go_wp2_with (first | ((with_reducible refine listN F ?_); clear F; intro wN F) | ((with_reducible refine at_load rfl ?_); (with_reducible refine wpList_load1C rfl (g := b0) (f := 1) rfl (v := .int .i64 1) (by kernel_rfl) (F.row m0) rfl kindND ?_)) | (go_at_call 24; (refine HJ.out.mono ?_; rintro e w1 ⟨rfl, hl1⟩; replace F := F.le hl1; clear hl1)))
  go_ret
  exact ⟨by rw [E.out]; rfl, F.below⟩
end Go.Proofs.YtogledmlbcmkjaaDoor

/- The walk of 'FnExactDeedText'. -/
namespace Go.Proofs.YtogledmlbcmkjaaDoor.fnExactDeedText
open Go.RowKit Go.Fk
set_option maxRecDepth 100000 in
set_option maxHeartbeats 4000000 in
theorem walk (cs0 : List CD) (vs0 : List Value) (w : World) (k0 : HasShL shDeed cs0) (z0 : RdL w w.heap.size cs0 vs0) (hT : Tab10 w) :
    Calls Tryd.prog 3 #[.agg vs0.toArray] w fun e w' => e = .returned (.bool true) ∧ Below w.heap.size w w' := by
  obtain ⟨k, a, b, rfl⟩ := deed_vals z0 k0
  clear k0 z0
  have HT := hid (toDeed_lit k a b)
  have HS := hid (s_DeedText k a b)
  have HI := hid (fun (w' : World) (h : le w w') => i_DeedText k a b w' (hT.le h))
  have F := (Frg.nil w).box 23 #[.int .i64 k, .int .i64 a, .int .i64 b]
  clear hT
  go_enter Tryd.func3, Tryd.ntmps3
  go_wp2_with (first | ((with_reducible refine listN F ?_); clear F; intro wN F) | ((with_reducible refine at_load rfl ?_); (refine wpList_loadG F rfl rfl rfl m0 Tryd.underlying23 rfl uinfoDeedL rfl ?_)) | (go_at_call 7; ((with_reducible refine (HT.out _).mono ?_); rintro e w1 ⟨rfl, hl1⟩; replace F := F.le hl1; clear hl1)) | (go_at_call 6; ((with_reducible refine (HS.out _).mono ?_); rintro e w1 ⟨rfl, hl1⟩; replace F := F.le hl1; clear hl1)) | (go_at_call 8; ((with_reducible refine (HI.out _ F.below).mono ?_); rintro e w1 ⟨rfl, hl1⟩; replace F := F.le hl1; clear hl1)))
  go_ret
  exact ⟨rfl, F.below⟩
end Go.Proofs.YtogledmlbcmkjaaDoor.fnExactDeedText
