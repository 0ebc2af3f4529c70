/- 'TwoPole'. -/
import Derived.Test.YtpfdegimnjbehabPole
import Derived.Test.YtpfdegimnjbehabSine
import Derived.Test.YtpfdegimnjbehabFrm
namespace Go.Fk
open Go Go.RowKit
def twoB (p q : Nat) : Nat := can .f32 (neg .f32 (fop .mul .f32 (fop .mul .f32 1073741824 q) (sineW (fop .add .f32 p 1048576000))))
theorem sineW_can' {a b : Nat} (h : can .f32 a = can .f32 b) : sineW a = sineW b := by
  cases hn : isNan .f32 a
  · rw [eq_of_can h hn]
  · have hm := (isNan_of_can h).symm.trans hn
    have f1 : fin a = false := by
      obtain ⟨s, t, h1⟩ := read_nan hn
      simp [fin, h1]
    have f2 : fin b = false := by
      obtain ⟨s, t, h1⟩ := read_nan hm
      simp [fin, h1]
    simp [sineW, f1, f2]
theorem can_sineW (x : Nat) : can .f32 (sineW x) = sineW x := by
  unfold sineW; split
  · exact can_can _ _
  · exact can_qnan _
theorem twoB_of {p q r1 c r2 r3 : Nat} (h1 : can .f32 r1 = fop .add .f32 p 1048576000) (hc : can .f32 c = sineW r1) (h2 : can .f32 r2 = fop .mul .f32 1073741824 q) (h3 : can .f32 r3 = fop .mul .f32 r2 c) : can .f32 (neg .f32 r3) = twoB p q := by
  have e1 : sineW r1 = sineW (fop .add .f32 p 1048576000) := sineW_can' (h1.trans (can_fop _ _ _ _).symm)
  refine neg_congr ?_
  rw [h3, can_fop]
  exact fop_congr (h2.trans (can_fop _ _ _ _).symm) (hc.trans (e1.trans (can_sineW _).symm))
end Go.Fk
namespace Go.Proofs.Ytpfdegimnjbehab
open Go.RowKit Go.Fk
set_option maxHeartbeats 1000000 in
theorem i_TwoPole (p q : Nat) (w : World) : Calls Try.prog 42 #[.float .f32 p, .float .f32 q] w (OutL 4 (fop .sub .f32 1065353216 q) (twoB p q) (fop .mul .f32 q q) 0 0 w.heap.size w) := by
  have F := (Frm.nil w).box 50 (#[.int .i64 0, .float .f32 0, .float .f32 0, .float .f32 0, .float .f32 0, .float .f32 0] : Array Value)
  go_enter Try.func42, Try.ntmps42
  go_wp2_with (first | (with_reducible refine wpList_farith rfl rfl rfl rfl rfl ?_; intro r n hr hf) | (go_at_call 63; ((with_reducible refine (i_Sine _ _).mono ?_); rintro e w2 ⟨c, rfl, hc, hb⟩; replace hc := hid hc; replace F := (F.drewN _).le hb; clear hb)) | ((with_reducible refine stop_store rfl ?_)))
  rename_i ra na ha fa K aK rb nb hb2 fb rc nc hc2 fc rd nd hd fd
  show wpList _ _ _ _ _ _
  refine wpList_storeD rfl rfl rfl (cells := (#[.int .i64 4, .float .f32 rb, .float .f32 (neg .f32 rd), .float .f32 r, .float .f32 0, .float .f32 0] : Array Value)) rfl ((F.drewN _).row List.mem_cons_self) infoFil rfl (by simp [Value.oneCell']) (fun w4 KW => ?_)
  have R := hid KW.row
  have L := hid (KW.below _ _ (F.drewN _).below (Nat.le_refl _))
  clear KW F
  go_wp2
  exact bodyPost_ret (results_row1 rfl _ _ _ _ _ rfl R.out Try.underlying50 rfl infoFil) rfl ⟨_, _, _, _, _, rfl, ⟨hb2.out, twoB_of ha.out hc.out hc2.out hd.out, hr.out, can_zero, can_zero⟩, L.out⟩
set_option maxHeartbeats 1000000 in
theorem s_TwoPole (p q : Nat) (w : World) : Calls Try.prog 41 #[.float .f32 p, .float .f32 q] w (OutL 4 (fop .sub .f32 1065353216 q) (twoB p q) (fop .mul .f32 q q) 0 0 w.heap.size w) := by
  have F := (Frm.nil w).box 50 (#[.int .i64 0, .float .f32 0, .float .f32 0, .float .f32 0, .float .f32 0, .float .f32 0] : Array Value)
  go_enter Try.func41, Try.ntmps41
  go_wp2_with (first | (with_reducible refine wpList_farith rfl rfl rfl rfl rfl ?_; intro r n hr hf) | (go_at_call 62; ((with_reducible refine (s_Sine _ _).mono ?_); rintro e w2 ⟨c, nq, rfl, hc, rfl⟩; replace hc := hid hc)) | ((with_reducible refine stop_store rfl ?_)))
  rename_i ra na ha fa K aK rb nb hb2 fb rc nc hc2 fc rd nd hd fd
  show wpList _ _ _ _ _ _
  refine wpList_storeD rfl rfl rfl (cells := (#[.int .i64 4, .float .f32 rb, .float .f32 (neg .f32 rd), .float .f32 r, .float .f32 0, .float .f32 0] : Array Value)) rfl ((F.drewN _).row List.mem_cons_self) infoFil rfl (by simp [Value.oneCell']) (fun w4 KW => ?_)
  have R := hid KW.row
  have L := hid (KW.below _ _ (F.drewN _).below (Nat.le_refl _))
  clear KW F
  go_wp2
  exact bodyPost_ret (results_row1 rfl _ _ _ _ _ rfl R.out Try.underlying50 rfl infoFil) rfl ⟨_, _, _, _, _, rfl, ⟨hb2.out, twoB_of ha.out hc.out hc2.out hd.out, hr.out, can_zero, can_zero⟩, L.out⟩
end Go.Proofs.Ytpfdegimnjbehab
