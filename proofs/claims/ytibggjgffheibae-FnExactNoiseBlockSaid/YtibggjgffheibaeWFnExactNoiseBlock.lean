/- The walk of 'FnExactNoiseBlock'. -/
import Derived.Test.YtibggjgffheibaeNoiseB
namespace Go.Proofs.Ytibggjgffheibae.fnExactNoiseBlock
open Go.RowKit Go.Fk
theorem u32_range {a : Int} (h : (Lit.int .u32 a).wf = true) : 0 ≤ a ∧ a < 4294967296 := by
  simp [Lit.wf, IntKind.min, IntKind.max, IntKind.signed, IntKind.bits] at h; omega
theorem walk (a0 : Int) (w : World) (w0 : (Lit.int .u32 a0).wf = true) :
    Calls Try.prog 5 #[.int .u32 a0] w fun e w' => e = .returned (.bool true) ∧ Below w.heap.size w w' := by
  obtain ⟨h0, h1⟩ := u32_range w0
  clear w0
  go_enter Try.func5, Try.ntmps5
  go_wp2_with fail
  refine (s_NoiseBlock _ _ h0 h1).mono ?_
  rintro e w1 ⟨g, rfl, hg, hb1⟩
  have Hg := hid hg; clear hg
  have hsg : (Try.prog.info? 36).map (·.size) = some (ftab .f32 g 16).size := by rw [size_ftab]; exact infoBlk
  go_upto_region 2 with (with_reducible refine wpList_storeA rfl rfl rfl rfl (Row.new w1 _ _) hsg (by simp [size_ftab]) (one_ftab _ _ _) ?_)
  generalize hW : (w1.alloc (Obj.cells #[Value.float .f32 0, Value.float .f32 0, Value.float .f32 0, Value.float .f32 0, Value.float .f32 0, Value.float .f32 0, Value.float .f32 0, Value.float .f32 0, Value.float .f32 0, Value.float .f32 0, Value.float .f32 0, Value.float .f32 0, Value.float .f32 0, Value.float .f32 0, Value.float .f32 0, Value.float .f32 0] 36)).setRow w1.heap.size (ftab .f32 g 16) = W
  have rg : Row W w1.heap.size 36 (ftab .f32 g 16) := by rw [← hW]; exact (Row.new w1 _ _).setRow _
  have hb2 : le w W := by rw [← hW]; exact below_setRow (le_trans hb1 (le_alloc _ _)) (Below.size hb1) _
  have hz := hb1.size
  clear hW hb1
  have Rg := hid rg; clear rg
  go_wp2_with fail
  refine (i_NoiseBlock _ _ h0 h1).mono ?_
  rintro e w2 ⟨h, rfl, hh, hb3⟩
  have Hh := hid hh; clear hh
  have hsh : (Try.prog.info? 36).map (·.size) = some (ftab .f32 h 16).size := by rw [size_ftab]; exact infoBlk
  go_upto_region 3 with (with_reducible refine wpList_storeA rfl rfl rfl rfl (Row.new w2 _ _) hsh (by simp [size_ftab]) (one_ftab _ _ _) ?_)
  have lt2 : w1.heap.size < w2.heap.size := Nat.lt_of_lt_of_le Rg.out.lt hb3.size
  generalize hW : (w2.alloc (Obj.cells #[Value.float .f32 0, Value.float .f32 0, Value.float .f32 0, Value.float .f32 0, Value.float .f32 0, Value.float .f32 0, Value.float .f32 0, Value.float .f32 0, Value.float .f32 0, Value.float .f32 0, Value.float .f32 0, Value.float .f32 0, Value.float .f32 0, Value.float .f32 0, Value.float .f32 0, Value.float .f32 0] 36)).setRow w2.heap.size (ftab .f32 h 16) = W3
  have rh : Row W3 w2.heap.size 36 (ftab .f32 h 16) := by rw [← hW]; exact (Row.new w2 _ _).setRow _
  have rg : Row W3 w1.heap.size 36 (ftab .f32 g 16) := by rw [← hW]; exact ((Rg.out.le hb3).alloc _).setRow_other (by omega) _
  have hb4 : le w W3 := by rw [← hW]; exact below_setRow (le_trans (le_trans hb2 hb3) (le_alloc _ _)) (Below.size (le_trans hb2 hb3)) _
  clear hW hb2 hb3 Rg
  go_wp2_with (first | (with_reducible refine wpList_loadA rfl rfl rfl rh Try.underlying36 hsh ?_) | (with_reducible refine wpList_loadA rfl rfl rfl rg Try.underlying36 hsg ?_) | (go_at_call 15; refine (eqBlock_yes _ _ _ (fun j hj => (Hh.out j hj).1.trans (Hg.out j hj).1.symm)).mono ?_; rintro e w5 ⟨rfl, hb5⟩))
  go_ret
  exact ⟨rfl, le_trans hb4 hb5⟩
end Go.Proofs.Ytibggjgffheibae.fnExactNoiseBlock
