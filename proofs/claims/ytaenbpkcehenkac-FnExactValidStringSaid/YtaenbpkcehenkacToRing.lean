/- 'toRing' of the laws. -/
import Derived.Test.YtaenbpkcehenkacMark
namespace Go.Fk
open Go Go.RowKit
theorem SlIn.le {w w' : World} {v : Value} {x : Nat → Nat} {n : Nat} (h : SlIn w v x n) (hl : Fk.le w w') : SlIn w' v x n := by
  rcases h with h | ⟨a, cap, h1, h2, h3, h4⟩
  · exact .inl h
  · exact .inr ⟨a, cap, h1, h2, h3, fun i hi => ⟨(Below.cell hl (cell_lt (h4 i hi).1)).trans (h4 i hi).1, (h4 i hi).2⟩⟩
theorem SlIn.small {w : World} {v : Value} {x : Nat → Nat} {n : Nat} (h : SlIn w v x n) : n ≤ 9223372036854775807 := by
  rcases h with ⟨_, rfl⟩ | ⟨a, cap, h1, h2, h3, h4⟩
  · omega
  · unfold maxLen at h3; omega
end Go.Fk
namespace Go.Proofs.Ytaenbpkcehenkac
open Go.RowKit Go.Fk
set_option maxRecDepth 100000 in
set_option maxHeartbeats 1000000 in
theorem toRing_any (s : Value) (x : Nat → Nat) (n : Nat) (k : Int) (w : World) (hs : SlIn w s x n) (hn : n ≤ 1048576) :
    Calls Try.prog 64 #[.agg #[s, .int .i64 k]] w fun e w' => ∃ b, e = .returned (.agg #[.slice (some ⟨b, 0, none⟩) n n, .int .i64 k]) ∧ w.heap.size ≤ b ∧ (∃ t, Row w' b t (ftab .f32 x n)) ∧ le w w' := by
  have F := (((Frm.nil w).box 37 #[s, .int .i64 k]).box 25 #[.slice none 0 0, .int .i64 0]).box 25 #[.slice none 0 0, .int .i64 0]
  simp only [World.size_alloc] at F
  have HS := hid (hs.le F.below)
  clear hs
  go_enter Try.func64, Try.ntmps64
  go_upto_region 2 with (fail)
  obtain ⟨W, hW⟩ : ∃ W, W = ((w.alloc (.cells #[s, .int .i64 k] 37)).alloc (.cells #[.slice none 0 0, .int .i64 0] 25)).alloc (.cells #[.slice none 0 0, .int .i64 0] 25) := ⟨_, rfl⟩
  rw [← hW] at F HS ⊢
  have hz : W.heap.size = w.heap.size + 1 + 1 + 1 := by rw [hW]; simp
  clear hW
  have R1 := F.row (g := w.heap.size) (t := 37) (cs := #[s, .int .i64 k]) (List.mem_cons_of_mem _ (List.mem_cons_of_mem _ List.mem_cons_self))
  have c1 := R1.cell? 0
  replace R1 := hid R1
  replace F := hid F
  have HZ := hid hz
  go_wp2_with (go_at_call 29; ((with_reducible refine (toS s x n W HS.out hn).mono ?_); rintro e w2 ⟨rfl, hr, hl⟩; rw [HZ.out] at hr; have G := F.out.le hl; have d1 : w2.cell? ⟨w.heap.size, 1, none⟩ = some (.int .i64 k) := (G.row (g := w.heap.size) (t := 37) (cs := #[s, .int .i64 k]) (List.mem_cons_of_mem _ (List.mem_cons_of_mem _ List.mem_cons_self))).cell? 1; have T3 := G.row (g := w.heap.size + 1 + 1) (t := 25) (cs := #[.slice none 0 0, .int .i64 0]) List.mem_cons_self; have T2 := G.row (g := w.heap.size + 1) (t := 25) (cs := #[.slice none 0 0, .int .i64 0]) (List.mem_cons_of_mem _ List.mem_cons_self); have d3 : w2.cell? ⟨w.heap.size + 1 + 1, 0, none⟩ = some (.slice none 0 0) := T3.cell? 0; have d4 : w2.cell? ⟨w.heap.size + 1 + 1, 1, none⟩ = some (.int .i64 0) := T3.cell? 1; have e0 : w2.cell? ⟨w.heap.size + 1, 0, none⟩ = some (.slice none 0 0) := T2.cell? 0; have e1 : w2.cell? ⟨w.heap.size + 1, 1, none⟩ = some (.int .i64 0) := T2.cell? 1; have g0 := T2.frozen 0; have g1 := T2.frozen 1; have f3 := T3.frozen 0; have f4 := T3.frozen 1; replace T3 := hid T3; replace T2 := hid T2; have HB := hid G.below; have HR := hid hr; have HW := hid hl.size; clear hr hl G))
  have Z : ∀ (W : World) (v v' : Value), Row W (w.heap.size + 1) 25 #[v, v'] → ∀ u u', Row ((W.setCell ⟨w.heap.size + 1, 0, none⟩ u).setCell ⟨w.heap.size + 1, 1, none⟩ u') (w.heap.size + 1) 25 #[u, u'] := fun W v v' h u u' => (h.set 0 u).set 1 u'
  have N2 := T2.out.other ⟨w.heap.size + 1 + 1, 0, none⟩ (.slice (some ⟨w.heap.size + 1 + 1 + 1, 0, none⟩) n n) (by simp)
  replace N2 := N2.other ⟨w.heap.size + 1 + 1, 1, none⟩ (.int .i64 k) (by simp)
  have N := HR.out.other ⟨w.heap.size + 1 + 1, 0, none⟩ (.slice (some ⟨w.heap.size + 1 + 1 + 1, 0, none⟩) n n) (by simp)
  replace N := N.other ⟨w.heap.size + 1 + 1, 1, none⟩ (.int .i64 k) (by simp)
  replace N := N.other ⟨w.heap.size + 1, 0, none⟩ (.slice (some ⟨w.heap.size + 1 + 1 + 1, 0, none⟩) n n) (by simp; omega)
  replace N := N.other ⟨w.heap.size + 1, 1, none⟩ (.int .i64 k) (by simp; omega)
  have B := Below.setCell (Below.setCell (Below.setCell (Below.setCell HB.out (p := ⟨w.heap.size + 1 + 1, 0, none⟩) (by simp; omega) (.slice (some ⟨w.heap.size + 1 + 1 + 1, 0, none⟩) n n)) (p := ⟨w.heap.size + 1 + 1, 1, none⟩) (by simp; omega) (.int .i64 k)) (p := ⟨w.heap.size + 1, 0, none⟩) (by simp) (.slice (some ⟨w.heap.size + 1 + 1 + 1, 0, none⟩) n n)) (p := ⟨w.heap.size + 1, 1, none⟩) (by simp) (.int .i64 k)
  exact bodyPost_ret (results_row1 rfl _ _ _ _ _ rfl (Z _ _ _ N2 _ _) Try.underlying25 rfl infoRing) rfl ⟨_, rfl, by omega, ⟨_, N⟩, B⟩
end Go.Proofs.Ytaenbpkcehenkac
