/- What a walk of a law knows of memory, in one hypothesis: nothing that was there has turned, and some blocks hold known rows. Nothing here names a program. -/
import Derived.Test.YtpfdegimnjbehacRow2
namespace Go.Fk
open Go Go.RowKit

/-- Nothing that 'w0' holds has turned; the blocks of the list hold these rows. -/
structure Frm (w0 w : World) (L : List (Nat × TypeId × Array Value)) : Prop where
  below : le w0 w
  rows : ∀ x ∈ L, Row w x.1 x.2.1 x.2.2

namespace Frm
variable {w0 w w' : World} {L : List (Nat × TypeId × Array Value)}
theorem nil (w : World) : Frm w w [] := ⟨le_refl w, by simp⟩
theorem le (h : Frm w0 w L) (k : Below w.heap.size w w') : Frm w0 w' L := ⟨le_trans h.below k, fun x hx => (h.rows x hx).le k⟩
theorem drewN (h : Frm w0 w L) (n : Nat) : Frm w0 (w.drewN n) L := h.le (le_drewN w n)
theorem alloc (h : Frm w0 w L) (o : Obj) : Frm w0 (w.alloc o) L := h.le (le_alloc w o)
theorem row (h : Frm w0 w L) {g : Nat} {t : TypeId} {cs : Array Value} (hm : (g, t, cs) ∈ L) : Row w g t cs := h.rows _ hm
theorem box (h : Frm w0 w L) (t : TypeId) (cs : Array Value) : Frm w0 (w.alloc (.cells cs t)) ((w.heap.size, t, cs) :: L) := by
  refine ⟨(h.alloc _).below, fun x hx => ?_⟩
  rcases List.mem_cons.1 hx with rfl | hx
  · exact Row.new w t cs
  · exact (h.alloc _).rows x hx
theorem push (h : Frm w0 w L) {g : Nat} {t : TypeId} {cs : Array Value} (hr : Row w' g t cs) (hl : Fk.le w w') : Frm w0 w' ((g, t, cs) :: L) := by
  refine ⟨le_trans h.below hl, fun x hx => ?_⟩
  rcases List.mem_cons.1 hx with rfl | hx
  · exact hr
  · exact (h.rows x hx).le hl
theorem sub {L' : List (Nat × TypeId × Array Value)} (h : Frm w0 w L) (hs : ∀ x ∈ L', x ∈ L) : Frm w0 w L' := ⟨h.below, fun x hx => h.rows x (hs x hx)⟩
theorem size (h : Frm w0 w L) : w0.heap.size ≤ w.heap.size := h.below.size
theorem lt (h : Frm w0 w L) {g : Nat} {t : TypeId} {cs : Array Value} (hm : (g, t, cs) ∈ L) : g < w.heap.size := (h.row hm).lt
end Frm

section
variable {P : Program} {w : World} {ops : Array Oper} {rest : List Oper} {o : Oper} {a : Act} {Q : Exit → Act → World → Prop}
/-- A whole block is loaded. -/
theorem wpList_loadFr {w0 : World} {L : List (Nat × TypeId × Array Value)} (hF : Frm w0 w L) (hg : o.guard = none) {ty : TypeId} {x : Operand} (hop : o.op = .load ty x) {g : Nat} (hx : a.eval x = .pointer (some ⟨g, 0, none⟩)) {t : TypeId} {cs : Array Value} {d : TypeDesc}
    (hm : (g, t, cs) ∈ L) (hu : P.underlying ty = some d) (hd : (match d with | .struct _ | .array _ _ => true | _ => false) = true) {n : Nat} (hi : (P.info? ty).map (·.size) = some n) (hn : cs.size = n)
    (h : wpList P ops Q rest (a.put o.dst (.agg cs)) w) : wpList P ops Q (o :: rest) a w :=
  wpList_loadD hg hop hx (hF.row hm) hu hd (hn ▸ hi) h
/-- A fresh block is written whole. -/
theorem wpList_storeFr {w0 w1 : World} {L : List (Nat × TypeId × Array Value)} {t : TypeId} {old : Array Value} (hF : Frm w0 w1 L) (hw : w = w1.alloc (.cells old t)) (hg : o.guard = none) {ty : TypeId} {x y : Operand} (hop : o.op = .store ty x y) (hx : a.eval x = .pointer (some ⟨w1.heap.size, 0, none⟩)) {cells : Array Value} (hy : a.eval y = .agg cells)
    (hi : (P.info? ty).map (·.size) = some cells.size) (ho : old.size = cells.size) (h1 : cells.all (·.oneCell') = true)
    (h : ∀ w', Frm w0 w' ((w1.heap.size, t, cells) :: L) → wpList P ops Q rest (a.put o.dst undef) w') : wpList P ops Q (o :: rest) a w :=
  wpList_storeN hw hg hop hx hy hi ho h1 (fun w' hr hl _ => h w' (hF.push hr hl))
end

section
variable {P : Program} {ops : Array Oper} {W : World} {K : FuncId → Array Value → World → Value → Prop} {Q : Act → World → Prop} {F : World → Prop} {o : Oper} {rest : List Oper} {a : Act}
/-- The same in a region that draws its order. -/
theorem wpFree_loadFr {w0 : World} {L : List (Nat × TypeId × Array Value)} {n : Nat} {w1 : World} (hF : Frm w0 w1 L) (hW : W = w1.drewN n) (hg : o.guard = none) {ty : TypeId} {x : Operand} (hop : o.op = .load ty x) {g : Nat} (hx : a.eval x = .pointer (some ⟨g, 0, none⟩)) {t : TypeId} {cs : Array Value} {d : TypeDesc}
    (hm : (g, t, cs) ∈ L) (hu : P.underlying ty = some d) (hd : (match d with | .struct _ | .array _ _ => true | _ => false) = true) {m : Nat} (hi : (P.info? ty).map (·.size) = some m) (hn : cs.size = m)
    (h : wpFree P ops W K Q rest (a.put o.dst (.agg cs)) F) : wpFree P ops W K Q (o :: rest) a F := by
  subst hW hn
  refine wpFree_one hg (.agg cs) (fun w hw => ?_) h
  have := run_loadVar_row (P := P) w g t ty cs (0, 0) _ (((hF.row hm).drewN n).le hw) hu hd hi
  simp [execOp, hop, hx, Instr.loadAt, Instr.sureAddr, this, Result.andThen]
end
end Go.Fk
