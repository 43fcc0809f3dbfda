/-
  What a Canon boxes, and its result's cells, told as two whole blocks.
-/
import Derived.Test.YtmlmdbholakioaaCanon
import Derived.Deep.DeepCutAuto
namespace Go.Proofs.Ytmlmdbholakioaa
open Go.RowKit

theorem Below.at {B : Nat} {w w' : World} (h : Below B w w') {k : Nat} (hk : k < B) {o : Option Obj} (e : w.heap[k]? = o) : w'.heap[k]? = o := (h.block k hk).trans e
theorem alloc_new (w : World) (o : Obj) : (w.alloc o).heap[w.heap.size]? = some o := by
  show (w.heap.push o)[w.heap.size]? = some o
  simp
/-- What was boxed first, and behind it the result's own seven cells: both the call's own. -/
def Two (w : World) (p q : Pl) (wx : World) : Prop :=
  Below w.heap.size w wx ∧ wx.heap[w.heap.size]? = some (.cells #[.int .i64 p.bc, .int .i64 p.bn, .int .i64 p.ic, .int .i64 p.ix, .int .i64 p.s, .int .i64 p.d, .int .i64 p.z] 40 (0, 0)) ∧
    wx.heap[w.heap.size + 1]? = some (.cells #[.int .i64 q.bc, .int .i64 q.bn, .int .i64 q.ic, .int .i64 q.ix, .int .i64 q.s, .int .i64 q.d, .int .i64 q.z] 40 (0, 0))
theorem Two.start (w : World) (p q : Pl) : Two w p q ((w.alloc (.cells #[.int .i64 p.bc, .int .i64 p.bn, .int .i64 p.ic, .int .i64 p.ix, .int .i64 p.s, .int .i64 p.d, .int .i64 p.z] 40)).alloc (.cells #[.int .i64 q.bc, .int .i64 q.bn, .int .i64 q.ic, .int .i64 q.ix, .int .i64 q.s, .int .i64 q.d, .int .i64 q.z] 40)) :=
  ⟨((Below.refl _ _).alloc (Nat.le_refl _) _).alloc (by simp) _, Below.at ((Below.refl _ _).alloc (Nat.le_refl _) _) (by simp) (alloc_new w _), (show (w.alloc (.cells #[.int .i64 p.bc, .int .i64 p.bn, .int .i64 p.ic, .int .i64 p.ix, .int .i64 p.s, .int .i64 p.d, .int .i64 p.z] 40)).heap.size = w.heap.size + 1 by simp) ▸ alloc_new _ _⟩
theorem Two.lt {w wx : World} {p q : Pl} (h : Two w p q wx) : w.heap.size + 1 < wx.heap.size := by
  rcases Nat.lt_or_ge (w.heap.size + 1) wx.heap.size with hlt | hge
  · exact hlt
  · have := h.2.2; rw [Array.getElem?_eq_none hge] at this; cases this
theorem Two.below {w wx wy : World} {p q : Pl} (h : Two w p q wx) (hb : Below wx.heap.size wx wy) : Two w p q wy :=
  have := h.lt
  ⟨h.1.trans (hb.mono h.1.size), Below.at hb (by omega) h.2.1, Below.at hb (by omega) h.2.2⟩
theorem Two.alloc {w wx : World} {p q : Pl} (h : Two w p q wx) (o : Obj) : Two w p q (wx.alloc o) := h.below ((Below.refl _ _).alloc (Nat.le_refl _) _)
theorem Two.set {w wx : World} {p p' q : Pl} (h : Two w p q wx) (i : Nat) (v : Value)
    (e : (#[.int .i64 p.bc, .int .i64 p.bn, .int .i64 p.ic, .int .i64 p.ix, .int .i64 p.s, .int .i64 p.d, .int .i64 p.z] : Array Value).setIfInBounds i v = #[.int .i64 p'.bc, .int .i64 p'.bn, .int .i64 p'.ic, .int .i64 p'.ix, .int .i64 p'.s, .int .i64 p'.d, .int .i64 p'.z]) :
    Two w p' q (wx.setCell ⟨w.heap.size, i, none⟩ v) :=
  ⟨h.1.setCell (Nat.le_refl _) v, by rw [heap_setCell_same _ _ _ _ _ _ h.2.1, e], by rw [heap_setCell_other _ _ _ _ (by simp)]; exact h.2.2⟩
theorem Two.cells {w wx : World} {p q : Pl} (h : Two w p q wx) :
    (wx.cell? ⟨w.heap.size, 0, none⟩ = some (.int .i64 p.bc) ∧ wx.cell? ⟨w.heap.size, 1, none⟩ = some (.int .i64 p.bn) ∧ wx.cell? ⟨w.heap.size, 2, none⟩ = some (.int .i64 p.ic) ∧ wx.cell? ⟨w.heap.size, 3, none⟩ = some (.int .i64 p.ix) ∧ wx.cell? ⟨w.heap.size, 4, none⟩ = some (.int .i64 p.s) ∧ wx.cell? ⟨w.heap.size, 5, none⟩ = some (.int .i64 p.d) ∧ wx.cell? ⟨w.heap.size, 6, none⟩ = some (.int .i64 p.z)) ∧
      (wx.cell? ⟨w.heap.size + 1, 0, none⟩ = some (.int .i64 q.bc) ∧ wx.cell? ⟨w.heap.size + 1, 1, none⟩ = some (.int .i64 q.bn) ∧ wx.cell? ⟨w.heap.size + 1, 2, none⟩ = some (.int .i64 q.ic) ∧ wx.cell? ⟨w.heap.size + 1, 3, none⟩ = some (.int .i64 q.ix) ∧ wx.cell? ⟨w.heap.size + 1, 4, none⟩ = some (.int .i64 q.s) ∧ wx.cell? ⟨w.heap.size + 1, 5, none⟩ = some (.int .i64 q.d) ∧ wx.cell? ⟨w.heap.size + 1, 6, none⟩ = some (.int .i64 q.z)) ∧
      (∀ i, wx.frozen? ⟨w.heap.size, i, none⟩ = false) ∧ (∀ i, wx.frozen? ⟨w.heap.size + 1, i, none⟩ = false) := by
  refine ⟨⟨?_, ?_, ?_, ?_, ?_, ?_, ?_⟩, ⟨?_, ?_, ?_, ?_, ?_, ?_, ?_⟩, fun i => frozen_of_row _ _ _ _ _ h.2.1, fun i => frozen_of_row _ _ _ _ _ h.2.2⟩
  all_goals first | exact cell_of_row _ _ _ _ _ _ h.2.1 | exact cell_of_row _ _ _ _ _ _ h.2.2
end Go.Proofs.Ytmlmdbholakioaa
