/-
  Memory of a call's own, block by block, each known whole: what stays known behind a call, a new block, a store.
-/
import Derived.Test.YtllnjmpakkodnaaCell
import Derived.Laws.Rows
namespace Go.Proofs.Ytllnjmpakkodnaa
open Go.RowKit

/-- A block: its number, its cells, their type. -/
structure Blk where
  b : Nat
  cs : Array Value
  t : TypeId
/-- Beside the blocks of the call's own all is as it was in w; these are known whole, and no two are one. -/
def Own (w : World) (l : List Blk) (wx : World) : Prop :=
  Below w.heap.size w wx ∧ (∀ x ∈ l, w.heap.size ≤ x.b ∧ wx.heap[x.b]? = some (.cells x.cs x.t (0, 0))) ∧ l.Pairwise (fun x y => x.b ≠ y.b)
theorem Own.nil (w : World) : Own w [] w := ⟨Below.refl _ _, fun _ h => (by cases h), List.Pairwise.nil⟩
theorem Own.below {w wx : World} {l : List Blk} (h : Own w l wx) : Below w.heap.size w wx := h.1
theorem Own.lt {w wx : World} {l : List Blk} (h : Own w l wx) {x : Blk} (hx : x ∈ l) : x.b < wx.heap.size := by
  rcases Nat.lt_or_ge x.b wx.heap.size with hlt | hge
  · exact hlt
  · have := (h.2.1 x hx).2; rw [Array.getElem?_eq_none hge] at this; cases this
theorem Own.call {w wx wy : World} {l : List Blk} (h : Own w l wx) (hb : Below wx.heap.size wx wy) : Own w l wy :=
  ⟨h.1.trans (hb.mono h.1.size), fun x hx => ⟨(h.2.1 x hx).1, (hb.block x.b (h.lt hx)).trans (h.2.1 x hx).2⟩, h.2.2⟩
theorem Own.drew {w wx : World} {l : List Blk} (h : Own w l wx) : Own w l wx.drew := ⟨h.1.drew, h.2.1, h.2.2⟩
theorem Own.alloc {w wx : World} {l : List Blk} (h : Own w l wx) (b : Nat) (cs : Array Value) (t : TypeId) (hb : b = wx.heap.size) : Own w (⟨b, cs, t⟩ :: l) (wx.alloc (.cells cs t)) := by
  subst hb
  refine ⟨h.1.alloc h.1.size _, ?_, List.pairwise_cons.2 ⟨fun y hy => ?_, h.2.2⟩⟩
  · intro x hx
    rcases List.mem_cons.1 hx with rfl | hx
    · refine ⟨h.1.size, ?_⟩
      show (wx.heap.push _)[wx.heap.size]? = _
      simp
    · exact ⟨(h.2.1 x hx).1, (Below.heap_alloc _ _ _ (h.lt hx)).trans (h.2.1 x hx).2⟩
  · have := h.lt hy; simp only [ne_eq]; omega
theorem Own.tl {w wx : World} {x : Blk} {l : List Blk} (h : Own w (x :: l) wx) : Own w l wx :=
  ⟨h.1, fun y hy => h.2.1 y (List.mem_cons_of_mem _ hy), (List.pairwise_cons.1 h.2.2).2⟩
theorem Own.swap {w wx : World} {x y : Blk} {l : List Blk} (h : Own w (x :: y :: l) wx) : Own w (y :: x :: l) wx := by
  obtain ⟨h1, h2, h3⟩ := h
  simp only [List.pairwise_cons, List.mem_cons] at h3
  refine ⟨h1, fun z hz => h2 z ?_, ?_⟩
  · simp only [List.mem_cons] at hz ⊢
    rcases hz with hz | hz | hz
    · exact Or.inr (Or.inl hz)
    · exact Or.inl hz
    · exact Or.inr (Or.inr hz)
  simp only [List.pairwise_cons, List.mem_cons]
  refine ⟨fun z hz => ?_, fun z hz => h3.1 z (Or.inr hz), h3.2.2⟩
  rcases hz with rfl | hz
  · exact fun e => h3.1 y (Or.inl rfl) e.symm
  · exact h3.2.1 z hz
theorem Own.set {w wx : World} {b : Nat} {cs : Array Value} {t : TypeId} {l : List Blk} (h : Own w (⟨b, cs, t⟩ :: l) wx) (i : Nat) (v : Value) : Own w (⟨b, cs.setIfInBounds i v, t⟩ :: l) (wx.setCell ⟨b, i, none⟩ v) := by
  have h0 := h.2.1 _ List.mem_cons_self
  have hp := List.pairwise_cons.1 h.2.2
  refine ⟨h.1.setCell h0.1 v, ?_, List.pairwise_cons.2 ⟨hp.1, hp.2⟩⟩
  intro x hx
  rcases List.mem_cons.1 hx with rfl | hx
  · exact ⟨h0.1, heap_setCell_same _ _ _ _ _ _ h0.2⟩
  · exact ⟨(h.2.1 x (List.mem_cons_of_mem _ hx)).1, (heap_setCell_other _ _ _ _ (fun e => hp.1 x hx e.symm)).trans (h.2.1 x (List.mem_cons_of_mem _ hx)).2⟩
/-- What the walk reads: the first block's cells, that it may be written, where it lies. -/
theorem Own.c {w wx : World} {b : Nat} {cs : Array Value} {t : TypeId} {l : List Blk} (h : Own w (⟨b, cs, t⟩ :: l) wx) : ∀ j, wx.cell? ⟨b, j, none⟩ = cs[j]? := fun _ => cell_of_row _ _ _ _ _ _ (h.2.1 _ List.mem_cons_self).2
theorem Own.f {w wx : World} {b : Nat} {cs : Array Value} {t : TypeId} {l : List Blk} (h : Own w (⟨b, cs, t⟩ :: l) wx) : ∀ j, wx.frozen? ⟨b, j, none⟩ = false := fun _ => frozen_of_row _ _ _ _ _ (h.2.1 _ List.mem_cons_self).2
theorem Own.z {w wx : World} {b : Nat} {cs : Array Value} {t : TypeId} {l : List Blk} (h : Own w (⟨b, cs, t⟩ :: l) wx) : b < wx.heap.size := h.lt (x := ⟨b, cs, t⟩) List.mem_cons_self
theorem Own.ge {w wx : World} {b : Nat} {cs : Array Value} {t : TypeId} {l : List Blk} (h : Own w (⟨b, cs, t⟩ :: l) wx) : w.heap.size ≤ b := (h.2.1 ⟨b, cs, t⟩ List.mem_cons_self).1
theorem Own.a {w wx : World} {b : Nat} {cs : Array Value} {t : TypeId} {l : List Blk} (h : Own w (⟨b, cs, t⟩ :: l) wx) : ∀ o j, (wx.alloc o).cell? ⟨b, j, none⟩ = cs[j]? := fun o _ => (((Below.refl _ wx).alloc (Nat.le_refl _) o).cell (p := ⟨b, _, none⟩) h.z).trans (h.c _)
theorem Own.fa {w wx : World} {b : Nat} {cs : Array Value} {t : TypeId} {l : List Blk} (h : Own w (⟨b, cs, t⟩ :: l) wx) : ∀ o j, (wx.alloc o).frozen? ⟨b, j, none⟩ = false := fun o _ => (((Below.refl _ wx).alloc (Nat.le_refl _) o).frozen (p := ⟨b, _, none⟩) h.z).trans (h.f _)
theorem Own.ne {w wx : World} {x y : Blk} {l : List Blk} (h : Own w (x :: y :: l) wx) : x.b ≠ y.b := (List.pairwise_cons.1 h.2.2).1 y List.mem_cons_self
end Go.Proofs.Ytllnjmpakkodnaa
