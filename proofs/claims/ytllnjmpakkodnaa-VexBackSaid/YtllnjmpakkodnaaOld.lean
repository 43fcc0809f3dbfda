/-
  What stood stands: a world behind calls that make memory and write none that was there.
-/
import Derived.Test.YtllnjmpakkodnaaOwn
import Derived.Deep.RegionHeld3
namespace Go.Proofs.Ytllnjmpakkodnaa
open Go.RowKit

/-- Whatever stood in W stands. -/
def Old (W w' : World) : Prop := Below W.heap.size W w' ∧ ∀ b o, b < W.heap.size → w'.cell? ⟨b, o, none⟩ = W.cell? ⟨b, o, none⟩
theorem Old.of {W w' : World} (h : Below W.heap.size W w') : Below W.heap.size W w' ∧ ∀ b o, b < W.heap.size → w'.cell? ⟨b, o, none⟩ = W.cell? ⟨b, o, none⟩ := ⟨h, (bcell h).1⟩
theorem old_drew {W w' : World} (h : Below W.heap.size W w' ∧ ∀ b o, b < W.heap.size → w'.cell? ⟨b, o, none⟩ = W.cell? ⟨b, o, none⟩) : Below W.heap.size W w'.drew ∧ ∀ b o, b < W.heap.size → w'.drew.cell? ⟨b, o, none⟩ = W.cell? ⟨b, o, none⟩ := Old.of h.1.drew
theorem old_kept {W w' w'' : World} (h : Below W.heap.size W w' ∧ ∀ b o, b < W.heap.size → w'.cell? ⟨b, o, none⟩ = W.cell? ⟨b, o, none⟩) (hb : Below w'.heap.size w' w'') : Below W.heap.size W w'' ∧ ∀ b o, b < W.heap.size → w''.cell? ⟨b, o, none⟩ = W.cell? ⟨b, o, none⟩ := Old.of (h.1.trans (hb.mono h.1.size))
theorem Old.refl (W : World) : Old W W := Old.of (Below.refl W.heap.size W)
theorem Old.kept {W w' w'' : World} (h : Old W w') (hb : Below w'.heap.size w' w'') : Old W w'' := Old.of (h.1.trans (hb.mono h.1.size))
theorem Old.cells {W w' : World} (h : Old W w') : ∀ b o, b < W.heap.size → w'.cell? ⟨b, o, none⟩ = W.cell? ⟨b, o, none⟩ := h.2
theorem Old.below {W w' : World} (h : Old W w') : Below W.heap.size W w' := h.1
theorem old_alloc {W w' : World} (h : Below W.heap.size W w' ∧ ∀ b o, b < W.heap.size → w'.cell? ⟨b, o, none⟩ = W.cell? ⟨b, o, none⟩) (o : Obj) : Below W.heap.size W (w'.alloc o) ∧ ∀ b i, b < W.heap.size → (w'.alloc o).cell? ⟨b, i, none⟩ = W.cell? ⟨b, i, none⟩ := Old.of (h.1.alloc h.1.size o)
theorem old_set {W w' : World} (h : Below W.heap.size W w' ∧ ∀ b o, b < W.heap.size → w'.cell? ⟨b, o, none⟩ = W.cell? ⟨b, o, none⟩) (p : Addr) (v : Value) (hp : W.heap.size ≤ p.block) : Below W.heap.size W (w'.setCell p v) ∧ ∀ b o, b < W.heap.size → (w'.setCell p v).cell? ⟨b, o, none⟩ = W.cell? ⟨b, o, none⟩ := Old.of (h.1.setCell hp v)
end Go.Proofs.Ytllnjmpakkodnaa
