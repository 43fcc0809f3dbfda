/-
  Small words on worlds behind a call, and on pieces of strings.
-/
import Derived.Test.YtllnjmpakkodnaaProg
import Derived.Test.YtllnjmpakkodnaaLit
import Derived.RegionTactic
import Derived.BigFrame
import Derived.Handy
import Derived.Deep.Draws
namespace Go.Proofs.Ytllnjmpakkodnaa
open Go.RowKit

theorem bcell {W w1 : World} (hb : Below W.heap.size W w1) : (∀ b o, b < W.heap.size → w1.cell? ⟨b, o, none⟩ = W.cell? ⟨b, o, none⟩) ∧ (∀ b o, b < W.heap.size → w1.frozen? ⟨b, o, none⟩ = W.frozen? ⟨b, o, none⟩) :=
  ⟨fun b o h => hb.cell (p := ⟨b, o, none⟩) h, fun b o h => hb.frozen (p := ⟨b, o, none⟩) h⟩
theorem size_extract (s : ByteArray) (a b : Nat) (h : b ≤ s.size) : (s.extract a b).size = b - a := by
  rw [← nums_length, nums_extract, List.length_drop, List.length_take, nums_length]; omega
theorem bdrewN {B : Nat} {a w : World} (h : Below B a w) (k : Nat) : Below B a (w.drewN k) := ⟨h.os, h.tape, h.output, h.size, h.block⟩
end Go.Proofs.Ytllnjmpakkodnaa
