/-
  The walk of NameBack: what its leaves share.
-/
import Derived.Test.YtinbgkflbphknaaDoorOpFacts
namespace Go.Proofs.YtinbgkflbphknaaDoor
open Go.RowKit

theorem ends_of' {s : ByteArray} {c h : Nat} {b : Bool} (he : endsF s (NB c) = b) {W : World} (hr : Row h (NB c) W) (hl : (NB c).length ≤ 3) (hs : s.size ≤ 100) :
    Calls Tryd.prog 19 #[.string s, .slice (some ⟨h, 0, none⟩) (NB c).length (NB c).length] W fun e w' => e = .returned (.bool b) ∧ Below W.heap.size W w' := by
  have := ends_any h (NB c) s W hr hl hs
  rw [he] at this
  exact this
end Go.Proofs.YtinbgkflbphknaaDoor
