/-
  The walk of MemAddresses.
-/
import Derived.Test.YtdononofdnclfaaLentInts
import Derived.Test.YtdononofdnclfaaAddressRef
namespace Go.Proofs.Ytdononofdnclfaa
open Go.RowKit

/-- What stays while a statement runs: old memory, a list that was lent, and what it was made of. -/
def KS (w : World) (g : Nat) (A : Option Addr) (xs : List Int) (w' : World) : Prop := Below w.heap.size w w' ∧ IBlk w' g (lent xs) ∧ Ints w' w.heap.size A xs
theorem KS.drew {w : World} {g : Nat} {A : Option Addr} {xs : List Int} {w' : World} (h : KS w g A xs w') : KS w g A xs w'.drew := ⟨h.1.drew, h.2.1, h.2.2⟩
theorem KS.below {w : World} {g : Nat} {A : Option Addr} {xs : List Int} {w' w'' : World} (h : KS w g A xs w') (hb : Below w'.heap.size w' w'') (hg : g < w.heap.size) : KS w g A xs w'' :=
  have hs := h.1.size
  ⟨h.1.trans (hb.mono hs), h.2.1.below hb (by omega), h.2.2.below (hb.mono hs)⟩
set_option maxHeartbeats 2000000 in
theorem kept_true (g : Nat) (A : Option Addr) (c : Nat) (xs : List Int) (w : World) (hg : IBlk w g (lent xs)) (hx : Ints w w.heap.size A xs) (hl : xs.length ≤ 20) :
    Calls Try.prog 18 #[.slice (some ⟨g, 0, none⟩) xs.length (xs.length + 3), .slice A xs.length c] w fun e w' => e = .returned (.bool true) ∧ Below w.heap.size w w' := by
  have hgl := hg.lt
  have hS : KS w g A xs w := ⟨Below.refl _ _, hg, hx⟩
  have HL := hid hl
  clear hg hx
  have e1 : (xs.length : Int) ≤ 20 := by omega
  have e2 : (0 : Int) ≤ (xs.length : Int) + 3 := by omega
  have e3 : (xs.length : Int) + 3 ≤ ((xs.length + 3 : Nat) : Int) := by omega
  have e4 : IntKind.i64.wrap ((xs.length : Int) + 3) = (xs.length : Int) + 3 := IntWalk.i64_in _ (by omega)
  go_enter Try.func18, Try.ntmps18
  go_wp2
  go_region_held3 (fun w' => KS w g A xs w') (first | assumption | exact KS.drew ‹_› | (refine KS.below ?_ (by assumption) hgl; assumption))
    (first | (go_at_call 15; refine (lent_any A c xs _ ?_ HL.out).mono ?_; exact (‹KS w g A xs _›).2.2.mono (‹KS w g A xs _›).1.size; rintro e w1 ⟨rfl, hbel, hblk⟩) | (go_at_call 33; refine (same_true _ _ _ _ _ (lent xs) _ (lent_length xs) ?_ ?_ ?_).mono ?_; (have := HL.out; omega); exact (‹KS w g A xs _›).2.1.all (‹KS w g A xs _›).2.1.lt; exact hblk.all hblk.lt; rintro e w2 ⟨rfl, hbel2⟩))
  go_wp2
  go_ret
  exact ⟨rfl, (‹KS w g A xs _›).1⟩
end Go.Proofs.Ytdononofdnclfaa
