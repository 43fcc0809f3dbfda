/-
  The document's list of the mnemonics' names, made anew for each call; its Name.
-/
import Derived.Test.YtinbgkflbphknaaDoorOpImm
import Derived.Test.YtinbgkflbphknaaDoorOpName
import Derived.Deep.DeepCutAuto
import Derived.Great.Walk
namespace Go.Proofs.YtinbgkflbphknaaDoor
open Go.RowKit

theorem nm_cells (xs : Array Value) (h : xs = (NM.map Value.string).toArray) (w : World) (t : TypeId) : Row w.heap.size NM (w.alloc (.cells xs t)) := by
  refine ⟨by simp, fun i b hi => ?_⟩
  rw [cell_new w xs t _ i rfl, h]
  simp [hi]
set_option maxRecDepth 100000 in
set_option maxHeartbeats 1000000 in
theorem rops_any (w : World) :
    Calls Tryd.prog 24 #[] w fun e w' => e = .returned (SL w.heap.size 322) ∧ Row w.heap.size NM w' ∧ Below w.heap.size w w' := by
  go_enter Tryd.func24, Tryd.ntmps24
  go_upto_region 1 with fail
  apply wp_region_lit
  refine Great.wpList_buildSliceTo rfl 31 9 322 _ rfl w.heap.size rfl (some 1) rfl (by kernel_rfl) (NM.map Value.string).toArray (by kernel_rfl) ?_
  obtain ⟨xs, hxs⟩ : ∃ xs, (NM.map Value.string).toArray = xs := ⟨_, rfl⟩
  rw [hxs]
  have HX := hid hxs
  clear hxs
  go_wp2
  go_returns
  exact ⟨rfl, nm_cells _ HX.out.symm _ _, (Below.refl _ w).alloc (Nat.le_refl _) _⟩
end Go.Proofs.YtinbgkflbphknaaDoor
