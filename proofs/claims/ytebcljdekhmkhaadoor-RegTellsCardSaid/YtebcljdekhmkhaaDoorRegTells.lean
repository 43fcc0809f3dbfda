/-
  The walk of RegTells.
-/
import Derived.Test.YtebcljdekhmkhaaDoorKnown3
import Derived.Test.YtebcljdekhmkhaaDoorRefName
namespace Go.Proofs.YtebcljdekhmkhaaDoor
open Go.RowKit

theorem rname_str {c n : Int} {s : ByteArray} (h : nameF c n = nums s) (w : World) :
    Calls Tryd.prog 10 #[.agg #[.int .i64 c, .int .i64 n]] w fun e w' => e = .returned (.string s) ∧ Below w.heap.size w w' :=
  (rname_any c n w).mono fun _ _ ⟨T, h1, h2, h3⟩ => ⟨by rw [h1, nums_inj (h2.trans h)], h3⟩
set_option maxHeartbeats 4000000 in
set_option maxRecDepth 100000 in
theorem tells_law (c n : Int) (w : World) (ht : Tab w) (_ : I64 c) (_ : I64 n) :
    Calls Tryd.prog 3 #[.agg #[.int .i64 c, .int .i64 n]] w fun e w' => e = .returned (.bool true) ∧ Below w.heap.size w w' := by
  have HT := hid ht
  clear ht
  have B0 := hid ((Below.refl w.heap.size w).alloc (Nat.le_refl _) (.cells #[.int .i64 c, .int .i64 n] 23))
  obtain ⟨h0, h1, hz⟩ := two_cells w (.int .i64 c) (.int .i64 n) 23
  go_enter Tryd.func3, Tryd.ntmps3
  go_wp2_with fail
  generalize w.alloc (.cells #[.int .i64 c, .int .i64 n] 23) = W at *
  obtain ⟨g, Hg⟩ : ∃ g : Nat, Hid (g = w.heap.size) := ⟨_, hid rfl⟩
  rw [← Hg.out] at h0 h1 hz ⊢
  have HTW := hid (HT.out.below B0.out)
  have hS : Below W.heap.size W W ∧ W.cell? ⟨g, 0, none⟩ = some (.int .i64 c) ∧ W.cell? ⟨g, 1, none⟩ = some (.int .i64 n) := ⟨Below.refl _ _, h0, h1⟩
  clear h0 h1
  go_region_held3 (fun w' => Below W.heap.size W w' ∧ w'.cell? ⟨g, 0, none⟩ = some (.int .i64 c) ∧ w'.cell? ⟨g, 1, none⟩ = some (.int .i64 n)) (first | assumption | exact boxed_drew ‹_› | (refine boxed ?_ (by assumption) hz; assumption)) (first | (go_at_call 7; refine (valid_any _ _ _).mono ?_; rintro e w2 ⟨rfl, hbel⟩) | (go_at_call 8; refine (rvalid_any _ _ _).mono ?_; rintro e w2 ⟨rfl, hbel⟩) | (go_at_call 9; refine (name_any _ _ _ (HTW.out.below (And.left ‹Below W.heap.size W _ ∧ _ ∧ _›))).mono ?_; rintro e w2 ⟨T1, rfl, hT1, hbel⟩; have HT1 := hid hT1; clear hT1) | (go_at_call 10; refine (rname_str HT1.out.symm _).mono ?_; rintro e w2 ⟨rfl, hbel⟩) | (go_at_call 11; refine (size_reg _ _ _).mono ?_; rintro e w2 ⟨rfl, hbel⟩) | (go_at_call 12; refine (rsize_reg _ _ _).mono ?_; rintro e w2 ⟨rfl, hbel⟩) | (go_at_call 13; refine (low_reg _ _ _).mono ?_; rintro e w2 ⟨rfl, hbel⟩) | (go_at_call 14; refine (rlow_reg _ _ _).mono ?_; rintro e w2 ⟨rfl, hbel⟩) | (go_at_call 15; refine (high_reg _ _ _).mono ?_; rintro e w2 ⟨rfl, hbel⟩) | (go_at_call 16; refine (rhigh_reg _ _ _).mono ?_; rintro e w2 ⟨rfl, hbel⟩))
  go_wp2_with fail
  go_region_held3 (fun w' => Below W.heap.size W w' ∧ w'.cell? ⟨g, 0, none⟩ = some (.int .i64 c) ∧ w'.cell? ⟨g, 1, none⟩ = some (.int .i64 n)) (first | assumption | exact boxed_drew ‹_› | (refine boxed ?_ (by assumption) hz; assumption)) (first | (go_at_call 17; refine (needs_reg _ _ _).mono ?_; rintro e w3 ⟨rfl, hbel⟩) | (go_at_call 18; refine (rneeds_reg _ _ _).mono ?_; rintro e w3 ⟨rfl, hbel⟩) | (go_at_call 19; refine (bars_reg _ _ _).mono ?_; rintro e w3 ⟨rfl, hbel⟩) | (go_at_call 20; refine (rbars_reg _ _ _).mono ?_; rintro e w3 ⟨rfl, hbel⟩) | (go_at_call 21; refine (awake_any _ (HTW.out.below (And.left ‹Below W.heap.size W _ ∧ _ ∧ _›))).mono ?_; rintro e w3 ⟨rfl, hbel⟩))
  have hk := (‹Below W.heap.size W w3 ∧ _ ∧ _›).1
  go_wp2_with fail
  go_ret
  exact ⟨rfl, B0.out.trans (hk.mono B0.out.size)⟩
end Go.Proofs.YtebcljdekhmkhaaDoor
