/-
  The walk of RegKnown.
-/
import Derived.Test.YtebcljdekhmkhaaDoorNamed
namespace Go.Proofs.YtebcljdekhmkhaaDoor
open Go.RowKit

theorem two_cells (w1 : World) (u v : Value) (t : TypeId) : (w1.alloc (.cells #[u, v] t)).cell? ⟨w1.heap.size, 0, none⟩ = some u ∧ (w1.alloc (.cells #[u, v] t)).cell? ⟨w1.heap.size, 1, none⟩ = some v ∧ w1.heap.size < (w1.alloc (.cells #[u, v] t)).heap.size := ⟨by simp, by simp, by simp⟩
theorem keep2 {W W' : World} {g : Nat} {u v : Value} (h : W.cell? ⟨g, 0, none⟩ = some u ∧ W.cell? ⟨g, 1, none⟩ = some v ∧ g < W.heap.size) (hb : Below W.heap.size W W') : W'.cell? ⟨g, 0, none⟩ = some u ∧ W'.cell? ⟨g, 1, none⟩ = some v ∧ g < W'.heap.size :=
  ⟨by rw [hb.cell (p := ⟨g, 0, none⟩) h.2.2]; exact h.1, by rw [hb.cell (p := ⟨g, 1, none⟩) h.2.2]; exact h.2.1, Nat.lt_of_lt_of_le h.2.2 hb.size⟩
set_option maxHeartbeats 2000000 in
set_option maxRecDepth 100000 in
theorem known_law (w : World) (ht : Tab w) : Calls Tryd.prog 4 #[] w fun e w' => e = .returned (.bool true) ∧ Below w.heap.size w w' := by
  have HT := hid ht
  clear ht
  go_enter Tryd.func4, Tryd.ntmps4
  go_wp2_with fail
  refine (parse_of (s := ⟨#[82, 57, 68]⟩) (c := 4) (n := 9) (by decide +kernel) (by decide) _ HT.out).mono ?_
  rintro e w1 ⟨rfl, hb1⟩
  have B1 := hid (hb1.alloc hb1.size (.cells #[.int .i64 4, .int .i64 9] 23))
  have C1 := hid (two_cells w1 (.int .i64 4) (.int .i64 9) 23)
  clear hb1
  go_wp2_with fail
  refine (parse_not (s := ⟨#[114, 49, 54]⟩) (by decide +kernel) (by decide) _ (HT.out.below B1.out)).mono ?_
  rintro e w2 ⟨rfl, hb2⟩
  have B2 := hid ((B1.out.trans (hb2.mono B1.out.size)).alloc (Nat.le_trans B1.out.size hb2.size) (.cells #[.int .i64 0, .int .i64 0] 23))
  have C2 := hid (keep2 C1.out (hb2.alloc hb2.size (.cells #[.int .i64 0, .int .i64 0] 23)))
  clear hb2 C1
  go_wp2_with fail
  refine (parse_not (s := ⟨#[120, 109, 109, 48, 49]⟩) (by decide +kernel) (by decide) _ (HT.out.below B2.out)).mono ?_
  rintro e w3 ⟨rfl, hb3⟩
  have B3 := hid ((B2.out.trans (hb3.mono B2.out.size)).alloc (Nat.le_trans B2.out.size hb3.size) (.cells #[.int .i64 0, .int .i64 0] 23))
  have C3 := hid (keep2 C2.out (hb3.alloc hb3.size (.cells #[.int .i64 0, .int .i64 0] 23)))
  clear hb3 C2
  go_wp2_with fail
  refine (of_any 5 13 _).mono ?_
  rintro e w4 ⟨rfl, hb4⟩
  have B4 := hid ((B3.out.trans (hb4.mono B3.out.size)).alloc (Nat.le_trans B3.out.size hb4.size) (.cells #[.int .i64 5, .int .i64 13] 23))
  have C4 := hid (keep2 C3.out (hb4.alloc hb4.size (.cells #[.int .i64 5, .int .i64 13] 23)))
  have D4 := hid (two_cells w4 (.int .i64 5) (.int .i64 13) 23)
  clear hb4 C3
  go_wp2_with fail
  generalize w4.alloc (.cells #[.int .i64 5, .int .i64 13] 23) = W at *
  generalize w1.heap.size = g at *
  generalize w4.heap.size = k at *
  have HTW := hid (HT.out.below B4.out)
  obtain ⟨h0, h1, hz⟩ := C4.out
  have hS : Below W.heap.size W W ∧ W.cell? ⟨g, 0, none⟩ = some (.int .i64 4) ∧ W.cell? ⟨g, 1, none⟩ = some (.int .i64 9) := ⟨Below.refl _ _, h0, h1⟩
  clear h0 h1
  go_region_held3 (fun w' => Below W.heap.size W w' ∧ w'.cell? ⟨g, 0, none⟩ = some (.int .i64 4) ∧ w'.cell? ⟨g, 1, none⟩ = some (.int .i64 9)) (first | assumption | exact boxed_drew ‹_› | (refine boxed ?_ (by assumption) hz; assumption))
    (first | (go_at_call 23; refine (of_any _ _ _).mono ?_; rintro e w2 ⟨rfl, hbel⟩) | (go_at_call 9; refine (name_str (s := ⟨#[]⟩) (by decide +kernel) _ ?_).mono ?_; (refine HTW.out.below ?_; apply And.left; assumption); rintro e w2 ⟨rfl, hbel⟩) | (go_at_call 24; refine (named_of (c := 8) (n := 0) (s := ⟨#[114, 105, 112]⟩) (by decide +kernel) (by decide +kernel) (by decide) _ ?_).mono ?_; (refine HTW.out.below ?_; apply And.left; assumption); rintro e w2 ⟨rfl, hbel⟩))
  have hk := (‹Below W.heap.size W w2 ∧ _ ∧ _›).1
  have B5 := hid (B4.out.trans (hk.mono B4.out.size))
  have D5 := hid (keep2 D4.out hk)
  clear hk D4 hS
  go_wp2_with fail
  refine (awake_any _ (HT.out.below B5.out)).mono ?_
  rintro e w6 ⟨rfl, hb6⟩
  have B6 := hid (B5.out.trans (hb6.mono B5.out.size))
  obtain ⟨c6, d6, hz6⟩ := keep2 D5.out hb6
  have D6 := hid (show _ ∧ _ ∧ _ from ⟨c6, d6, hz6⟩)
  clear hb6 D5
  go_wp2_with fail
  refine (low_reg 5 13 _).mono ?_
  rw [show lowF 5 13 = 5 by decide +kernel]
  rintro e w7 ⟨rfl, hb7⟩
  have B7 := hid (B6.out.trans (hb7.mono B6.out.size))
  obtain ⟨c7, d7, hz7⟩ := keep2 D6.out hb7
  clear hb7 c6 d6 hz6 D6
  go_wp2_with fail
  refine (high_reg 5 13 _).mono ?_
  rw [show highF 5 13 = 1 by decide +kernel]
  rintro e w8 ⟨rfl, hb8⟩
  have B8 := hid (B7.out.trans (hb8.mono B7.out.size))
  clear hb8 c7 d7 hz7
  go_wp2_with fail
  refine (of_any 1 6 _).mono ?_
  rintro e w9 ⟨rfl, hb9⟩
  have B9 := hid (B8.out.trans (hb9.mono B8.out.size))
  clear hb9
  go_wp2_with fail
  refine (needs_reg 1 6 _).mono ?_
  rw [show needsF 1 6 = true by decide +kernel]
  rintro e w10 ⟨rfl, hb10⟩
  have B10 := hid (B9.out.trans (hb10.mono B9.out.size))
  clear hb10
  go_wp2_with fail
  refine (of_any 1 9 _).mono ?_
  rintro e w11 ⟨rfl, hb11⟩
  have B11 := hid (B10.out.trans (hb11.mono B10.out.size))
  clear hb11
  go_wp2_with fail
  refine (needs_reg 1 9 _).mono ?_
  rw [show needsF 1 9 = false by decide +kernel]
  rintro e w12 ⟨rfl, hb12⟩
  have B12 := hid (B11.out.trans (hb12.mono B11.out.size))
  clear hb12
  go_wp2_with fail
  refine (of_any 2 4 _).mono ?_
  rintro e w13 ⟨rfl, hb13⟩
  have B13 := hid (B12.out.trans (hb13.mono B12.out.size))
  clear hb13
  go_wp2_with fail
  refine (bars_reg 2 4 _).mono ?_
  rw [show barsF 2 4 = true by decide +kernel]
  rintro e w14 ⟨rfl, hb14⟩
  have B14 := hid (B13.out.trans (hb14.mono B13.out.size))
  clear hb14
  go_wp2_with fail
  go_ret
  exact ⟨rfl, B14.out⟩
end Go.Proofs.YtebcljdekhmkhaaDoor
