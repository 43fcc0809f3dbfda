/-
  The walk of LiteralKnown.
-/
import Derived.Test.YtibhpfddjlnbmaaDoorIs
namespace Go.Proofs.YtibhpfddjlnbmaaDoor
open Go.RowKit

theorem hex_255 : hexT 255 = nums ⟨#[48, 120, 102, 102]⟩ := by unfold hexT told; rw [digs_big (by omega) (by decide), digs_small (by decide)]; decide
theorem hex_0 : hexT 0 = nums ⟨#[48, 120, 48]⟩ := by unfold hexT told; rw [digs_small (by decide)]; decide
set_option maxHeartbeats 4000000 in
set_option maxRecDepth 100000 in
theorem known_law (w : World) (ht : Tabs w) : Calls Tryd.prog 8 #[] w fun e w' => e = .returned (.bool true) ∧ Below w.heap.size w w' := by
  have HT := hid ht
  clear ht
  have c0 : ∀ w, Calls Tryd.prog 9 #[.string ⟨#[97, 53]⟩, .int .i64 1] w fun e w' => e = .returned (.tuple #[.int .i64 5, .int .i64 2, .agg #[.int .i64 0, .int .i64 0]]) ∧ Below w.heap.size w w' := fun w => by
    have := scan_any ⟨#[97, 53]⟩ 1 w (by decide)
    rw [show scan (nums ⟨#[97, 53]⟩) 1 = (5, 2, 0, 0) by decide +kernel] at this
    exact this
  have C0 := hid c0
  clear c0
  go_enter Tryd.func8, Tryd.ntmps8
  go_wp2_with fail
  refine (C0.out _).mono ?_
  rintro e w1 ⟨rfl, hb1⟩
  have B1 := hid (hb1.alloc hb1.size (.cells #[.int .i64 0, .int .i64 0] 24))
  clear hb1
  go_wp2_with fail
  refine (is_of (s := ⟨#[48, 98, 49, 48, 49]⟩) (want := 5) (by decide +kernel) (by decide) _).mono ?_
  rintro e w2 ⟨rfl, hb2⟩
  have B2 := hid (B1.out.trans (hb2.mono B1.out.size))
  clear hb2
  go_wp2_with fail
  refine (is_of (s := ⟨#[48, 111, 49, 55]⟩) (want := 15) (by decide +kernel) (by decide) _).mono ?_
  rintro e w3 ⟨rfl, hb3⟩
  have B3 := hid (B2.out.trans (hb3.mono B2.out.size))
  clear hb3
  go_wp2_with fail
  refine (fails_of (s := ⟨#[43, 53]⟩) (er := 6) (a := 0) (by decide +kernel) (by decide) _).mono ?_
  rintro e w4 ⟨rfl, hb4⟩
  have B4 := hid (B3.out.trans (hb4.mono B3.out.size))
  clear hb4
  go_wp2_with fail
  refine (fails_of (s := ⟨#[49, 95, 95, 48]⟩) (er := 4) (a := 2) (by decide +kernel) (by decide) _).mono ?_
  rintro e w5 ⟨rfl, hb5⟩
  have B5 := hid (B4.out.trans (hb5.mono B4.out.size))
  clear hb5
  go_wp2_with fail
  refine (fails_of (s := ⟨#[48, 120]⟩) (er := 4) (a := 1) (by decide +kernel) (by decide) _).mono ?_
  rintro e w6 ⟨rfl, hb6⟩
  have B6 := hid (B5.out.trans (hb6.mono B5.out.size))
  clear hb6
  go_wp2_with fail
  refine (fails_of (s := ⟨#[48, 98, 50]⟩) (er := 4) (a := 2) (by decide +kernel) (by decide) _).mono ?_
  rintro e w7 ⟨rfl, hb7⟩
  have B7 := hid (B6.out.trans (hb7.mono B6.out.size))
  clear hb7
  go_wp2_with fail
  refine (fails_of (s := ⟨#[49, 50, 97]⟩) (er := 4) (a := 2) (by decide +kernel) (by decide) _).mono ?_
  rintro e w8 ⟨rfl, hb8⟩
  have B8 := hid (B7.out.trans (hb8.mono B7.out.size))
  clear hb8
  go_wp2_with fail
  refine (fails_of (s := ⟨#[104]⟩) (er := 6) (a := 0) (by decide +kernel) (by decide) _).mono ?_
  rintro e w9 ⟨rfl, hb9⟩
  have B9 := hid (B8.out.trans (hb9.mono B8.out.size))
  clear hb9
  go_wp2_with fail
  refine (is_of (s := ⟨#[49, 56, 52, 52, 54, 55, 52, 52, 48, 55, 51, 55, 48, 57, 53, 53, 49, 54, 49, 53]⟩) (want := -1) (by decide +kernel) (by decide) _).mono ?_
  rintro e w10 ⟨rfl, hb10⟩
  have B10 := hid (B9.out.trans (hb10.mono B9.out.size))
  clear hb10
  go_wp2_with fail
  refine (fails_of (s := ⟨#[49, 56, 52, 52, 54, 55, 52, 52, 48, 55, 51, 55, 48, 57, 53, 53, 49, 54, 49, 54]⟩) (er := 5) (a := 0) (by decide +kernel) (by decide) _).mono ?_
  rintro e w11 ⟨rfl, hb11⟩
  have B11 := hid (B10.out.trans (hb11.mono B10.out.size))
  clear hb11
  go_wp2_with fail
  refine (fails_of (s := ⟨#[39, 39]⟩) (er := 4) (a := 1) (by decide +kernel) (by decide) _).mono ?_
  rintro e w12 ⟨rfl, hb12⟩
  have B12 := hid (B11.out.trans (hb12.mono B11.out.size))
  clear hb12
  go_wp2_with fail
  refine (awake_any _ (HT.out.below B12.out)).mono ?_
  rintro e w13 ⟨rfl, hb13⟩
  have B13 := hid (B12.out.trans (hb13.mono B12.out.size))
  clear hb13
  go_wp2_with fail
  refine (hex_any 255 ⟨by omega, by omega⟩ _ (HT.out.below B13.out)).mono ?_
  rintro e w14 ⟨T14, rfl, hT14, hb14⟩
  have e14 : (T14.toList == [48, 120, 102, 102]) = true := eq_of_nums (hT14.trans hex_255) rfl
  have B14 := hid (B13.out.trans (hb14.mono B13.out.size))
  clear hb14 hT14
  go_wp2_with fail
  refine (hex_any 0 ⟨by omega, by omega⟩ _ (HT.out.below B14.out)).mono ?_
  rintro e w15 ⟨T15, rfl, hT15, hb15⟩
  have e15 : (T15.toList == [48, 120, 48]) = true := eq_of_nums (hT15.trans hex_0) rfl
  have B15 := hid (B14.out.trans (hb15.mono B14.out.size))
  clear hb15 hT15
  go_wp2_with fail
  go_ret
  exact ⟨rfl, B15.out⟩
end Go.Proofs.YtibhpfddjlnbmaaDoor
