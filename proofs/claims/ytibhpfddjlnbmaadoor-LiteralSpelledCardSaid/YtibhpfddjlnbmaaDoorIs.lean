/-
  What the statements on literals share: is, fails, awake.
-/
import Derived.Test.YtibhpfddjlnbmaaDoorRefScan2
import Derived.Test.YtibhpfddjlnbmaaDoorTell
namespace Go.Proofs.YtibhpfddjlnbmaaDoor
open Go.RowKit

set_option maxHeartbeats 1000000 in
theorem is_of {s : ByteArray} {want : Int} (h : scan (nums s) 0 = (want, (s.size : Int), 0, 0)) (hs : s.size < 9223372036854775807) (w : World) :
    Calls Tryd.prog 16 #[.string s, .int .i64 want] w fun e w' => e = .returned (.bool true) ∧ Below w.heap.size w w' := by
  have c : ∀ w, Calls Tryd.prog 9 #[.string s, .int .i64 0] w fun e w' => e = .returned (.tuple #[.int .i64 want, .int .i64 s.size, .agg #[.int .i64 0, .int .i64 0]]) ∧ Below w.heap.size w w' := fun w => by
    have := scan_any s 0 w hs
    rw [h] at this
    exact this
  have C := hid c
  clear c h
  go_enter Tryd.func16, Tryd.ntmps16
  go_wp2_with (go_at_call 9; refine (C.out _).mono ?_; rintro e w1 ⟨rfl, hb1⟩)
  go_ret
  exact ⟨rfl, (hb1.alloc hb1.size _)⟩
set_option maxHeartbeats 1000000 in
theorem fails_of {s : ByteArray} {er a : Int} (h : scan (nums s) 0 = (0, 0, er, a)) (hs : s.size < 9223372036854775807) (w : World) :
    Calls Tryd.prog 18 #[.string s, .int .i64 er, .int .i64 a] w fun e w' => e = .returned (.bool true) ∧ Below w.heap.size w w' := by
  have c : ∀ w, Calls Tryd.prog 9 #[.string s, .int .i64 0] w fun e w' => e = .returned (.tuple #[.int .i64 0, .int .i64 0, .agg #[.int .i64 er, .int .i64 a]]) ∧ Below w.heap.size w w' := fun w => by
    have := scan_any s 0 w hs
    rw [h] at this
    exact this
  have C := hid c
  clear c h
  go_enter Tryd.func18, Tryd.ntmps18
  go_wp2_with (go_at_call 9; refine (C.out _).mono ?_; rintro e w1 ⟨rfl, hb1⟩)
  go_ret
  exact ⟨by simp, (hb1.alloc hb1.size _)⟩
theorem eq_of_nums {T S : ByteArray} {l : List UInt8} (h : nums T = nums S) (hl : S.data.toList = l) : (T.toList == l) = true := by rw [nums_inj h, ByteArray.toList_eq, hl]; simp
theorem hex_m1 : hexT (-1) = nums ⟨#[45, 48, 120, 49]⟩ := by unfold hexT told; rw [digs_small (by decide)]; decide
theorem dec_m12 : decT (-12) = nums ⟨#[45, 49, 50]⟩ := by unfold decT told; rw [digs_big (by omega) (by decide), digs_small (by decide)]; decide
set_option maxHeartbeats 2000000 in
theorem awake_any (w : World) (ht : Tabs w) : Calls Tryd.prog 11 #[] w fun e w' => e = .returned (.bool true) ∧ Below w.heap.size w w' := by
  have HT := hid ht
  clear ht
  have c1 := hid (fun w => is_of (s := ⟨#[48, 120, 49, 70]⟩) (want := 31) (by decide +kernel) (by decide) w)
  have c2 := hid (fun w => is_of (s := ⟨#[49, 95, 48, 48, 48]⟩) (want := 1000) (by decide +kernel) (by decide) w)
  have c3 := hid (fun w => is_of (s := ⟨#[48, 102, 102, 104]⟩) (want := 255) (by decide +kernel) (by decide) w)
  have c4 := hid (fun w => is_of (s := ⟨#[39, 97, 98, 39]⟩) (want := 25185) (by decide +kernel) (by decide) w)
  go_enter Tryd.func11, Tryd.ntmps11
  go_wp2_with fail
  refine (c1.out _).mono ?_
  rintro e w1 ⟨rfl, hb1⟩
  have B1 := hid hb1
  clear hb1
  go_wp2_with fail
  refine (c2.out _).mono ?_
  rintro e w2 ⟨rfl, hb2⟩
  have B2 := hid (B1.out.trans (hb2.mono B1.out.size))
  clear hb2
  go_wp2_with fail
  refine (c3.out _).mono ?_
  rintro e w3 ⟨rfl, hb3⟩
  have B3 := hid (B2.out.trans (hb3.mono B2.out.size))
  clear hb3
  go_wp2_with fail
  refine (c4.out _).mono ?_
  rintro e w4 ⟨rfl, hb4⟩
  have B4 := hid (B3.out.trans (hb4.mono B3.out.size))
  clear hb4
  go_wp2_with fail
  refine (hex_any (-1) ⟨by omega, by omega⟩ _ (HT.out.below B4.out)).mono ?_
  rintro e w5 ⟨T, rfl, hT, hb5⟩
  have e5 : (T.toList == [45, 48, 120, 49]) = true := eq_of_nums (hT.trans hex_m1) rfl
  have B5 := hid (B4.out.trans (hb5.mono B4.out.size))
  clear hb5 hT
  go_wp2_with fail
  refine (dec_any (-12) ⟨by omega, by omega⟩ _ (HT.out.below B5.out)).mono ?_
  rintro e w6 ⟨S, rfl, hS, hb6⟩
  have e6 : (S.toList == [45, 49, 50]) = true := eq_of_nums (hS.trans dec_m12) rfl
  have B6 := hid (B5.out.trans (hb6.mono B5.out.size))
  clear hb6 hS
  go_wp2_with fail
  go_ret
  exact ⟨rfl, B6.out⟩
end Go.Proofs.YtibhpfddjlnbmaaDoor
