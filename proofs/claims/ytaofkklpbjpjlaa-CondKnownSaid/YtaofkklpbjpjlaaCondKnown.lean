/-
  The walk of CondKnown.
-/
import Derived.Test.YtaofkklpbjpjlaaCondNamed
namespace Go.Proofs.Ytaofkklpbjpjlaa
open Go.RowKit

theorem names2 (w : World) : Calls Try.prog 11 #[.int .i64 2] w fun e w' => ∃ A, e = .returned (.slice A 3 3) ∧ Hid (Strs w.heap.size A (NB 2) w') ∧ Below w.heap.size w w' :=
  (cnames_any 2 w).mono fun _ _ ⟨A, h1, h2, _, h4⟩ => ⟨A, h1, h2, h4⟩
theorem same3 {B C : Nat} {A A' : Option Addr} {w : World} (hs : Strs B A (NB 2) w) (ht : Strs C A' (NB 2) w) :
    Calls Try.prog 12 #[.slice A 3 3, .slice A' 3 3] w fun e w' => e = .returned (.bool true) ∧ Below w.heap.size w w' :=
  same_texts B C A A' (NB 2) w hs ht (by decide)
set_option maxHeartbeats 400000 in
theorem known_law (w : World) : Calls Try.prog 7 #[] w fun e w' => e = .returned (.bool true) ∧ Below w.heap.size w w' := by
  go_enter Try.func7, Try.ntmps7
  go_wp2_with fail
  refine (parse_of (s := ⟨#[120]⟩) (v := .tuple #[.int .i64 0, .bool false]) (by rw [show parseF ⟨#[120]⟩ = none by decide +kernel]) _).mono ?_
  rintro e w1 ⟨rfl, hb1⟩
  have B1 := hid hb1
  clear hb1
  go_wp2_with fail
  refine (awake_any _).mono ?_
  rintro e w2 ⟨rfl, hb2⟩
  have B2 := hid (B1.out.trans (hb2.mono B1.out.size))
  clear hb2 B1
  go_wp2_with fail
  refine (names2 _).mono ?_
  rintro e w3 ⟨A, rfl, HS, hb3⟩
  have B3 := hid ((B2.out.trans (hb3.mono B2.out.size)).alloc (Nat.le_trans B2.out.size hb3.size) (.cells #[.string ⟨#[98]⟩, .string ⟨#[99]⟩, .string ⟨#[110, 97, 101]⟩] 9))
  clear hb3
  have HS2 := hid (HS.out.below ((Below.refl _ w3).alloc (Nat.le_refl _) (.cells #[.string ⟨#[98]⟩, .string ⟨#[99]⟩, .string ⟨#[110, 97, 101]⟩] 9)))
  have HT2 := hid (show Strs 0 (some ⟨w3.heap.size, 0, none⟩) (NB 2) (w3.alloc (.cells #[.string ⟨#[98]⟩, .string ⟨#[99]⟩, .string ⟨#[110, 97, 101]⟩] 9)) from .inr ⟨_, rfl, by omega, row3 (by simp) (by simp) (by simp)⟩)
  clear HS
  go_wp2_with fail
  refine (same3 HS2.out HT2.out).mono ?_
  rintro e w4 ⟨rfl, hb4⟩
  have B4 := hid (B3.out.trans (hb4.mono B3.out.size))
  clear hb4 HS2 HT2 B3
  go_wp2_with (first | (go_at_call 15; with_reducible refine (not_of (n := 5) (m := 4) (by decide +kernel) _).mono ?_; rintro e w5 ⟨rfl, rfl⟩) | (go_at_call 15; with_reducible refine (not_of (n := 16) (m := -1) (by decide +kernel) _).mono ?_; rintro e w5 ⟨rfl, rfl⟩) | (go_at_call 17; with_reducible refine (swap_of (n := 12) (m := 15) (by decide +kernel) _).mono ?_; rintro e w5 ⟨rfl, rfl⟩) | (go_at_call 17; with_reducible refine (swap_of (n := 4) (m := 4) (by decide +kernel) _).mono ?_; rintro e w5 ⟨rfl, rfl⟩))
  refine (holds_of (n := 12) (c := false) (z := false) (s := true) (o := false) (p := false) (b := true) (by decide +kernel) _).mono ?_
  rintro e w5 ⟨rfl, hb5⟩
  have B5 := hid (B4.out.trans (hb5.mono B4.out.size))
  clear hb5
  go_wp2_with fail
  refine (holds_of (n := 15) (c := false) (z := false) (s := false) (o := false) (p := false) (b := true) (by decide +kernel) _).mono ?_
  rintro e w6 ⟨rfl, hb6⟩
  have B6 := hid (B5.out.trans (hb6.mono B5.out.size))
  clear hb6
  go_wp2_with fail
  go_ret
  exact ⟨rfl, B6.out⟩
end Go.Proofs.Ytaofkklpbjpjlaa
