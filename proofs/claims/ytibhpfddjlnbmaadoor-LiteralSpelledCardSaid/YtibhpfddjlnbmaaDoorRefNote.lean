/-
  The document's base of a word.
-/
import Derived.Test.YtibhpfddjlnbmaaDoorScan
namespace Go.Proofs.YtibhpfddjlnbmaaDoor
open Go.RowKit

def bg (s : ByteArray) (c : Int) : Bool := decide (2 < s.size) && ch s 0 == 48 && (ch s 1 == c || ch s 1 == c - 32)
theorem begins_any (s : ByteArray) (c : Int) (w : World) (hs : s.size ≤ 9223372036854775807) (h0 : 32 ≤ c) (h1 : c < 256) :
    Calls Tryd.prog 37 #[.string s, .int .u8 c] w fun e w' => e = .returned (.bool (bg s c)) ∧ w = w' := by
  have hb := get_ch s
  by_cases h2 : 2 < s.size
  · cases e0 : ch s 0 == 48
    · have H2 := hid (show bg s c = false by simp [bg, e0])
      go_enter Tryd.func37, Tryd.ntmps37
      go_wp2_with fail
      go_ret
      exact ⟨ret_b H2.out.symm, rfl⟩
    · cases e1 : ch s 1 == c
      · cases e2 : ch s 1 == c - 32
        all_goals
          have H2 := hid (show bg s c = (ch s 1 == c - 32) by simp only [bg, e0, e1, h2, decide_true, Bool.true_and, Bool.false_or])
          have E2 := hid e2
          go_enter Tryd.func37, Tryd.ntmps37
          go_wp2_with fail
          go_ret
          exact ⟨ret_b (by rw [H2.out, E2.out]), rfl⟩
      · have H2 := hid (show bg s c = true by simp only [bg, e0, e1, h2, decide_true, Bool.true_and, Bool.true_or])
        go_enter Tryd.func37, Tryd.ntmps37
        go_wp2_with fail
        go_ret
        exact ⟨ret_b H2.out.symm, rfl⟩
  · have H2 := hid (show bg s c = false by simp [bg, h2])
    go_enter Tryd.func37, Tryd.ntmps37
    go_wp2_with fail
    go_ret
    exact ⟨ret_b H2.out.symm, rfl⟩
theorem note_bg (s : ByteArray) : note (nums s) =
    if bg s 120 = true then (16, 2, s.size)
    else if (ch s (s.size - 1) == 104 || ch s (s.size - 1) == 72) = true then (16, 0, s.size - 1)
    else if bg s 98 = true then (2, 2, s.size)
    else if bg s 111 = true then (8, 2, s.size) else (10, 0, s.size) := by
  unfold note ch bg
  simp only [nums_length]
  rfl
theorem base_of {s : ByteArray} {b : Int} {f t : Nat} (hn : note (nums s) = (b, f, t)) (w : World) (hs : s.size ≤ 9223372036854775807) (h1 : 1 ≤ s.size) :
    Calls Tryd.prog 32 #[.string s] w fun e w' => e = .returned (.tuple #[.int .i64 b, .int .i64 f, .int .i64 t]) ∧ w = w' := by
  have hb := get_ch s
  have HN := hid ((note_bg s).symm.trans hn)
  clear hn
  cases e1 : ch s (s.size - 1) == 104
  all_goals
    cases e2 : ch s (s.size - 1) == 72
    all_goals
      cases b1 : bg s 120
      all_goals
        cases b2 : bg s 98
        all_goals
          cases b3 : bg s 111
          all_goals
            have H := HN.out
            rw [b1, b2, b3, e1, e2] at H
            simp only [Bool.or_false, Bool.or_true, if_true, if_false, Bool.false_eq_true, Prod.mk.injEq] at H
            obtain ⟨rfl, rfl, rfl⟩ := H
            go_enter Tryd.func32, Tryd.ntmps32
            go_wp2_with (go_at_call 37; refine (begins_any _ _ _ hs (by omega) (by omega)).mono ?_; rintro e w' ⟨rfl, rfl⟩)
            go_returns
            first | exact ⟨rfl, rfl⟩ | exact ⟨by simp; omega, rfl⟩
end Go.Proofs.YtibhpfddjlnbmaaDoor
