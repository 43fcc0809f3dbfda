/-
  Conditions, plainly: the opposite, what is swapped, whether one holds; and the small functions of the program and of the document that tell these.
-/
import Derived.Test.YtaofkklpbjpjlaaCell
import Derived.BigQuiet
namespace Go.Proofs.Ytaofkklpbjpjlaa
open Go.RowKit

/-- The value of flags: C, Z, S, O, P. -/
abbrev FL (c z s o p : Bool) : Value := .agg #[.bool c, .bool z, .bool s, .bool o, .bool p]
def isF (n : Int) : Bool := decide (0 ≤ n) && decide (n < 16)
def notF (n : Int) : Int := if isF n then (if n % 2 = 0 then n + 1 else n - 1) else -1
def swapF (n : Int) : Int := if isF n then (if n = 2 ∨ n = 3 ∨ n = 6 ∨ n = 7 then 9 - n else if 12 ≤ n then 27 - n else n) else -1
/-- Whether the even one of a pair holds. -/
def evenF (k : Int) (c z s o p : Bool) : Bool := if k = 0 then o else if k = 1 then c else if k = 2 then z else if k = 3 then c || z else if k = 4 then s else if k = 5 then p else if k = 6 then s != o else z || (s != o)
def holdsF (n : Int) (c z s o p : Bool) : Bool := isF n && (evenF (n / 2) c z s o p == decide (n % 2 = 0))
theorem range16 {n : Int} (h : isF n = true) : n = 0 ∨ n = 1 ∨ n = 2 ∨ n = 3 ∨ n = 4 ∨ n = 5 ∨ n = 6 ∨ n = 7 ∨ n = 8 ∨ n = 9 ∨ n = 10 ∨ n = 11 ∨ n = 12 ∨ n = 13 ∨ n = 14 ∨ n = 15 := by
  simp [isF] at h; omega
theorem isF_no {n : Int} (h : isF n = false) : n < 0 ∨ 15 < n := by
  simp [isF] at h; omega

theorem is_any (n : Int) (w : World) :
    Calls Try.prog 26 #[.int .i64 n] w fun e w' => e = .returned (.bool (isF n)) ∧ w = w' := by
  by_cases h1 : 0 ≤ n
  · go_enter Try.func26, Try.ntmps26
    go_wp2
    all_goals go_returns
    all_goals exact ⟨by simp_all [isF], rfl⟩
  · go_enter Try.func26, Try.ntmps26
    go_wp2
    all_goals go_returns
    all_goals exact ⟨by simp [isF]; omega, rfl⟩
theorem is_of {n : Int} {b : Bool} (h : isF n = b) (w : World) :
    Calls Try.prog 26 #[.int .i64 n] w fun e w' => e = .returned (.bool b) ∧ w = w' := by
  have := is_any n w
  rw [h] at this
  exact this
theorem not_any (n : Int) (w : World) :
    Calls Try.prog 15 #[.int .i64 n] w fun e w' => e = .returned (.int .i64 (notF n)) ∧ w = w' := by
  cases h : isF n
  · have H := hid h
    clear h
    go_enter Try.func15, Try.ntmps15
    go_wp2_with (go_at_call 26; refine (is_of H.out _).mono ?_; rintro e w1 ⟨rfl, rfl⟩)
    go_returns
    exact ⟨by simp [notF, H.out], rfl⟩
  · rcases range16 h with rfl | rfl | rfl | rfl | rfl | rfl | rfl | rfl | rfl | rfl | rfl | rfl | rfl | rfl | rfl | rfl
    all_goals
      clear h
      go_enter Try.func15, Try.ntmps15
      go_wp2_with (go_at_call 26; refine (is_of (b := true) (by decide) _).mono ?_; rintro e w1 ⟨rfl, rfl⟩)
      go_returns
      exact ⟨ret_i (by decide +kernel), rfl⟩
theorem swap_any (n : Int) (w : World) :
    Calls Try.prog 17 #[.int .i64 n] w fun e w' => e = .returned (.int .i64 (swapF n)) ∧ w = w' := by
  cases h : isF n
  · have H := hid h
    clear h
    go_enter Try.func17, Try.ntmps17
    go_wp2_with (go_at_call 26; refine (is_of H.out _).mono ?_; rintro e w1 ⟨rfl, rfl⟩)
    go_returns
    exact ⟨by simp [swapF, H.out], rfl⟩
  · rcases range16 h with rfl | rfl | rfl | rfl | rfl | rfl | rfl | rfl | rfl | rfl | rfl | rfl | rfl | rfl | rfl | rfl
    all_goals
      clear h
      go_enter Try.func17, Try.ntmps17
      go_wp2_with (go_at_call 26; refine (is_of (b := true) (by decide) _).mono ?_; rintro e w1 ⟨rfl, rfl⟩)
      go_returns
      exact ⟨ret_i (by decide +kernel), rfl⟩
set_option maxHeartbeats 1000000 in
theorem some_any (k : Int) (c z s o p : Bool) (w : World) (hk : 0 ≤ k ∧ k < 8) :
    Calls Try.prog 27 #[.int .i64 k, FL c z s o p] w fun e w' => e = .returned (.bool (evenF k c z s o p)) ∧ Below w.heap.size w w' := by
  have : k = 0 ∨ k = 1 ∨ k = 2 ∨ k = 3 ∨ k = 4 ∨ k = 5 ∨ k = 6 ∨ k = 7 := by omega
  clear hk
  rcases this with rfl | rfl | rfl | rfl | rfl | rfl | rfl | rfl
  all_goals
    go_enter Try.func27, Try.ntmps27
    go_wp2
    all_goals go_returns
    all_goals exact ⟨by simp_all [evenF]; try (cases s <;> cases o <;> rfl), by go_grown⟩
theorem half16 {n : Int} (h : isF n = true) : 0 ≤ n / 2 ∧ n / 2 < 8 := by simp [isF] at h; omega
set_option maxHeartbeats 1000000 in
theorem holds_any (n : Int) (c z s o p : Bool) (w : World) :
    Calls Try.prog 19 #[.int .i64 n, FL c z s o p] w fun e w' => e = .returned (.bool (holdsF n c z s o p)) ∧ Below w.heap.size w w' := by
  cases h : isF n
  · have H := hid h
    clear h
    go_enter Try.func19, Try.ntmps19
    go_wp2_with (go_at_call 26; refine (is_of H.out _).mono ?_; rintro e w1 ⟨rfl, rfl⟩)
    go_returns
    exact ⟨by simp [holdsF, H.out], by go_grown⟩
  · rcases range16 h with rfl | rfl | rfl | rfl | rfl | rfl | rfl | rfl | rfl | rfl | rfl | rfl | rfl | rfl | rfl | rfl
    all_goals
      clear h
      go_enter Try.func19, Try.ntmps19
      go_wp2_with (first | (go_at_call 26; refine (is_of (b := true) (by decide) _).mono ?_; rintro e w1 ⟨rfl, rfl⟩) | (go_at_call 27; refine (some_any _ c z s o p _ (by decide)).mono ?_; rintro e w1 ⟨rfl, hb1⟩))
      go_returns
      exact ⟨by simp [holdsF, evenF, isF], ((Below.refl _ _).alloc (Nat.le_refl _) _).trans (hb1.mono (by simp))⟩
end Go.Proofs.Ytaofkklpbjpjlaa
