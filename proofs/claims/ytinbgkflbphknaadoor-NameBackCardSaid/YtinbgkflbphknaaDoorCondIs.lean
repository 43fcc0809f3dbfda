/-
  Whether a number is a condition's.
-/
import Derived.Test.YtinbgkflbphknaaDoorCell
import Derived.BigQuiet
namespace Go.Proofs.YtinbgkflbphknaaDoor
open Go.RowKit

def isF (n : Int) : Bool := decide (0 ≤ n) && decide (n < 16)
theorem range16 {n : Int} (h : isF n = true) : n = 0 ∨ n = 1 ∨ n = 2 ∨ n = 3 ∨ n = 4 ∨ n = 5 ∨ n = 6 ∨ n = 7 ∨ n = 8 ∨ n = 9 ∨ n = 10 ∨ n = 11 ∨ n = 12 ∨ n = 13 ∨ n = 14 ∨ n = 15 := by
  simp [isF] at h; omega
theorem isF_no {n : Int} (h : isF n = false) : n < 0 ∨ 15 < n := by
  simp [isF] at h; omega

theorem is_any (n : Int) (w : World) :
    Calls Tryd.prog 28 #[.int .i64 n] w fun e w' => e = .returned (.bool (isF n)) ∧ w = w' := by
  by_cases h1 : 0 ≤ n
  · go_enter Tryd.func28, Tryd.ntmps28
    go_wp2
    all_goals go_returns
    all_goals exact ⟨by simp_all [isF], rfl⟩
  · go_enter Tryd.func28, Tryd.ntmps28
    go_wp2
    all_goals go_returns
    all_goals exact ⟨by simp [isF]; omega, rfl⟩
theorem is_of {n : Int} {b : Bool} (h : isF n = b) (w : World) :
    Calls Tryd.prog 28 #[.int .i64 n] w fun e w' => e = .returned (.bool b) ∧ w = w' := by
  have := is_any n w
  rw [h] at this
  exact this
end Go.Proofs.YtinbgkflbphknaaDoor
