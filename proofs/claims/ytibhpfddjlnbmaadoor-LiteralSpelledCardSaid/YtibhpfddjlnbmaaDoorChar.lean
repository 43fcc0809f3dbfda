/-
  The functions on single bytes: what a byte counts as, whether it is a word character.
-/
import Derived.Test.YtibhpfddjlnbmaaDoorProg
import Derived.Test.YtibhpfddjlnbmaaDoorLit
import Derived.RegionTactic
import Derived.BigFrame
namespace Go.Proofs.YtibhpfddjlnbmaaDoor
open Go.RowKit

theorem value_any (c : Int) (w : World) (h0 : 0 ≤ c) (h1 : c < 256) :
    Calls Tryd.prog 21 #[.int .u8 c] w fun e w' => e = .returned (.int .u64 (dval c)) ∧ w = w' := by
  go_enter Tryd.func21, Tryd.ntmps21
  go_wp2
  all_goals go_ret
  all_goals exact ⟨ret_i (by unfold dval; (repeat' split) <;> omega), rfl⟩
theorem inWord_any (c : Int) (w : World) (h0 : 0 ≤ c) (h1 : c < 256) :
    Calls Tryd.prog 34 #[.int .u8 c] w fun e w' => e = .returned (.bool (isW c)) ∧ w = w' := by
  go_enter Tryd.func34, Tryd.ntmps34
  go_wp2
  all_goals go_ret
  all_goals exact ⟨ret_b (by rw [Bool.eq_iff_iff]; simp [isW]; try omega), rfl⟩
/-- The document's digits. -/
def rdig (c : Int) : Int := if 48 ≤ c ∧ c ≤ 57 then c - 48 else if 97 ≤ c ∧ c ≤ 122 then c - 87 else if 65 ≤ c ∧ c ≤ 90 then c - 55 else 99
theorem rdigit_any (c : Int) (w : World) (h0 : 0 ≤ c) (h1 : c < 256) :
    Calls Tryd.prog 24 #[.int .u8 c] w fun e w' => e = .returned (.int .i64 (rdig c)) ∧ w = w' := by
  go_enter Tryd.func24, Tryd.ntmps24
  go_wp2
  all_goals go_ret
  all_goals exact ⟨ret_i (by unfold rdig; (repeat' split) <;> omega), rfl⟩
theorem rdig_ge {b : Int} (c : Int) (h : b ≤ 16) : b ≤ rdig c ↔ b ≤ dval c := by unfold rdig dval; (repeat' split) <;> omega
theorem rdig_eq {c : Int} (h : dval c < 16) : rdig c = dval c := by
  revert h; unfold rdig dval; (repeat' split) <;> omega
theorem isW_iff (c : Int) : isW c = true ↔ (48 ≤ c ∧ c ≤ 57) ∨ (97 ≤ c ∧ c ≤ 122) ∨ (65 ≤ c ∧ c ≤ 90) ∨ c = 95 := by simp [isW]; omega
theorem isW_rdig {c : Int} (h : c ≠ 95) : decide (rdig c < 99) = isW c := by
  rw [Bool.eq_iff_iff, isW_iff, decide_eq_true_iff]; unfold rdig; (repeat' split) <;> omega
theorem rword_any (c : Int) (w : World) (h0 : 0 ≤ c) (h1 : c < 256) :
    Calls Tryd.prog 25 #[.int .u8 c] w fun e w' => e = .returned (.bool (isW c)) ∧ w = w' := by
  by_cases h : c = 95
  · subst h
    go_enter Tryd.func25, Tryd.ntmps25
    go_wp2_with (go_at_call 24; refine (rdigit_any _ _ h0 h1).mono ?_; rintro e w' ⟨rfl, rfl⟩)
    go_ret
    exact ⟨rfl, rfl⟩
  · go_enter Tryd.func25, Tryd.ntmps25
    go_wp2_with (go_at_call 24; refine (rdigit_any _ _ h0 h1).mono ?_; rintro e w' ⟨rfl, rfl⟩)
    go_ret
    exact ⟨ret_b (by rw [isW_rdig h]; simp [h]), rfl⟩
end Go.Proofs.YtibhpfddjlnbmaaDoor
