/-
  Registers, plainly: which there are, their sizes and parts; and the small functions of the program and of the document that tell these.
-/
import Derived.Test.YtebcljdekhmkhaaDoorCell
import Derived.BigQuiet
namespace Go.Proofs.YtebcljdekhmkhaaDoor
open Go.RowKit

/-- A class's first number, and how many it has. -/
def spanF (c : Int) : Int × Int := if c = 1 ∨ c = 3 ∨ c = 4 ∨ c = 5 ∨ c = 6 ∨ c = 7 then (0, 16) else if c = 2 then (4, 4) else if c = 8 then (0, 1) else (0, 0)
def validF (c n : Int) : Bool := decide ((spanF c).1 ≤ n) && decide (n < (spanF c).1 + (spanF c).2)
def sizeF (c n : Int) : Int := if validF c n then (if c = 3 then 2 else if c = 4 then 4 else if c = 5 then 8 else if c = 6 then 16 else if c = 7 then 32 else if c = 8 then 8 else 1) else 0
def lowF (c n : Int) : Int := if validF c n then n % 8 else 0
def highF (c n : Int) : Int := if validF c n then n / 8 else 0
def needsF (c n : Int) : Bool := decide (c = 1) && decide (4 ≤ n) && decide (n ≤ 7)
def barsF (c n : Int) : Bool := decide (c = 2) && validF c n
theorem spanF_range (c : Int) : 0 ≤ (spanF c).1 ∧ (spanF c).1 ≤ 4 ∧ 0 ≤ (spanF c).2 ∧ (spanF c).2 ≤ 16 := by unfold spanF; (repeat' split) <;> decide

theorem span_any (c : Int) (w : World) :
    Calls Tryd.prog 28 #[.int .i64 c] w fun e w' => e = .returned (.tuple #[.int .i64 (spanF c).1, .int .i64 (spanF c).2]) ∧ w = w' := by
  go_enter Tryd.func28, Tryd.ntmps28
  go_wp2
  all_goals go_returns
  all_goals refine ⟨?_, rfl⟩
  all_goals simp_all [spanF]
theorem span_of {c a b : Int} (h : spanF c = (a, b)) (w : World) :
    Calls Tryd.prog 28 #[.int .i64 c] w fun e w' => e = .returned (.tuple #[.int .i64 a, .int .i64 b]) ∧ w = w' := by
  have := span_any c w
  rw [h] at this
  exact this
theorem valid_any (c n : Int) (w : World) :
    Calls Tryd.prog 7 #[.agg #[.int .i64 c, .int .i64 n]] w fun e w' => e = .returned (.bool (validF c n)) ∧ Below w.heap.size w w' := by
  obtain ⟨a, b, hs⟩ : ∃ a b, spanF c = (a, b) := ⟨_, _, rfl⟩
  have hr := spanF_range c
  rw [hs] at hr
  simp only [] at hr
  have HV := hid (show validF c n = (decide (a ≤ n) && decide (n < a + b)) by unfold validF; rw [hs])
  have HS := hid hs
  clear hs
  by_cases h1 : a ≤ n
  · go_enter Tryd.func7, Tryd.ntmps7
    go_wp2_with (go_at_call 28; refine (span_of HS.out _).mono ?_; rintro e w' ⟨rfl, rfl⟩)
    all_goals go_returns
    all_goals exact ⟨by rw [HV.out]; simp_all, by go_grown⟩
  · go_enter Tryd.func7, Tryd.ntmps7
    go_wp2_with (go_at_call 28; refine (span_of HS.out _).mono ?_; rintro e w' ⟨rfl, rfl⟩)
    all_goals go_returns
    all_goals exact ⟨by rw [HV.out]; simp; omega, by go_grown⟩
theorem validF_n {c n : Int} (h : validF c n = true) : 0 ≤ n ∧ n ≤ 15 := by
  have : 0 ≤ (spanF c).1 ∧ (spanF c).1 + (spanF c).2 ≤ 16 := by unfold spanF; (repeat' split) <;> decide
  simp [validF] at h
  omega
theorem valid_of {c n : Int} {b : Bool} (h : validF c n = b) (w : World) :
    Calls Tryd.prog 7 #[.agg #[.int .i64 c, .int .i64 n]] w fun e w' => e = .returned (.bool b) ∧ Below w.heap.size w w' := by
  have := valid_any c n w
  rw [h] at this
  exact this
theorem low_reg (c n : Int) (w : World) :
    Calls Tryd.prog 13 #[.agg #[.int .i64 c, .int .i64 n]] w fun e w' => e = .returned (.int .i64 (lowF c n)) ∧ Below w.heap.size w w' := by
  cases hv : validF c n
  all_goals
    have HV := hid hv
    go_enter Tryd.func13, Tryd.ntmps13
    go_wp2_with (go_at_call 7; refine (valid_of HV.out _).mono ?_; rintro e w1 ⟨rfl, hb1⟩; obtain ⟨hc1, hf1⟩ := bcell hb1; have hz1 : w.heap.size < w1.heap.size := by have := hb1.size; simp at this; omega)
    go_returns
    refine ⟨?_, ((Below.refl _ _).alloc (Nat.le_refl _) _).trans (hb1.mono (by simp))⟩
    first | (simp [lowF, HV.out]; done) | (have := validF_n HV.out; simp [lowF, HV.out, Int.tmod_eq_emod_of_nonneg this.1])
theorem high_reg (c n : Int) (w : World) :
    Calls Tryd.prog 15 #[.agg #[.int .i64 c, .int .i64 n]] w fun e w' => e = .returned (.int .i64 (highF c n)) ∧ Below w.heap.size w w' := by
  cases hv : validF c n
  all_goals
    have HV := hid hv
    go_enter Tryd.func15, Tryd.ntmps15
    go_wp2_with (go_at_call 7; refine (valid_of HV.out _).mono ?_; rintro e w1 ⟨rfl, hb1⟩; obtain ⟨hc1, hf1⟩ := bcell hb1; have hz1 : w.heap.size < w1.heap.size := by have := hb1.size; simp at this; omega)
    go_returns
    refine ⟨?_, ((Below.refl _ _).alloc (Nat.le_refl _) _).trans (hb1.mono (by simp))⟩
    first | (simp [highF, HV.out]; done) | (have := validF_n HV.out; simp [highF, HV.out, Int.tdiv_eq_ediv_of_nonneg this.1]; exact IntWalk.wrap64_in _ ⟨by omega, by omega⟩)
theorem size_reg (c n : Int) (w : World) :
    Calls Tryd.prog 11 #[.agg #[.int .i64 c, .int .i64 n]] w fun e w' => e = .returned (.int .i64 (sizeF c n)) ∧ Below w.heap.size w w' := by
  cases hv : validF c n
  all_goals
    have HV := hid hv
    go_enter Tryd.func11, Tryd.ntmps11
    go_wp2_with (go_at_call 7; refine (valid_of HV.out _).mono ?_; rintro e w1 ⟨rfl, hb1⟩; obtain ⟨hc1, hf1⟩ := bcell hb1; have hz1 : w.heap.size < w1.heap.size := by have := hb1.size; simp at this; omega)
    all_goals
      go_returns
      refine ⟨?_, ((Below.refl _ _).alloc (Nat.le_refl _) _).trans (hb1.mono (by simp))⟩
      have hv2 := HV.out
      clear HV
      simp_all [sizeF]
theorem needs_reg (c n : Int) (w : World) :
    Calls Tryd.prog 17 #[.agg #[.int .i64 c, .int .i64 n]] w fun e w' => e = .returned (.bool (needsF c n)) ∧ Below w.heap.size w w' := by
  go_enter Tryd.func17, Tryd.ntmps17
  go_wp2
  all_goals
    go_returns
    exact ⟨by simp_all [needsF]; try omega, by go_grown⟩
theorem bars_reg (c n : Int) (w : World) :
    Calls Tryd.prog 19 #[.agg #[.int .i64 c, .int .i64 n]] w fun e w' => e = .returned (.bool (barsF c n)) ∧ Below w.heap.size w w' := by
  by_cases h2 : c = 2
  · subst h2
    go_enter Tryd.func19, Tryd.ntmps19
    go_wp2_with (go_at_call 7; refine (valid_any _ _ _).mono ?_; rintro e w1 ⟨rfl, hb1⟩; obtain ⟨hc1, hf1⟩ := bcell hb1; have hz1 : w.heap.size < w1.heap.size := by have := hb1.size; simp at this; omega)
    go_returns
    exact ⟨by simp [barsF], ((Below.refl _ _).alloc (Nat.le_refl _) _).trans (hb1.mono (by simp))⟩
  · go_enter Tryd.func19, Tryd.ntmps19
    go_wp2_with fail
    go_returns
    exact ⟨by simp [barsF, h2], by go_grown⟩
end Go.Proofs.YtebcljdekhmkhaaDoor
