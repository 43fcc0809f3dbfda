/-
  Places in memory, plainly: which may be, and what they are written as; and the small functions of the program and of the document that tell these.
-/
import Derived.Test.YtmlmdbholakioaaCell
import Derived.BigQuiet
import Derived.Maps.OwnSet
import Derived.Laws.StructEq
namespace Go.Proofs.Ytmlmdbholakioaa
open Go.RowKit Go.Maps

/-- A class's first number, and how many it has. -/
def spanF (c : Int) : Int × Int := if c = 1 ∨ c = 3 ∨ c = 4 ∨ c = 5 ∨ c = 6 ∨ c = 7 then (0, 16) else if c = 2 then (4, 4) else if c = 8 then (0, 1) else (0, 0)
def validF (c n : Int) : Bool := decide ((spanF c).1 ≤ n) && decide (n < (spanF c).1 + (spanF c).2)
theorem spanF_range (c : Int) : 0 ≤ (spanF c).1 ∧ (spanF c).1 ≤ 4 ∧ 0 ≤ (spanF c).2 ∧ (spanF c).2 ≤ 16 := by unfold spanF; (repeat' split) <;> decide
theorem span_any (c : Int) (w : World) :
    Calls Try.prog 68 #[.int .i64 c] w fun e w' => e = .returned (.tuple #[.int .i64 (spanF c).1, .int .i64 (spanF c).2]) ∧ w = w' := by
  go_enter Try.func68, Try.ntmps68
  go_wp2
  all_goals go_returns
  all_goals refine ⟨?_, rfl⟩
  all_goals simp_all [spanF]
theorem span_of {c a b : Int} (h : spanF c = (a, b)) (w : World) :
    Calls Try.prog 68 #[.int .i64 c] w fun e w' => e = .returned (.tuple #[.int .i64 a, .int .i64 b]) ∧ w = w' := by
  have := span_any c w
  rw [h] at this
  exact this
theorem valid_any (c n : Int) (w : World) :
    Calls Try.prog 55 #[.agg #[.int .i64 c, .int .i64 n]] w fun e w' => e = .returned (.bool (validF c n)) ∧ Below w.heap.size w w' := by
  obtain ⟨a, b, hs⟩ : ∃ a b, spanF c = (a, b) := ⟨_, _, rfl⟩
  have hr := spanF_range c
  rw [hs] at hr
  simp only [] at hr
  have HV := hid (show validF c n = (decide (a ≤ n) && decide (n < a + b)) by unfold validF; rw [hs])
  have HS := hid hs
  clear hs
  by_cases h1 : a ≤ n
  · go_enter Try.func55, Try.ntmps55
    go_wp2_with (go_at_call 68; refine (span_of HS.out _).mono ?_; rintro e w' ⟨rfl, rfl⟩)
    all_goals go_returns
    all_goals exact ⟨by rw [HV.out]; simp_all, by go_grown⟩
  · go_enter Try.func55, Try.ntmps55
    go_wp2_with (go_at_call 68; refine (span_of HS.out _).mono ?_; rintro e w' ⟨rfl, rfl⟩)
    all_goals go_returns
    all_goals exact ⟨by rw [HV.out]; simp; omega, by go_grown⟩
theorem rvalid_any (c n : Int) (w : World) :
    Calls Try.prog 57 #[.agg #[.int .i64 c, .int .i64 n]] w fun e w' => e = .returned (.bool (validF c n)) ∧ Below w.heap.size w w' := by
  go_enter Try.func57, Try.ntmps57
  go_wp2
  all_goals
    go_returns
    refine ⟨?_, by go_grown⟩
    try simp_all [validF, spanF]
    all_goals first | done | omega | (rw [Bool.eq_iff_iff]; simp; omega)

/-- One of R64. -/
def wideF (c n : Int) : Bool := c == 5 && (decide (0 ≤ n) && decide (n < 16))
theorem wide_valid (n : Int) : validF 5 n = (decide (0 ≤ n) && decide (n < 16)) := by simp [validF, spanF]
/-- No register at all. -/
def noneF (c n : Int) : Bool := c == 0 && n == 0
/-- rsp. -/
def stackF (c n : Int) : Bool := c == 5 && n == 4
def sizedF (z : Int) : Bool := z == 0 || z == 1 || z == 2 || z == 4 || z == 8 || z == 16 || z == 32
def basedF (c n : Int) : Bool := noneF c n || wideF c n || (c == 8 && n == 0)
/-- The bits by which a scale shifts. -/
def shiftF (s : Int) : Int := if s = 2 then 1 else if s = 4 then 2 else if s = 8 then 3 else 0
def scaleF (s : Int) : Bool := s == 1 || s == 2 || s == 4 || s == 8

theorem none_any (c n : Int) (w : World) :
    Calls Try.prog 60 #[.agg #[.int .i64 c, .int .i64 n]] w fun e w' => e = .returned (.bool (noneF c n)) ∧ Below w.heap.size w w' := by
  go_enter Try.func60, Try.ntmps60
  go_wp2
  all_goals
    go_returns
    exact ⟨by simp_all [noneF], by go_grown⟩
theorem rnone_any (c n : Int) (w : World) :
    Calls Try.prog 67 #[.agg #[.int .i64 c, .int .i64 n]] w fun e w' => e = .returned (.bool (noneF c n)) ∧ Below w.heap.size w w' := by
  go_enter Try.func67, Try.ntmps67
  go_wp2
  all_goals
    go_returns
    exact ⟨by simp_all [noneF], by go_grown⟩
theorem stack_any (c n : Int) (w : World) :
    Calls Try.prog 61 #[.agg #[.int .i64 c, .int .i64 n]] w fun e w' => e = .returned (.bool (stackF c n)) ∧ Below w.heap.size w w' := by
  go_enter Try.func61, Try.ntmps61
  go_wp2
  all_goals
    go_returns
    exact ⟨by simp_all [stackF], by go_grown⟩
theorem sized_any (z : Int) (w : World) :
    Calls Try.prog 69 #[.int .i64 z] w fun e w' => e = .returned (.bool (sizedF z)) ∧ w = w' := by
  go_enter Try.func69, Try.ntmps69
  go_wp2
  all_goals (go_ret; exact ⟨ret_b (by simp_all [sizedF]), rfl⟩)
theorem wide_any (c n : Int) (w : World) :
    Calls Try.prog 74 #[.agg #[.int .i64 c, .int .i64 n]] w fun e w' => e = .returned (.bool (wideF c n)) ∧ Below w.heap.size w w' := by
  by_cases h : c = 5
  · subst h
    go_enter Try.func74, Try.ntmps74
    go_wp2_with (go_at_call 55; refine (valid_any _ _ _).mono ?_; rintro e w1 ⟨rfl, hb1⟩; obtain ⟨hc1, hf1⟩ := bcell hb1; have hz1 : w.heap.size < w1.heap.size := by have := hb1.size; simp at this; omega)
    go_returns
    exact ⟨by simp [wideF, wide_valid], ((Below.refl _ _).alloc (Nat.le_refl _) _).trans (hb1.mono (by simp))⟩
  · go_enter Try.func74, Try.ntmps74
    go_wp2_with fail
    go_returns
    exact ⟨by simp [wideF, h], by go_grown⟩
theorem rwide_any (c n : Int) (w : World) :
    Calls Try.prog 73 #[.agg #[.int .i64 c, .int .i64 n]] w fun e w' => e = .returned (.bool (wideF c n)) ∧ Below w.heap.size w w' := by
  by_cases h : c = 5
  · subst h
    go_enter Try.func73, Try.ntmps73
    go_wp2_with (go_at_call 57; refine (rvalid_any _ _ _).mono ?_; rintro e w1 ⟨rfl, hb1⟩; obtain ⟨hc1, hf1⟩ := bcell hb1; have hz1 : w.heap.size < w1.heap.size := by have := hb1.size; simp at this; omega)
    go_returns
    exact ⟨by simp [wideF, wide_valid], ((Below.refl _ _).alloc (Nat.le_refl _) _).trans (hb1.mono (by simp))⟩
  · go_enter Try.func73, Try.ntmps73
    go_wp2_with fail
    go_returns
    exact ⟨by simp [wideF, h], by go_grown⟩
end Go.Proofs.Ytmlmdbholakioaa
