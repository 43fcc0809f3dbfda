/-
  Registers: the document's small functions.
-/
import Derived.Test.YtebcljdekhmkhaaDoorReg
namespace Go.Proofs.YtebcljdekhmkhaaDoor
open Go.RowKit

theorem rvalid_any (c n : Int) (w : World) :
    Calls Tryd.prog 8 #[.agg #[.int .i64 c, .int .i64 n]] w fun e w' => e = .returned (.bool (validF c n)) ∧ Below w.heap.size w w' := by
  go_enter Tryd.func8, Tryd.ntmps8
  go_wp2
  all_goals
    go_returns
    refine ⟨?_, by go_grown⟩
    try simp_all [validF, spanF]
    all_goals first | done | omega | (rw [Bool.eq_iff_iff]; simp; omega)
theorem rvalid_of {c n : Int} {b : Bool} (h : validF c n = b) (w : World) :
    Calls Tryd.prog 8 #[.agg #[.int .i64 c, .int .i64 n]] w fun e w' => e = .returned (.bool b) ∧ Below w.heap.size w w' := by
  have := rvalid_any c n w
  rw [h] at this
  exact this
theorem rlow_reg (c n : Int) (w : World) :
    Calls Tryd.prog 14 #[.agg #[.int .i64 c, .int .i64 n]] w fun e w' => e = .returned (.int .i64 (lowF c n)) ∧ Below w.heap.size w w' := by
  cases hv : validF c n
  all_goals
    have HV := hid hv
    go_enter Tryd.func14, Tryd.ntmps14
    go_wp2_with (go_at_call 8; refine (rvalid_of HV.out _).mono ?_; rintro e w1 ⟨rfl, hb1⟩; obtain ⟨hc1, hf1⟩ := bcell hb1; have hz1 : w.heap.size < w1.heap.size := by have := hb1.size; simp at this; omega)
    go_returns
    refine ⟨?_, ((Below.refl _ _).alloc (Nat.le_refl _) _).trans (hb1.mono (by simp))⟩
    first | (simp [lowF, HV.out]; done) | (have := validF_n HV.out; simp [lowF, HV.out, Int.tmod_eq_emod_of_nonneg this.1])
theorem rhigh_reg (c n : Int) (w : World) :
    Calls Tryd.prog 16 #[.agg #[.int .i64 c, .int .i64 n]] w fun e w' => e = .returned (.int .i64 (highF c n)) ∧ Below w.heap.size w w' := by
  cases hv : validF c n
  all_goals
    have HV := hid hv
    go_enter Tryd.func16, Tryd.ntmps16
    go_wp2_with (go_at_call 8; refine (rvalid_of HV.out _).mono ?_; rintro e w1 ⟨rfl, hb1⟩; obtain ⟨hc1, hf1⟩ := bcell hb1; have hz1 : w.heap.size < w1.heap.size := by have := hb1.size; simp at this; omega)
    go_returns
    refine ⟨?_, ((Below.refl _ _).alloc (Nat.le_refl _) _).trans (hb1.mono (by simp))⟩
    first | (simp [highF, HV.out]; done) | (have := validF_n HV.out; simp [highF, HV.out, Int.tdiv_eq_ediv_of_nonneg this.1]; exact IntWalk.wrap64_in _ ⟨by omega, by omega⟩)
theorem rsize_reg (c n : Int) (w : World) :
    Calls Tryd.prog 12 #[.agg #[.int .i64 c, .int .i64 n]] w fun e w' => e = .returned (.int .i64 (sizeF c n)) ∧ Below w.heap.size w w' := by
  cases hv : validF c n
  all_goals
    have HV := hid hv
    go_enter Tryd.func12, Tryd.ntmps12
    go_wp2_with (go_at_call 8; refine (rvalid_of HV.out _).mono ?_; rintro e w1 ⟨rfl, hb1⟩; obtain ⟨hc1, hf1⟩ := bcell hb1; have hz1 : w.heap.size < w1.heap.size := by have := hb1.size; simp at this; omega)
    all_goals
      go_returns
      refine ⟨?_, ((Below.refl _ _).alloc (Nat.le_refl _) _).trans (hb1.mono (by simp))⟩
      have hv2 := HV.out
      clear HV
      simp_all [sizeF]
theorem rneeds_reg (c n : Int) (w : World) :
    Calls Tryd.prog 18 #[.agg #[.int .i64 c, .int .i64 n]] w fun e w' => e = .returned (.bool (needsF c n)) ∧ Below w.heap.size w w' := by
  go_enter Tryd.func18, Tryd.ntmps18
  go_wp2
  all_goals
    go_returns
    exact ⟨by simp_all [needsF]; try omega, by go_grown⟩
theorem rbars_reg (c n : Int) (w : World) :
    Calls Tryd.prog 20 #[.agg #[.int .i64 c, .int .i64 n]] w fun e w' => e = .returned (.bool (barsF c n)) ∧ Below w.heap.size w w' := by
  by_cases h2 : c = 2
  · subst h2
    go_enter Tryd.func20, Tryd.ntmps20
    go_wp2_with (go_at_call 8; refine (rvalid_any _ _ _).mono ?_; rintro e w1 ⟨rfl, hb1⟩; obtain ⟨hc1, hf1⟩ := bcell hb1; have hz1 : w.heap.size < w1.heap.size := by have := hb1.size; simp at this; omega)
    go_returns
    exact ⟨by simp [barsF], ((Below.refl _ _).alloc (Nat.le_refl _) _).trans (hb1.mono (by simp))⟩
  · go_enter Tryd.func20, Tryd.ntmps20
    go_wp2_with fail
    go_returns
    exact ⟨by simp [barsF, h2], by go_grown⟩
end Go.Proofs.YtebcljdekhmkhaaDoor
