/-
  Which numbers are mnemonics; how their immediates are: the program and the document (for a seat that holds reg.Valid too).
-/
import Derived.Test.YtmlmdbholakioaaOwn
import Derived.BigQuiet
namespace Go.Proofs.Ytmlmdbholakioaa
open Go.RowKit

def okF (n : Int) : Bool := decide (1 ≤ n) && decide (n ≤ 322)
theorem okF_yes {n : Int} (h : okF n = true) : 1 ≤ n ∧ n ≤ 322 := by simpa [okF] using h
theorem okF_no {n : Int} (h : okF n = false) : n < 1 ∨ 322 < n := by simp [okF] at h; omega
theorem opvalid_any (n : Int) (w : World) :
    Calls Try.prog 36 #[.int .i64 n] w fun e w' => e = .returned (.bool (okF n)) ∧ w = w' := by
  by_cases h1 : 1 ≤ n
  · go_enter Try.func36, Try.ntmps36
    go_wp2
    all_goals go_returns
    all_goals exact ⟨by simp_all [okF], rfl⟩
  · go_enter Try.func36, Try.ntmps36
    go_wp2
    all_goals go_returns
    all_goals exact ⟨by simp [okF]; omega, rfl⟩
theorem opvalid_of {n : Int} {b : Bool} (h : okF n = b) (w : World) :
    Calls Try.prog 36 #[.int .i64 n] w fun e w' => e = .returned (.bool b) ∧ w = w' := by
  have := opvalid_any n w
  rw [h] at this
  exact this
theorem ropvalid_any (n : Int) (w : World) :
    Calls Try.prog 39 #[.int .i64 n] w fun e w' => e = .returned (.bool (okF n)) ∧ w = w' := by
  by_cases h1 : 1 ≤ n
  · go_enter Try.func39, Try.ntmps39
    go_wp2
    all_goals go_returns
    all_goals exact ⟨by simp_all [okF], rfl⟩
  · go_enter Try.func39, Try.ntmps39
    go_wp2
    all_goals go_returns
    all_goals exact ⟨by simp [okF]; omega, rfl⟩
theorem ropvalid_of {n : Int} {b : Bool} (h : okF n = b) (w : World) :
    Calls Try.prog 39 #[.int .i64 n] w fun e w' => e = .returned (.bool b) ∧ w = w' := by
  have := ropvalid_any n w
  rw [h] at this
  exact this
/-- The bits of a mnemonic's immediates, whether they are signed. -/
def immG (n : Int) : Int × Bool :=
  if okF n then (if n ≤ 10 ∨ n = 16 then (0, true) else if n = 48 then (64, true) else if n = 51 then (16, false) else (8, false)) else (0, false)
abbrev IV (p : Int × Bool) : Value := .tuple #[.int .i64 p.1, .bool p.2]
theorem imm_cases {n : Int} (h : okF n = true) : n = 1 ∨ n = 2 ∨ n = 3 ∨ n = 4 ∨ n = 5 ∨ n = 6 ∨ n = 7 ∨ n = 8 ∨ n = 9 ∨ n = 10 ∨ n = 16 ∨ n = 48 ∨ n = 51 ∨ (10 < n ∧ n ≠ 16 ∧ n ≠ 48 ∧ n ≠ 51) := by
  have := okF_yes h
  omega
set_option maxHeartbeats 1000000 in
theorem imm7_any (n : Int) (w : World) :
    Calls Try.prog 35 #[.int .i64 n] w fun e w' => e = .returned (IV (immG n)) ∧ w = w' := by
  cases hv : okF n
  · have HV := hid hv
    have HI := hid (show immG n = (0, false) by simp [immG, hv])
    clear hv
    go_enter Try.func35, Try.ntmps35
    go_wp2_with (go_at_call 36; refine (opvalid_of HV.out _).mono ?_; rintro e w1 ⟨rfl, rfl⟩)
    go_returns
    exact ⟨by rw [HI.out]; rfl, rfl⟩
  · have HV := hid hv
    rcases imm_cases hv with rfl | rfl | rfl | rfl | rfl | rfl | rfl | rfl | rfl | rfl | rfl | rfl | rfl | ⟨h10, h16, h48, h51⟩
    all_goals clear hv
    iterate 13
      · go_enter Try.func35, Try.ntmps35
        go_wp2_with (go_at_call 36; refine (opvalid_of HV.out _).mono ?_; rintro e w1 ⟨rfl, rfl⟩)
        go_returns
        exact ⟨rfl, rfl⟩
    have HI := hid (show immG n = (8, false) by rw [immG, HV.out, if_pos rfl, if_neg (by omega), if_neg h48, if_neg h51])
    have e1 : (n == 1) = false := by rw [beq_eq_false_iff_ne]; omega
    have e2 : (n == 2) = false := by rw [beq_eq_false_iff_ne]; omega
    have e3 : (n == 3) = false := by rw [beq_eq_false_iff_ne]; omega
    have e4 : (n == 4) = false := by rw [beq_eq_false_iff_ne]; omega
    have e5 : (n == 5) = false := by rw [beq_eq_false_iff_ne]; omega
    have e6 : (n == 6) = false := by rw [beq_eq_false_iff_ne]; omega
    have e7 : (n == 7) = false := by rw [beq_eq_false_iff_ne]; omega
    have e8 : (n == 8) = false := by rw [beq_eq_false_iff_ne]; omega
    have e9 : (n == 9) = false := by rw [beq_eq_false_iff_ne]; omega
    have e10 : (n == 10) = false := by rw [beq_eq_false_iff_ne]; omega
    have e16 : (n == 16) = false := by rw [beq_eq_false_iff_ne]; omega
    have e48 : (n == 48) = false := by rw [beq_eq_false_iff_ne]; omega
    have e51 : (n == 51) = false := by rw [beq_eq_false_iff_ne]; omega
    clear h16 h48 h51
    go_enter Try.func35, Try.ntmps35
    go_wp2_with (go_at_call 36; refine (opvalid_of HV.out _).mono ?_; rintro e w1 ⟨rfl, rfl⟩)
    go_returns
    exact ⟨by rw [HI.out]; rfl, rfl⟩
set_option maxHeartbeats 1000000 in
theorem rimm7_any (n : Int) (w : World) :
    Calls Try.prog 38 #[.int .i64 n] w fun e w' => e = .returned (IV (immG n)) ∧ w = w' := by
  cases hv : okF n
  · have HV := hid hv
    have HI := hid (show immG n = (0, false) by simp [immG, hv])
    clear hv
    go_enter Try.func38, Try.ntmps38
    go_wp2_with (go_at_call 39; refine (ropvalid_of HV.out _).mono ?_; rintro e w1 ⟨rfl, rfl⟩)
    go_returns
    exact ⟨by rw [HI.out]; rfl, rfl⟩
  · have HV := hid hv
    rcases imm_cases hv with rfl | rfl | rfl | rfl | rfl | rfl | rfl | rfl | rfl | rfl | rfl | rfl | rfl | ⟨h10, h16, h48, h51⟩
    all_goals clear hv
    iterate 13
      · go_enter Try.func38, Try.ntmps38
        go_wp2_with (go_at_call 39; refine (ropvalid_of HV.out _).mono ?_; rintro e w1 ⟨rfl, rfl⟩)
        go_returns
        exact ⟨rfl, rfl⟩
    have HI := hid (show immG n = (8, false) by rw [immG, HV.out, if_pos rfl, if_neg (by omega), if_neg h48, if_neg h51])
    have e1 : (n == 1) = false := by rw [beq_eq_false_iff_ne]; omega
    have e2 : (n == 2) = false := by rw [beq_eq_false_iff_ne]; omega
    have e3 : (n == 3) = false := by rw [beq_eq_false_iff_ne]; omega
    have e4 : (n == 4) = false := by rw [beq_eq_false_iff_ne]; omega
    have e5 : (n == 5) = false := by rw [beq_eq_false_iff_ne]; omega
    have e6 : (n == 6) = false := by rw [beq_eq_false_iff_ne]; omega
    have e7 : (n == 7) = false := by rw [beq_eq_false_iff_ne]; omega
    have e8 : (n == 8) = false := by rw [beq_eq_false_iff_ne]; omega
    have e9 : (n == 9) = false := by rw [beq_eq_false_iff_ne]; omega
    have e10 : (n == 10) = false := by rw [beq_eq_false_iff_ne]; omega
    have e16 : (n == 16) = false := by rw [beq_eq_false_iff_ne]; omega
    have e48 : (n == 48) = false := by rw [beq_eq_false_iff_ne]; omega
    have e51 : (n == 51) = false := by rw [beq_eq_false_iff_ne]; omega
    clear h16 h48 h51
    go_enter Try.func38, Try.ntmps38
    go_wp2_with (go_at_call 39; refine (ropvalid_of HV.out _).mono ?_; rintro e w1 ⟨rfl, rfl⟩)
    go_returns
    exact ⟨by rw [HI.out]; rfl, rfl⟩
end Go.Proofs.Ytmlmdbholakioaa
