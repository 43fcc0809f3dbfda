/-
  FieldFits: the walk of the law where the number of bits is 64, or is none; and all together.
-/
import Derived.Test.YtlmhiokfkelflaaFits
namespace Go.Proofs.Ytlmhiokfkelflaa
open Go.RowKit
set_option maxRecDepth 100000 in
set_option maxHeartbeats 4000000 in
theorem fits_walk64 (n more : Int) (w : World) (hn : I64 n) :
    Calls Try.prog 6 #[.int .i64 n, .int .i64 64, .int .i64 more] w fun e w' => e = .returned (.bool true) ∧ Below w.heap.size w w' := by
  have HN := hid hn
  have h64 : (2 : Int) ^ ((64 : Int).toNat - 1) = 9223372036854775808 := rfl
  have hs : sgn n 64 = n := (sgn_in (by omega)).2 (by unfold I64 at hn; omega)
  have hl : low n 64 = n := (low_in (by omega)).2 (.inl rfl)
  have k1 : fitsB n 64 = true := by rw [fits_eq n 64 (by omega), hs]; simp
  have k2 : wideB n 64 = true := fits_wide k1
  have hm0 := Int.emod_nonneg more (by decide : (64 : Int) ≠ 0)
  have hm1 := Int.emod_lt_of_pos more (by decide : (0 : Int) < 64)
  clear hn h64
  by_cases hv : more % 64 = 0
  all_goals
    go_enter Try.func6, Try.ntmps6
    go_wp2_with fail
    refine (awake_any w).mono ?_
    rintro e w1 ⟨rfl, hb1⟩
    have HB := hid hb1
    clear hb1
    go_wp2_with (first | (go_at_call 16; refine (fits_any _ _ _).mono ?_; rintro e w' ⟨rfl, rfl⟩) | (go_at_call 20; refine (sign_any _ _ _).mono ?_; rintro e w' ⟨rfl, rfl⟩) | (go_at_call 18; refine (wide_any _ _ _ HN.out).mono ?_; rintro e w' ⟨rfl, rfl⟩) | (go_at_call 22; refine (low_any _ _ _ HN.out).mono ?_; rintro e w' ⟨rfl, rfl⟩) | (go_at_call 30; refine (pick_any _ _ _ (by omega) (by unfold I64; omega)).mono ?_; rintro e w' ⟨rfl, rfl⟩))
    go_ret
    exact ⟨rfl, HB.out⟩
set_option maxRecDepth 100000 in
set_option maxHeartbeats 4000000 in
theorem fits_walk0 (n b more : Int) (w : World) (hn : I64 n) (h : ¬(1 ≤ b ∧ b ≤ 64)) :
    Calls Try.prog 6 #[.int .i64 n, .int .i64 b, .int .i64 more] w fun e w' => e = .returned (.bool true) ∧ Below w.heap.size w w' := by
  have HN := hid hn
  have k1 : fitsB n b = false := fits_not h
  have k2 : wideB n b = false := wide_not h
  have k3 : sgn n b = 0 := by unfold sgn; rw [if_neg h]
  have k4 : low n b = 0 := by unfold low; rw [if_neg (by omega), if_neg (by omega)]
  clear hn
  by_cases hb : b < 1
  · clear h
    go_enter Try.func6, Try.ntmps6
    go_wp2_with fail
    refine (awake_any w).mono ?_
    rintro e w1 ⟨rfl, hb1⟩
    have HB := hid hb1
    clear hb1
    go_wp2_with (first | (go_at_call 16; refine (fits_any _ _ _).mono ?_; rintro e w' ⟨rfl, rfl⟩) | (go_at_call 20; refine (sign_any _ _ _).mono ?_; rintro e w' ⟨rfl, rfl⟩) | (go_at_call 18; refine (wide_any _ _ _ HN.out).mono ?_; rintro e w' ⟨rfl, rfl⟩) | (go_at_call 22; refine (low_any _ _ _ HN.out).mono ?_; rintro e w' ⟨rfl, rfl⟩))
    go_ret
    exact ⟨rfl, HB.out⟩
  · have hb' : 64 < b := by omega
    clear h
    go_enter Try.func6, Try.ntmps6
    go_wp2_with fail
    refine (awake_any w).mono ?_
    rintro e w1 ⟨rfl, hb1⟩
    have HB := hid hb1
    clear hb1
    go_wp2_with (first | (go_at_call 16; refine (fits_any _ _ _).mono ?_; rintro e w' ⟨rfl, rfl⟩) | (go_at_call 20; refine (sign_any _ _ _).mono ?_; rintro e w' ⟨rfl, rfl⟩) | (go_at_call 18; refine (wide_any _ _ _ HN.out).mono ?_; rintro e w' ⟨rfl, rfl⟩) | (go_at_call 22; refine (low_any _ _ _ HN.out).mono ?_; rintro e w' ⟨rfl, rfl⟩))
    go_ret
    exact ⟨rfl, HB.out⟩
theorem fits_law (n b more : Int) (w : World) (hn : I64 n) (_ : I64 b) (_ : I64 more) :
    Calls Try.prog 6 #[.int .i64 n, .int .i64 b, .int .i64 more] w fun e w' => e = .returned (.bool true) ∧ Below w.heap.size w w' := by
  by_cases h : 1 ≤ b ∧ b ≤ 64
  · by_cases hb : b < 64
    · have hw := wide_or n b h
      have hf := fits_eq n b h
      have hkinds : (fitsB n b = true ∧ wideB n b = true ∧ (sgn n b == n) = true) ∨ (fitsB n b = false ∧ wideB n b = true ∧ (sgn n b == n) = false ∧ (low n b == n) = true) ∨ (fitsB n b = false ∧ wideB n b = false ∧ (sgn n b == n) = false ∧ (low n b == n) = false) := by
        rw [hw, hf]
        cases (sgn n b == n) <;> cases (low n b == n) <;> simp
      rcases hkinds with hk | hk | hk
      · exact fits_walk1 n b more w hn ⟨h.1, hb⟩ hk
      · exact fits_walk2 n b more w hn ⟨h.1, hb⟩ hk
      · exact fits_walk3 n b more w hn ⟨h.1, hb⟩ hk
    · obtain rfl : b = 64 := by omega
      exact fits_walk64 n more w hn
  · exact fits_walk0 n b more w hn h
end Go.Proofs.Ytlmhiokfkelflaa
