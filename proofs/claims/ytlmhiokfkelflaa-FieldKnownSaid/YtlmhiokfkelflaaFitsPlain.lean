/-
  Plain facts behind FieldFits.
-/
import Derived.Test.YtlmhiokfkelflaaNum
namespace Go.Proofs.Ytlmhiokfkelflaa
open Go.RowKit

theorem sgn_fits (n b : Int) (h : 1 ≤ b ∧ b ≤ 64) : fitsB (sgn n b) b = true := by
  have hp := (pow_half b.toNat (by omega)).2
  rw [fits_in h, sgn_ok h]
  exact sgn_bound hp
theorem sgn_sgn (n b : Int) (h : 1 ≤ b ∧ b ≤ 64) : sgn (sgn n b) b = sgn n b := (sgn_in h).2 ((fits_in h).1 (sgn_fits n b h))
theorem sgn_I64 (n b : Int) : I64 (sgn n b) := by
  by_cases h : 1 ≤ b ∧ b ≤ 64
  · have hp := (fits_in h).1 (sgn_fits n b h)
    have h5 := pow_le (b.toNat - 1) 63 (by omega)
    have h6 : (2 : Int) ^ 63 = 9223372036854775808 := rfl
    unfold I64; omega
  · unfold sgn; rw [if_neg h]; unfold I64; omega
theorem low_pos {n b : Int} (h : 1 ≤ b ∧ b < 64) : 0 ≤ low n b ∧ low n b < 2 ^ b.toNat := by
  have hp : (0 : Int) < 2 ^ b.toNat := Int.pow_pos (by decide)
  unfold low
  rw [if_pos h]
  exact ⟨Int.emod_nonneg _ (by omega), Int.emod_lt_of_pos _ hp⟩
theorem low_I64 {n : Int} (hn : I64 n) (b : Int) : I64 (low n b) := by
  by_cases h : 1 ≤ b ∧ b < 64
  · have hp := low_pos (n := n) h
    have h5 := pow_le b.toNat 63 (by omega)
    have h6 : (2 : Int) ^ 63 = 9223372036854775808 := rfl
    unfold I64; omega
  · unfold low; rw [if_neg h]
    split
    · exact hn
    · unfold I64; omega
theorem low_low (n b : Int) (h : 1 ≤ b ∧ b ≤ 64) : low (low n b) b = low n b := by
  rw [low_in h]
  by_cases hb : b < 64
  · exact .inr (low_pos ⟨h.1, hb⟩)
  · left; omega
theorem low_sgn {n b : Int} (h : 1 ≤ b ∧ b < 64) (hne : sgn n b ≠ low n b) : low n b - sgn n b = 2 ^ b.toNat := by
  have := sgn_low (n := n) h
  split at this <;> omega
theorem wide_or (n b : Int) (h : 1 ≤ b ∧ b ≤ 64) : wideB n b = (sgn n b == n || low n b == n) := by
  unfold wideB fitsB
  rw [(bitsOk_iff b).2 h]; rfl
theorem fits_eq (n b : Int) (h : 1 ≤ b ∧ b ≤ 64) : fitsB n b = (sgn n b == n) := by
  unfold fitsB; rw [(bitsOk_iff b).2 h]; rfl
theorem fits_more {n b v : Int} (h : 1 ≤ b ∧ b ≤ 64) (hv : b ≤ v ∧ v ≤ 64) (hf : fitsB n b = true) : fitsB n v = true := by
  rw [fits_in h] at hf
  rw [fits_in (by omega)]
  have := pow_le (b.toNat - 1) (v.toNat - 1) (by omega)
  omega
theorem wide_more {n b v : Int} (hn : I64 n) (h : 1 ≤ b ∧ b ≤ 64) (hv : b ≤ v ∧ v ≤ 64) (hf : wideB n b = true) : wideB n v = true := by
  rw [wide_in hn h] at hf
  rw [wide_in hn (by omega)]
  have := pow_le (b.toNat - 1) (v.toNat - 1) (by omega)
  have := pow_le b.toNat v.toNat (by omega)
  omega
theorem fits_wide {n b : Int} (hf : fitsB n b = true) : wideB n b = true := by unfold wideB; rw [hf]; rfl
end Go.Proofs.Ytlmhiokfkelflaa
