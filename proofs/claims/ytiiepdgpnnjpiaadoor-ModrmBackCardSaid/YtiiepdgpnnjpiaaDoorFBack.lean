/-
  Plain facts: what is put is got, and what is got is put.
-/
import Derived.Test.YtiiepdgpnnjpiaaDoorFBase
import Derived.Test.YtiiepdgpnnjpiaaDoorFGet
namespace Go.Proofs.YtiiepdgpnnjpiaaDoor
open Go.RowKit

theorem bytesOf_mod (n : Int) (s : Nat) : bytesOf (n % 2 ^ (8 * s)) s = bytesOf n s := by
  have h := bytesOf_le (bytesOf n s) (bytesOf_range n s) 0
  rw [bytesOf_length, le_bytesOf, Int.zero_mul, Int.add_zero] at h
  exact h
theorem bytesOf_congr {n m : Int} {s : Nat} (h : n % 2 ^ (8 * s) = m % 2 ^ (8 * s)) : bytesOf n s = bytesOf m s := by rw [← bytesOf_mod n, h, bytesOf_mod]
theorem sgn_mod (n : Int) (s : Nat) (h1 : 1 ≤ s) (h8 : s ≤ 8) : sgn n (8 * s) % 2 ^ (8 * s) = n % 2 ^ (8 * s) := by
  have e : (8 * (s : Int)).toNat = 8 * s := by omega
  rw [sgn_ok (by omega), e, ← (pow_half (8 * s) (by omega)).1]
  rw [Int.sub_emod, Int.emod_emod_of_dvd _ (Int.dvd_refl _), ← Int.sub_emod]
  congr 1; omega
theorem sgn_congr {n m : Int} {s : Nat} (h1 : 1 ≤ s) (h8 : s ≤ 8) (h : n % 2 ^ (8 * s) = m % 2 ^ (8 * s)) : sgn n (8 * s) = sgn m (8 * s) := by
  have e : (8 * (s : Int)).toNat = 8 * s := by omega
  rw [sgn_ok (by omega), sgn_ok (by omega), e, ← (pow_half (8 * s) (by omega)).1]
  rw [Int.add_emod, h, ← Int.add_emod]
/-- What stands in a number's bytes, wherever they stand. -/
theorem numAt_put (xs : List Int) (n : Int) (s : Nat) : numAt (xs ++ bytesOf n s) xs.length s = wrap64 (n % 2 ^ (8 * s)) := by
  unfold numAt
  rw [List.drop_left, List.take_of_length_le (by rw [bytesOf_length]; omega), le_bytesOf]
theorem put_low {n : Int} (hn : I64 n) (xs : List Int) (s : Nat) (h1 : 1 ≤ s) (h8 : s ≤ 8) : numAt (xs ++ bytesOf n s) xs.length s = low n (8 * s) := by
  have e : (8 * (s : Int)).toNat = 8 * s := by omega
  rw [numAt_put, ← wrap_low_ok hn (by omega), e]
theorem put_sgn (n : Int) (xs : List Int) (s : Nat) (h1 : 1 ≤ s) (h8 : s ≤ 8) : sgn (numAt (xs ++ bytesOf n s) xs.length s) (8 * s) = sgn n (8 * s) := by
  refine sgn_congr h1 h8 ?_
  rw [numAt_put, wrap64_mod _ _ (by omega), Int.emod_emod_of_dvd _ (Int.dvd_refl _)]
/-- What is got of bytes is put as these. -/
theorem got_put (xs : List Int) (hx : isBytes xs) (s : Nat) (h1 : 1 ≤ s) (h8 : s ≤ 8) (hl : s ≤ xs.length) : bytesOf (sgn (numAt xs 0 s) (8 * s)) s = xs.take s := by
  rw [bytesOf_congr (sgn_mod _ s h1 h8)]
  unfold numAt
  rw [List.drop_zero, bytesOf_congr (wrap64_mod _ _ (by omega))]
  have h := bytesOf_le (xs.take s) (hx.take s) 0
  rw [List.length_take, Nat.min_eq_left hl, Int.zero_mul, Int.add_zero] at h
  exact h
theorem got_wide (x : Int) (s : Nat) (h1 : 1 ≤ s) (h8 : s ≤ 8) : wideB (sgn x (8 * s)) (8 * s) = true := fits_wide (sgn_fits _ _ (by omega))
theorem wide_pos {n : Int} {b : Int} (hn : I64 n) (h : 1 ≤ b ∧ b ≤ 64) (hw : wideB n b = true) (h0 : 0 ≤ n) : low n b = n := by
  rw [wide_in hn h] at hw
  exact (low_in h).2 (.inr ⟨h0, hw.2⟩)
theorem get_of (A : Option Addr) (m c : Nat) (xs : List Int) (at_ size : Int) (sg : Bool) (w : World) (hm : xs.length = m) (hx : ∃ B, Mem w B A xs) (hl : m ≤ 9223372036854775807) (hat : I64 at_) :
    Calls Tryd.prog 104 #[.slice A m c, .int .i64 at_, .int .i64 size, .bool sg] w
      fun e w' => e = .returned (.tuple #[.int .i64 (getN xs at_ size sg), .int .i64 (getE xs at_ size)]) ∧ w = w' := by
  subst hm
  obtain ⟨B, hx⟩ := hx
  exact get_any A c xs at_ size sg w B hx hl hat
/-- What is got of a number that was put, wherever it stands. -/
theorem back_get {n : Int} (hn : I64 n) (xs : List Int) (s : Nat) (hs : sizeOk s = true) :
    getE (xs ++ bytesOf n s) xs.length s = 0 ∧ getN (xs ++ bytesOf n s) xs.length s true = sgn n (8 * s) ∧ getN (xs ++ bytesOf n s) xs.length s false = low n (8 * s) := by
  have h8 := size_le hs
  have hl : xs.length + s ≤ (xs ++ bytesOf n s).length := by rw [List.length_append, bytesOf_length]; omega
  refine ⟨getE_ok _ _ _ hs hl, ?_, ?_⟩
  · rw [getN_ok _ _ _ _ hs hl]; simp only [if_true]; exact put_sgn n xs s (by omega) (by omega)
  · rw [getN_ok _ _ _ _ hs hl]; simp only [Bool.false_eq_true, if_false]; exact put_low hn xs s (by omega) (by omega)
end Go.Proofs.YtiiepdgpnnjpiaaDoor
