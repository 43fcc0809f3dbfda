/-
  Plain facts on whole numbers: what so many bits of a number are, by their sign and without; the numbers that bytes stand for. Nothing of the program is in it.
-/
import Derived.WalkKit
namespace Go.Proofs.Ytllnjmpakkodnaa
open Go.RowKit

/-- A fact that the walk is not to use. -/
theorem hid {p : Prop} (h : p) : Hid p := h
theorem ret_i {k : IntKind} {a b : Int} (h : a = b) : Ending.returned (.int k a) = .returned (.int k b) := by rw [h]
theorem ret_b {a b : Bool} (h : a = b) : Ending.returned (.bool a) = .returned (.bool b) := by rw [h]
/-- How many bits there may be. -/
def bitsOk (b : Int) : Bool := decide (1 ≤ b) && decide (b ≤ 64)
/-- The number of the lowest bits, the highest of them its sign. -/
def sgn (n b : Int) : Int := if 1 ≤ b ∧ b ≤ 64 then (n + 2 ^ (b.toNat - 1)) % 2 ^ b.toNat - 2 ^ (b.toNat - 1) else 0
/-- The number of the lowest bits without a sign, of up to 63 of them. -/
def low (n b : Int) : Int := if 1 ≤ b ∧ b < 64 then n % 2 ^ b.toNat else if b = 64 then n else 0
/-- Is it a number of so many bits by its sign? -/
def fitsB (n b : Int) : Bool := bitsOk b && sgn n b == n
/-- By its sign, or without? -/
def wideB (n b : Int) : Bool := fitsB n b || (bitsOk b && low n b == n)

def I64 (n : Int) : Prop := -9223372036854775808 ≤ n ∧ n ≤ 9223372036854775807
theorem I64.of {n : Int} (h : (Lit.int .i64 n).wf = true) : I64 n := by
  have h' := h
  simp [Lit.wf, IntKind.min, IntKind.max, IntKind.signed, IntKind.bits] at h'
  exact ⟨by omega, by omega⟩

theorem bitsOk_iff (b : Int) : bitsOk b = true ↔ 1 ≤ b ∧ b ≤ 64 := by simp [bitsOk]
theorem bitsOk_not (b : Int) : bitsOk b = false ↔ ¬(1 ≤ b ∧ b ≤ 64) := by
  rw [← bitsOk_iff]; simp

theorem pow_half (k : Nat) (hk : 1 ≤ k) : (2 : Int) ^ k = 2 * 2 ^ (k - 1) ∧ (0 : Int) < 2 ^ (k - 1) := by
  obtain ⟨j, rfl⟩ : ∃ j, k = j + 1 := ⟨k - 1, by omega⟩
  exact ⟨by rw [Int.pow_succ]; simp; omega, Int.pow_pos (by decide)⟩
theorem pow_le (j k : Nat) (h : j ≤ k) : (2 : Int) ^ j ≤ 2 ^ k := by
  obtain ⟨d, rfl⟩ : ∃ d, k = j + d := ⟨k - j, by omega⟩
  rw [Int.pow_add]
  have h1 : (0 : Int) < 2 ^ j := Int.pow_pos (by decide)
  have h2 : (1 : Int) ≤ 2 ^ d := by have : (0 : Int) < 2 ^ d := Int.pow_pos (by decide); omega
  calc (2 : Int) ^ j = 2 ^ j * 1 := by omega
    _ ≤ 2 ^ j * 2 ^ d := Int.mul_le_mul_of_nonneg_left h2 (by omega)
theorem pow_dvd (j k : Nat) (h : j ≤ k) : (2 : Int) ^ j ∣ 2 ^ k := ⟨2 ^ (k - j), by rw [← Int.pow_add]; congr 1; omega⟩

/-- A number between the two bounds is its own remainder by the sign. -/
theorem sgn_self {n : Int} {H : Int} (h : -H ≤ n ∧ n < H) : (n + H) % (2 * H) - H = n := by
  rw [Int.emod_eq_of_lt (by omega) (by omega)]; omega
theorem sgn_bound {n : Int} {H : Int} (hH : 0 < H) : -H ≤ (n + H) % (2 * H) - H ∧ (n + H) % (2 * H) - H < H := by
  have h1 := Int.emod_nonneg (n + H) (by omega : 2 * H ≠ 0)
  have h2 := Int.emod_lt_of_pos (n + H) (by omega : 0 < 2 * H)
  omega

theorem sgn_ok {n b : Int} (h : 1 ≤ b ∧ b ≤ 64) : sgn n b = (n + 2 ^ (b.toNat - 1)) % (2 * 2 ^ (b.toNat - 1)) - 2 ^ (b.toNat - 1) := by
  have := (pow_half b.toNat (by omega)).1
  unfold sgn
  rw [if_pos h, this]
theorem sgn_in {n b : Int} (h : 1 ≤ b ∧ b ≤ 64) : sgn n b = n ↔ -2 ^ (b.toNat - 1) ≤ n ∧ n < 2 ^ (b.toNat - 1) := by
  have hp := (pow_half b.toNat (by omega)).2
  rw [sgn_ok h]
  constructor
  · intro e
    have := sgn_bound (n := n) hp
    omega
  · exact fun h => sgn_self h

/-- What the shifts left and right of int make. -/
theorem shift_sgn (n b : Int) (h1 : 1 ≤ b) (h2 : b ≤ 64) : wrap64 (n * 2 ^ (64 - b).toNat) / 2 ^ (64 - b).toNat = sgn n b := by
  have hb : b.toNat - 1 + (64 - b).toNat = 63 := by omega
  have hp : (0 : Int) < 2 ^ (64 - b).toNat := Int.pow_pos (by decide)
  have e63 : (9223372036854775808 : Int) = 2 ^ (64 - b).toNat * 2 ^ (b.toNat - 1) := by
    rw [← Int.pow_add, show (64 - b).toNat + (b.toNat - 1) = 63 by omega]; rfl
  rw [sgn_ok ⟨h1, h2⟩]
  unfold wrap64
  rw [show (18446744073709551616 : Int) = 2 ^ (64 - b).toNat * (2 * 2 ^ (b.toNat - 1)) by
    rw [Int.mul_left_comm, ← e63]; rfl]
  rw [e63, Int.mul_comm n, ← Int.mul_add, Int.mul_emod_mul_of_pos _ _ hp, ← Int.mul_sub, Int.mul_ediv_cancel_left _ (by omega)]
/-- What the shifts of uint64 make. -/
theorem shift_low (n b : Int) (hn : I64 n) (h1 : 1 ≤ b) (h2 : b ≤ 64) :
    wrap64 (IntKind.u64.wrap (IntKind.u64.wrap n * 2 ^ (64 - b).toNat) / 2 ^ (64 - b).toNat) = low n b := by
  have hp : (0 : Int) < 2 ^ (64 - b).toNat := Int.pow_pos (by decide)
  have e64 : (18446744073709551616 : Int) = 2 ^ (64 - b).toNat * 2 ^ b.toNat := by
    rw [← Int.pow_add, show (64 - b).toNat + b.toNat = 64 by omega]; rfl
  rw [IntKind.wrap_u64, IntKind.wrap_u64]
  rw [show (n % 18446744073709551616 * 2 ^ (64 - b).toNat % 18446744073709551616) = 2 ^ (64 - b).toNat * (n % 18446744073709551616 % 2 ^ b.toNat) by
    conv => lhs; rhs; rw [e64]
    rw [Int.mul_comm, Int.mul_emod_mul_of_pos _ _ hp]]
  rw [Int.mul_ediv_cancel_left _ (by omega), Int.emod_emod_of_dvd _ (by rw [e64]; exact Int.dvd_mul_left _ _)]
  unfold low
  by_cases hb : b < 64
  · rw [if_pos ⟨h1, hb⟩]
    have hq : (0 : Int) < 2 ^ b.toNat := Int.pow_pos (by decide)
    have h3 := Int.emod_nonneg n (by omega : (2 : Int) ^ b.toNat ≠ 0)
    have h4 := Int.emod_lt_of_pos n hq
    have h5 := pow_le b.toNat 63 (by omega)
    have h6 : (2 : Int) ^ 63 = 9223372036854775808 := rfl
    exact IntWalk.wrap64_in _ ⟨by omega, by omega⟩
  · obtain rfl : b = 64 := by omega
    simp only [show ¬((1 : Int) ≤ 64 ∧ (64 : Int) < 64) by omega, if_false, if_true]
    unfold wrap64
    have : (2 : Int) ^ (64 : Int).toNat = 18446744073709551616 := rfl
    rw [this]
    unfold I64 at hn
    omega

/-- A number of so many bits: what the shift right says of it. -/
theorem fits_shift {n b : Int} (h : 1 ≤ b ∧ b ≤ 64) : fitsB n b = (n / 2 ^ (b.toNat - 1) == 0 || n / 2 ^ (b.toNat - 1) == -1) := by
  have hp := (pow_half b.toNat (by omega)).2
  have e : fitsB n b = decide (-2 ^ (b.toNat - 1) ≤ n ∧ n < 2 ^ (b.toNat - 1)) := by
    unfold fitsB
    rw [(bitsOk_iff b).2 h, Bool.true_and, Bool.eq_iff_iff, decide_eq_true_iff, beq_iff_eq]
    exact sgn_in h
  rw [e, Bool.eq_iff_iff]
  simp only [decide_eq_true_iff, Bool.or_eq_true, beq_iff_eq]
  generalize (2 : Int) ^ (b.toNat - 1) = H at hp
  have h1 := Int.emod_add_mul_ediv n H
  have h2 := Int.emod_nonneg n (by omega : H ≠ 0)
  have h3 := Int.emod_lt_of_pos n hp
  constructor
  · rintro ⟨ha, hb⟩
    by_cases h0 : 0 ≤ n
    · exact .inl (Int.ediv_eq_zero_of_lt h0 hb)
    · refine .inr ?_
      exact ((Int.ediv_emod_unique (r := n + H) (q := -1) hp).2 ⟨by omega, by omega, by omega⟩).1
  · rintro (hq | hq)
    · rw [hq] at h1; omega
    · rw [hq] at h1; omega
theorem fits_not {n b : Int} (h : ¬(1 ≤ b ∧ b ≤ 64)) : fitsB n b = false := by
  unfold fitsB; rw [(bitsOk_not b).2 h]; rfl
theorem wide_not {n b : Int} (h : ¬(1 ≤ b ∧ b ≤ 64)) : wideB n b = false := by
  unfold wideB; rw [(bitsOk_not b).2 h, fits_not h]; rfl
theorem low_in {n b : Int} (h : 1 ≤ b ∧ b ≤ 64) : low n b = n ↔ b = 64 ∨ 0 ≤ n ∧ n < 2 ^ b.toNat := by
  have hp : (0 : Int) < 2 ^ b.toNat := Int.pow_pos (by decide)
  unfold low
  by_cases hb : b < 64
  · rw [if_pos ⟨h.1, hb⟩]
    have h2 := Int.emod_nonneg n (by omega : (2 : Int) ^ b.toNat ≠ 0)
    have h3 := Int.emod_lt_of_pos n hp
    constructor
    · intro e; exact .inr (by omega)
    · rintro (e | ⟨h4, h5⟩)
      · omega
      · exact Int.emod_eq_of_lt h4 h5
  · obtain rfl : b = 64 := by omega
    simp
theorem fits_in {n b : Int} (h : 1 ≤ b ∧ b ≤ 64) : fitsB n b = true ↔ -2 ^ (b.toNat - 1) ≤ n ∧ n < 2 ^ (b.toNat - 1) := by
  unfold fitsB
  rw [(bitsOk_iff b).2 h, Bool.true_and, beq_iff_eq]
  exact sgn_in h
theorem wide_in {n b : Int} (hn : I64 n) (h : 1 ≤ b ∧ b ≤ 64) : wideB n b = true ↔ -2 ^ (b.toNat - 1) ≤ n ∧ n < 2 ^ b.toNat := by
  have hp := pow_half b.toNat (by omega)
  unfold wideB
  rw [Bool.or_eq_true, fits_in h, (bitsOk_iff b).2 h, Bool.true_and, beq_iff_eq, low_in h]
  constructor
  · rintro (h1 | h1 | h1)
    · omega
    · subst h1
      have : (2 : Int) ^ ((64 : Int).toNat - 1) = 9223372036854775808 := rfl
      unfold I64 at hn
      omega
    · omega
  · intro h1
    by_cases h0 : 0 ≤ n
    · exact .inr (.inr (by omega))
    · exact .inl (by omega)
/-- What the document's answer asks of a number that is wide. -/
theorem wide_shift {n b : Int} (hn : I64 n) (h : 1 ≤ b ∧ b ≤ 64) : wideB n b = (fitsB n b || (decide (b < 64) && decide (0 < n) && n / 2 ^ b.toNat == 0)) := by
  have hp := pow_half b.toNat (by omega)
  rw [Bool.eq_iff_iff, wide_in hn h]
  simp only [Bool.or_eq_true, Bool.and_eq_true, decide_eq_true_iff, beq_iff_eq, fits_in h]
  constructor
  · intro h1
    by_cases h2 : n < 2 ^ (b.toNat - 1)
    · exact .inl ⟨h1.1, h2⟩
    · refine .inr ⟨⟨?_, by omega⟩, Int.ediv_eq_zero_of_lt (by omega) h1.2⟩
      by_cases hb : b < 64
      · exact hb
      · obtain rfl : b = 64 := by omega
        have : (2 : Int) ^ ((64 : Int).toNat - 1) = 9223372036854775808 := rfl
        unfold I64 at hn
        omega
  · rintro (h1 | ⟨⟨h1, h2⟩, h3⟩)
    · omega
    · have h4 := Int.emod_add_mul_ediv n (2 ^ b.toNat)
      have h5 := Int.emod_lt_of_pos n (by omega : (0 : Int) < 2 ^ b.toNat)
      rw [h3] at h4
      omega

/-! ### and, or -/
theorem and_one (x : Int) : bits .and .i64 x 1 = x % 2 := by
  have e : bits .and .i64 x 1 = IntKind.i64.wrap ((BitVec.ofInt 64 x &&& BitVec.ofInt 64 1).toNat : Int) := rfl
  rw [e, BitVec.toNat_and, show (BitVec.ofInt 64 1).toNat = 2 ^ 1 - 1 from rfl, Nat.and_two_pow_sub_one_eq_mod, BitVec.toNat_ofInt, IntKind.wrap_i64]
  have h : (0 : Int) ≤ x % 18446744073709551616 := Int.emod_nonneg _ (by decide)
  simp
  omega
/-- What is put above the lowest bits is added. -/
theorem or_shift (m d : Int) (k : Nat) (h0 : 0 ≤ m) (h1 : m < 2 ^ k) (hk : k < 64) : bits .or .i64 m (wrap64 (d * 2 ^ k)) = wrap64 (m + d * 2 ^ k) := by
  have e : bits .or .i64 m (wrap64 (d * 2 ^ k)) = IntKind.i64.wrap ((BitVec.ofInt 64 m ||| BitVec.ofInt 64 (wrap64 (d * 2 ^ k))).toNat : Int) := rfl
  have hp : (0 : Int) < 2 ^ k := Int.pow_pos (by decide)
  have e64 : (18446744073709551616 : Int) = 2 ^ k * 2 ^ (64 - k) := by
    rw [← Int.pow_add, show k + (64 - k) = 64 by omega]; rfl
  have hk63 := pow_le k 63 (by omega)
  have h63 : (2 : Int) ^ 63 = 9223372036854775808 := rfl
  have a1 : (BitVec.ofInt 64 m).toNat = m.toNat := by
    rw [BitVec.toNat_ofInt]
    show (m % 18446744073709551616).toNat = _
    rw [Int.emod_eq_of_lt h0 (by omega)]
  have hw : wrap64 (d * 2 ^ k) % 18446744073709551616 = 2 ^ k * (d % 2 ^ (64 - k)) := by
    have : wrap64 (d * 2 ^ k) % 18446744073709551616 = (d * 2 ^ k) % 18446744073709551616 := by unfold wrap64; omega
    rw [this, Int.mul_comm]
    conv => lhs; rw [e64]
    rw [Int.mul_emod_mul_of_pos _ _ hp]
  have hq : 0 ≤ d % 2 ^ (64 - k) := Int.emod_nonneg _ (by have : (0 : Int) < 2 ^ (64 - k) := Int.pow_pos (by decide); omega)
  obtain ⟨q, eq⟩ := Int.eq_ofNat_of_zero_le hq
  obtain ⟨r, rfl⟩ := Int.eq_ofNat_of_zero_le h0
  have a2 : (BitVec.ofInt 64 (wrap64 (d * 2 ^ k))).toNat = 2 ^ k * q := by
    rw [BitVec.toNat_ofInt]
    show (wrap64 (d * 2 ^ k) % 18446744073709551616).toNat = _
    rw [hw, eq]
    have : ((2 : Int) ^ k * (q : Int)) = ((2 ^ k * q : Nat) : Int) := by simp
    rw [this, Int.toNat_natCast]
  have hr : r < 2 ^ k := by exact_mod_cast h1
  rw [e, BitVec.toNat_or, a1, a2, Int.toNat_natCast, Nat.or_comm, ← Nat.two_pow_add_eq_or_of_lt hr, IntKind.wrap_i64]
  have e3 : ((2 ^ k * q + r : Nat) : Int) = 2 ^ k * (d % 2 ^ (64 - k)) + r := by rw [eq]; simp
  rw [e3, ← hw]
  unfold wrap64
  omega

/-! ### bits, one by one -/
theorem low_step (n : Int) (k : Nat) : n % 2 ^ (k + 1) = n % 2 ^ k + n / 2 ^ k % 2 * 2 ^ k := by
  have hp : (0 : Int) < 2 ^ k := Int.pow_pos (by decide)
  have h1 := Int.emod_add_mul_ediv n (2 ^ k)
  have h2 := Int.emod_add_mul_ediv (n / 2 ^ k) 2
  have h3 := Int.emod_nonneg n (by omega : (2 : Int) ^ k ≠ 0)
  have h4 := Int.emod_lt_of_pos n hp
  have h5 := Int.emod_nonneg (n / 2 ^ k) (by decide : (2 : Int) ≠ 0)
  have h6 := Int.emod_lt_of_pos (n / 2 ^ k) (by decide : (0 : Int) < 2)
  have e : (2 : Int) ^ (k + 1) = 2 ^ k * 2 := Int.pow_succ _ _
  refine ((Int.ediv_emod_unique (q := n / 2 ^ k / 2) (by omega : (0 : Int) < 2 ^ (k + 1))).2 ⟨?_, ?_, ?_⟩).2
  · rw [e, Int.mul_assoc]
    have : (2 : Int) ^ k * (2 * (n / 2 ^ k / 2)) = 2 ^ k * (n / 2 ^ k) - n / 2 ^ k % 2 * 2 ^ k := by
      rw [Int.mul_comm (n / 2 ^ k % 2), ← Int.mul_sub]; congr 1; omega
    omega
  · have := Int.mul_nonneg h5 (by omega : (0 : Int) ≤ 2 ^ k); omega
  · have : n / 2 ^ k % 2 * 2 ^ k ≤ 1 * 2 ^ k := Int.mul_le_mul_of_nonneg_right (by omega) (by omega)
    omega
/-- A bit put on top of those below it. -/
theorem low_or (n : Int) (k : Nat) (hk : k < 64) : bits .or .i64 (n % 2 ^ k) (wrap64 (n / 2 ^ k % 2 * 2 ^ k)) = wrap64 (n % 2 ^ (k + 1)) := by
  have hp : (0 : Int) < 2 ^ k := Int.pow_pos (by decide)
  rw [or_shift _ _ _ (Int.emod_nonneg n (by omega)) (Int.emod_lt_of_pos n hp) hk, low_step]
theorem wrap_low (n : Int) (k : Nat) (hk : k < 64) : wrap64 (n % 2 ^ k) = n % 2 ^ k := by
  have hp : (0 : Int) < 2 ^ k := Int.pow_pos (by decide)
  have h2 := Int.emod_nonneg n (by omega : (2 : Int) ^ k ≠ 0)
  have h3 := Int.emod_lt_of_pos n hp
  have h5 := pow_le k 63 (by omega)
  have h6 : (2 : Int) ^ 63 = 9223372036854775808 := rfl
  exact IntWalk.wrap64_in _ ⟨by omega, by omega⟩
theorem wrap_low_ok {n b : Int} (hn : I64 n) (h : 1 ≤ b ∧ b ≤ 64) : wrap64 (n % 2 ^ b.toNat) = low n b := by
  unfold low
  by_cases hb : b < 64
  · rw [if_pos ⟨h.1, hb⟩, wrap_low _ _ (by omega)]
  · obtain rfl : b = 64 := by omega
    simp only [show ¬((1 : Int) ≤ 64 ∧ (64 : Int) < 64) by omega, if_false, if_true]
    unfold wrap64
    have : (2 : Int) ^ (64 : Int).toNat = 18446744073709551616 := rfl
    rw [this]
    unfold I64 at hn
    omega
/-- By the sign: from what is told without one. -/
theorem sgn_low {n b : Int} (h : 1 ≤ b ∧ b < 64) : sgn n b = if low n b / 2 ^ (b.toNat - 1) % 2 = 1 then low n b - 2 ^ b.toNat else low n b := by
  have hp := pow_half b.toNat (by omega)
  rw [sgn_ok (by omega)]
  unfold low
  rw [if_pos h, hp.1]
  have h2 := Int.emod_nonneg n (by omega : 2 * (2 : Int) ^ (b.toNat - 1) ≠ 0)
  have h3 := Int.emod_lt_of_pos n (by omega : (0 : Int) < 2 * 2 ^ (b.toNat - 1))
  have h4 := Int.emod_add_mul_ediv n (2 * 2 ^ (b.toNat - 1))
  generalize n % (2 * 2 ^ (b.toNat - 1)) = r at *
  generalize (2 : Int) ^ (b.toNat - 1) = H at *
  generalize n / (2 * H) = q at *
  have hn : n + H = (r + H) + 2 * H * q := by omega
  rw [hn, Int.add_mul_emod_self_left]
  by_cases hr : r < H
  · rw [Int.emod_eq_of_lt (by omega) (by omega), Int.ediv_eq_zero_of_lt h2 hr]
    simp
  · have e1 : r / H = 1 := ((Int.ediv_emod_unique (r := r - H) hp.2).2 ⟨by omega, by omega, by omega⟩).1
    have e2 : (r + H) % (2 * H) = r - H := by
      refine ((Int.ediv_emod_unique (r := r - H) (q := 1) (by omega : 0 < 2 * H)).2 ⟨by omega, by omega, by omega⟩).2
    rw [e1, e2]
    simp; omega

/-! ### bytes -/
/-- The number that bytes are, the lowest first. -/
def le : List Int → Int
  | [] => 0
  | z :: r => z + 256 * le r
theorem le_snoc (l : List Int) (z : Int) : le (l ++ [z]) = le l + z * 2 ^ (8 * l.length) := by
  induction l with
  | nil => simp [le]
  | cons a r ih =>
    simp only [List.cons_append, le, ih, List.length_cons]
    rw [show 8 * (r.length + 1) = 8 * r.length + 8 by omega, Int.pow_add]
    have : (2 : Int) ^ 8 = 256 := rfl
    rw [this, Int.mul_add, ← Int.mul_assoc z, Int.mul_comm 256 (z * 2 ^ (8 * r.length))]
    omega
theorem le_bound (l : List Int) (h : ∀ z ∈ l, 0 ≤ z ∧ z < 256) : 0 ≤ le l ∧ le l < 2 ^ (8 * l.length) := by
  induction l with
  | nil => simp [le]
  | cons a r ih =>
    have ha := h a (by simp)
    have hr := ih (fun z hz => h z (by simp [hz]))
    simp only [le, List.length_cons]
    rw [show 8 * (r.length + 1) = 8 * r.length + 8 by omega, Int.pow_add]
    have : (2 : Int) ^ 8 = 256 := rfl
    rw [this]
    omega
/-- A number's lowest bytes. -/
def bytesOf (n : Int) (size : Nat) : List Int := (List.range size).map fun i => n / 2 ^ (8 * i) % 256
theorem bytesOf_length (n : Int) (size : Nat) : (bytesOf n size).length = size := by simp [bytesOf]
theorem bytesOf_range (n : Int) (size : Nat) : ∀ z ∈ bytesOf n size, 0 ≤ z ∧ z < 256 := by
  intro z hz
  simp only [bytesOf, List.mem_map] at hz
  obtain ⟨i, _, rfl⟩ := hz
  omega
theorem bytesOf_succ (n : Int) (size : Nat) : bytesOf n (size + 1) = bytesOf n size ++ [n / 2 ^ (8 * size) % 256] := by
  simp [bytesOf, List.range_succ]
theorem le_bytesOf (n : Int) (size : Nat) : le (bytesOf n size) = n % 2 ^ (8 * size) := by
  induction size with
  | zero => simp [bytesOf, le]
  | succ k ih =>
    rw [bytesOf_succ, le_snoc, ih, bytesOf_length]
    have hp : (0 : Int) < 2 ^ (8 * k) := Int.pow_pos (by decide)
    have e : (2 : Int) ^ (8 * (k + 1)) = 2 ^ (8 * k) * 256 := by
      rw [show 8 * (k + 1) = 8 * k + 8 by omega, Int.pow_add]; rfl
    have h1 := Int.emod_add_mul_ediv n (2 ^ (8 * k))
    have h2 := Int.emod_add_mul_ediv (n / 2 ^ (8 * k)) 256
    have h3 := Int.emod_nonneg n (by omega : (2 : Int) ^ (8 * k) ≠ 0)
    have h4 := Int.emod_lt_of_pos n hp
    have h5 := Int.emod_nonneg (n / 2 ^ (8 * k)) (by decide : (256 : Int) ≠ 0)
    have h6 := Int.emod_lt_of_pos (n / 2 ^ (8 * k)) (by decide : (0 : Int) < 256)
    refine (((Int.ediv_emod_unique (q := n / 2 ^ (8 * k) / 256) (by omega : (0 : Int) < 2 ^ (8 * (k + 1)))).2 ⟨?_, ?_, ?_⟩).2).symm
    · rw [e, Int.mul_assoc]
      have : (2 : Int) ^ (8 * k) * (256 * (n / 2 ^ (8 * k) / 256)) = 2 ^ (8 * k) * (n / 2 ^ (8 * k)) - n / 2 ^ (8 * k) % 256 * 2 ^ (8 * k) := by
        rw [Int.mul_comm (n / 2 ^ (8 * k) % 256), ← Int.mul_sub]; congr 1; omega
      omega
    · have := Int.mul_nonneg h5 (by omega : (0 : Int) ≤ 2 ^ (8 * k)); omega
    · have : n / 2 ^ (8 * k) % 256 * 2 ^ (8 * k) ≤ 255 * 2 ^ (8 * k) := Int.mul_le_mul_of_nonneg_right (by omega) (by omega)
      omega
/-- Bytes of a number that is told of bytes: themselves. -/
theorem bytesOf_le (l : List Int) (h : ∀ z ∈ l, 0 ≤ z ∧ z < 256) (m : Int) : bytesOf (le l + m * 2 ^ (8 * l.length)) l.length = l := by
  induction l generalizing m with
  | nil => rfl
  | cons a r ih =>
    have ha := h a (by simp)
    simp only [bytesOf, List.length_cons, List.range_succ_eq_map, List.map_cons, List.map_map, le]
    have e : (2 : Int) ^ (8 * (r.length + 1)) = 256 * 2 ^ (8 * r.length) := by
      rw [show 8 * (r.length + 1) = 8 + 8 * r.length by omega, Int.pow_add]; rfl
    have e2 : a + 256 * le r + m * 2 ^ (8 * (r.length + 1)) = a + 256 * (le r + m * 2 ^ (8 * r.length)) := by
      rw [e, Int.mul_left_comm]; omega
    rw [e2]
    congr 1
    · simp; omega
    · refine Eq.trans ?_ (ih (fun z hz => h z (by simp [hz])) m)
      simp only [bytesOf]
      refine List.map_congr_left fun i _ => ?_
      simp only [Function.comp]
      have : (2 : Int) ^ (8 * (i + 1)) = 256 * 2 ^ (8 * i) := by
        rw [show 8 * (i + 1) = 8 + 8 * i by omega, Int.pow_add]; rfl
      rw [this, ← Int.ediv_ediv_of_nonneg (by decide)]
      congr 2
      · rw [Int.add_mul_ediv_left _ _ (by decide), Int.ediv_eq_zero_of_lt ha.1 ha.2]; omega
theorem wrap64_mod (x : Int) (k : Nat) (hk : k ≤ 64) : wrap64 x % 2 ^ k = x % 2 ^ k := by
  have e64 : (18446744073709551616 : Int) = 2 ^ k * 2 ^ (64 - k) := by
    rw [← Int.pow_add, show k + (64 - k) = 64 by omega]; rfl
  have : wrap64 x = x + 18446744073709551616 * (-((x + 9223372036854775808) / 18446744073709551616)) := by
    unfold wrap64; omega
  rw [this, e64, Int.mul_assoc, Int.add_mul_emod_self_left]
theorem wrap64_of {n : Int} (hn : I64 n) : wrap64 n = n := IntWalk.wrap64_in _ ⟨hn.1, hn.2⟩
theorem wrap64_I64 (x : Int) : I64 (wrap64 x) := by unfold I64 wrap64; omega
theorem wrap64_sub (x y : Int) : wrap64 (x - wrap64 y) = wrap64 (x - y) := by unfold wrap64; omega
theorem wrap64_add (x y : Int) : wrap64 (x + wrap64 y) = wrap64 (x + y) := by unfold wrap64; omega
/-- The number that any number says, below another one. -/
theorem pick_neg {x m : Int} (hm : 1 ≤ m) (hx : I64 m) (h : x.tmod m < 0) : wrap64 (x.tmod m + m) = x % m := by
  have e := Int.tmod_eq_emod (a := x) (b := m)
  have h1 := Int.emod_nonneg x (by omega : m ≠ 0)
  have h2 := Int.emod_lt_of_pos x (by omega : 0 < m)
  have : wrap64 (x % m) = x % m := wrap64_of ⟨by omega, by unfold I64 at hx; omega⟩
  rw [← this]
  congr 1
  split at e <;> omega
theorem pick_pos {x m : Int} (hm : 1 ≤ m) (h : ¬x.tmod m < 0) : x.tmod m = x % m := by
  have e := Int.tmod_eq_emod (a := x) (b := m)
  have h2 := Int.emod_lt_of_pos x (by omega : 0 < m)
  split at e <;> omega
end Go.Proofs.Ytllnjmpakkodnaa
