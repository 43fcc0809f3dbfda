/-
  A number in so many bits: the document's Imm, and what it says.
-/
import Derived.Test.YtmlmdbholakioaaImm
namespace Go.Proofs.Ytmlmdbholakioaa
open Go.RowKit

theorem sgn_64 {n : Int} (h : I64 n) : sgn n 64 = n := by
  unfold sgn I64 at *
  rw [if_pos (by omega), show (2 : Int) ^ ((64 : Int).toNat - 1) = 9223372036854775808 from rfl, show (2 : Int) ^ ((64 : Int).toNat) = 18446744073709551616 from rfl]
  omega
theorem low_64 (n : Int) : low n 64 = n := by simp [low]
theorem rimm_not {n b : Int} (s : Bool) (h1 : (b != 8) = true) (h2 : (b != 16) = true) (h3 : (b != 32) = true) (h4 : (b != 64) = true) (w : World) :
    Calls Try.prog 32 #[.int .i64 n, .int .i64 b, .bool s] w fun e w' => e = .returned (.tuple #[.int .i64 0, .int .i64 2]) ∧ w = w' := by
  go_enter Try.func32, Try.ntmps32
  go_wp2
  go_ret2
  exact ⟨rfl, rfl⟩
theorem rimm_64 {n : Int} (s : Bool) (w : World) :
    Calls Try.prog 32 #[.int .i64 n, .int .i64 64, .bool s] w fun e w' => e = .returned (.tuple #[.int .i64 n, .int .i64 0]) ∧ w = w' := by
  go_enter Try.func32, Try.ntmps32
  go_wp2
  go_ret2
  exact ⟨rfl, rfl⟩
theorem sgn_8 (n : Int) : sgn n 8 = (n + 128) % 256 - 128 := by
  unfold sgn
  rw [if_pos (by omega), show (2 : Int) ^ ((8 : Int).toNat - 1) = 128 from rfl, show (2 : Int) ^ ((8 : Int).toNat) = 256 from rfl]
theorem low_8 (n : Int) : low n 8 = n % 256 := by
  unfold low
  rw [if_pos (by omega), show (2 : Int) ^ ((8 : Int).toNat) = 256 from rfl]
theorem rimm_8_below {n : Int} (s : Bool) (h : n < -128) (w : World) :
    Calls Try.prog 32 #[.int .i64 n, .int .i64 8, .bool s] w fun e w' => e = .returned (.tuple #[.int .i64 0, .int .i64 5]) ∧ w = w' := by
  go_enter Try.func32, Try.ntmps32
  go_wp2
  go_ret2
  exact ⟨rfl, rfl⟩
theorem rimm_8_above {n : Int} (s : Bool) (h : 256 ≤ n) (w : World) :
    Calls Try.prog 32 #[.int .i64 n, .int .i64 8, .bool s] w fun e w' => e = .returned (.tuple #[.int .i64 0, .int .i64 5]) ∧ w = w' := by
  go_enter Try.func32, Try.ntmps32
  go_wp2
  go_ret2
  exact ⟨rfl, rfl⟩
theorem rimm_8_cut {n : Int} (h1 : 128 ≤ n) (h2 : n < 256) (w : World) :
    Calls Try.prog 32 #[.int .i64 n, .int .i64 8, .bool true] w fun e w' => e = .returned (.tuple #[.int .i64 (n - 256), .int .i64 0]) ∧ w = w' := by
  go_enter Try.func32, Try.ntmps32
  go_wp2
  go_ret2
  exact ⟨rfl, rfl⟩
theorem rimm_8_yes {n : Int} (h1 : -128 ≤ n) (h2 : n < 128) (w : World) :
    Calls Try.prog 32 #[.int .i64 n, .int .i64 8, .bool true] w fun e w' => e = .returned (.tuple #[.int .i64 n, .int .i64 0]) ∧ w = w' := by
  go_enter Try.func32, Try.ntmps32
  go_wp2
  go_ret2
  exact ⟨rfl, rfl⟩
theorem rimm_8_put {n : Int} (h1 : -128 ≤ n) (h2 : n < 0) (w : World) :
    Calls Try.prog 32 #[.int .i64 n, .int .i64 8, .bool false] w fun e w' => e = .returned (.tuple #[.int .i64 (n + 256), .int .i64 0]) ∧ w = w' := by
  go_enter Try.func32, Try.ntmps32
  go_wp2
  go_ret2
  exact ⟨rfl, rfl⟩
theorem rimm_8_no {n : Int} (h1 : 0 ≤ n) (h2 : n < 256) (w : World) :
    Calls Try.prog 32 #[.int .i64 n, .int .i64 8, .bool false] w fun e w' => e = .returned (.tuple #[.int .i64 n, .int .i64 0]) ∧ w = w' := by
  go_enter Try.func32, Try.ntmps32
  go_wp2
  go_ret2
  exact ⟨rfl, rfl⟩
theorem rimm_8_of {n v e' : Int} {s : Bool} (hv : immV n 8 s = v) (he : immE n 8 = e') (w : World) :
    Calls Try.prog 32 #[.int .i64 n, .int .i64 8, .bool s] w fun e w' => e = .returned (.tuple #[.int .i64 v, .int .i64 e']) ∧ w = w' := by
  have hw : fourW 8 = true := rfl
  unfold immV at hv
  unfold immE at he
  rw [if_pos hw] at hv he
  rw [sgn_8, low_8] at hv he
  rcases show n < -128 ∨ 256 ≤ n ∨ (-128 ≤ n ∧ n < 256) by omega with h | h | ⟨h1, h2⟩
  · have hc : ¬ n = (n + 128) % 256 - 128 ∧ ¬ n = n % 256 := by omega
    rw [if_pos hc] at hv he
    subst hv he
    exact rimm_8_below s h w
  · have hc : ¬ n = (n + 128) % 256 - 128 ∧ ¬ n = n % 256 := by omega
    rw [if_pos hc] at hv he
    subst hv he
    exact rimm_8_above s h w
  · have hc : ¬ (¬ n = (n + 128) % 256 - 128 ∧ ¬ n = n % 256) := by omega
    rw [if_neg hc] at hv he
    subst he
    cases s
    · rw [if_neg (by decide)] at hv
      by_cases h3 : n < 0
      · obtain rfl : n + 256 = v := by omega
        exact rimm_8_put h1 h3 w
      · obtain rfl : n = v := by omega
        exact rimm_8_no (by omega) h2 w
    · rw [if_pos rfl] at hv
      by_cases h3 : n < 128
      · obtain rfl : n = v := by omega
        exact rimm_8_yes h1 h3 w
      · obtain rfl : n - 256 = v := by omega
        exact rimm_8_cut (by omega) h2 w
theorem sgn_16 (n : Int) : sgn n 16 = (n + 32768) % 65536 - 32768 := by
  unfold sgn
  rw [if_pos (by omega), show (2 : Int) ^ ((16 : Int).toNat - 1) = 32768 from rfl, show (2 : Int) ^ ((16 : Int).toNat) = 65536 from rfl]
theorem low_16 (n : Int) : low n 16 = n % 65536 := by
  unfold low
  rw [if_pos (by omega), show (2 : Int) ^ ((16 : Int).toNat) = 65536 from rfl]
theorem rimm_16_below {n : Int} (s : Bool) (h : n < -32768) (w : World) :
    Calls Try.prog 32 #[.int .i64 n, .int .i64 16, .bool s] w fun e w' => e = .returned (.tuple #[.int .i64 0, .int .i64 5]) ∧ w = w' := by
  go_enter Try.func32, Try.ntmps32
  go_wp2
  go_ret2
  exact ⟨rfl, rfl⟩
theorem rimm_16_above {n : Int} (s : Bool) (h : 65536 ≤ n) (w : World) :
    Calls Try.prog 32 #[.int .i64 n, .int .i64 16, .bool s] w fun e w' => e = .returned (.tuple #[.int .i64 0, .int .i64 5]) ∧ w = w' := by
  go_enter Try.func32, Try.ntmps32
  go_wp2
  go_ret2
  exact ⟨rfl, rfl⟩
theorem rimm_16_cut {n : Int} (h1 : 32768 ≤ n) (h2 : n < 65536) (w : World) :
    Calls Try.prog 32 #[.int .i64 n, .int .i64 16, .bool true] w fun e w' => e = .returned (.tuple #[.int .i64 (n - 65536), .int .i64 0]) ∧ w = w' := by
  go_enter Try.func32, Try.ntmps32
  go_wp2
  go_ret2
  exact ⟨rfl, rfl⟩
theorem rimm_16_yes {n : Int} (h1 : -32768 ≤ n) (h2 : n < 32768) (w : World) :
    Calls Try.prog 32 #[.int .i64 n, .int .i64 16, .bool true] w fun e w' => e = .returned (.tuple #[.int .i64 n, .int .i64 0]) ∧ w = w' := by
  go_enter Try.func32, Try.ntmps32
  go_wp2
  go_ret2
  exact ⟨rfl, rfl⟩
theorem rimm_16_put {n : Int} (h1 : -32768 ≤ n) (h2 : n < 0) (w : World) :
    Calls Try.prog 32 #[.int .i64 n, .int .i64 16, .bool false] w fun e w' => e = .returned (.tuple #[.int .i64 (n + 65536), .int .i64 0]) ∧ w = w' := by
  go_enter Try.func32, Try.ntmps32
  go_wp2
  go_ret2
  exact ⟨rfl, rfl⟩
theorem rimm_16_no {n : Int} (h1 : 0 ≤ n) (h2 : n < 65536) (w : World) :
    Calls Try.prog 32 #[.int .i64 n, .int .i64 16, .bool false] w fun e w' => e = .returned (.tuple #[.int .i64 n, .int .i64 0]) ∧ w = w' := by
  go_enter Try.func32, Try.ntmps32
  go_wp2
  go_ret2
  exact ⟨rfl, rfl⟩
theorem rimm_16_of {n v e' : Int} {s : Bool} (hv : immV n 16 s = v) (he : immE n 16 = e') (w : World) :
    Calls Try.prog 32 #[.int .i64 n, .int .i64 16, .bool s] w fun e w' => e = .returned (.tuple #[.int .i64 v, .int .i64 e']) ∧ w = w' := by
  have hw : fourW 16 = true := rfl
  unfold immV at hv
  unfold immE at he
  rw [if_pos hw] at hv he
  rw [sgn_16, low_16] at hv he
  rcases show n < -32768 ∨ 65536 ≤ n ∨ (-32768 ≤ n ∧ n < 65536) by omega with h | h | ⟨h1, h2⟩
  · have hc : ¬ n = (n + 32768) % 65536 - 32768 ∧ ¬ n = n % 65536 := by omega
    rw [if_pos hc] at hv he
    subst hv he
    exact rimm_16_below s h w
  · have hc : ¬ n = (n + 32768) % 65536 - 32768 ∧ ¬ n = n % 65536 := by omega
    rw [if_pos hc] at hv he
    subst hv he
    exact rimm_16_above s h w
  · have hc : ¬ (¬ n = (n + 32768) % 65536 - 32768 ∧ ¬ n = n % 65536) := by omega
    rw [if_neg hc] at hv he
    subst he
    cases s
    · rw [if_neg (by decide)] at hv
      by_cases h3 : n < 0
      · obtain rfl : n + 65536 = v := by omega
        exact rimm_16_put h1 h3 w
      · obtain rfl : n = v := by omega
        exact rimm_16_no (by omega) h2 w
    · rw [if_pos rfl] at hv
      by_cases h3 : n < 32768
      · obtain rfl : n = v := by omega
        exact rimm_16_yes h1 h3 w
      · obtain rfl : n - 65536 = v := by omega
        exact rimm_16_cut (by omega) h2 w
theorem sgn_32 (n : Int) : sgn n 32 = (n + 2147483648) % 4294967296 - 2147483648 := by
  unfold sgn
  rw [if_pos (by omega), show (2 : Int) ^ ((32 : Int).toNat - 1) = 2147483648 from rfl, show (2 : Int) ^ ((32 : Int).toNat) = 4294967296 from rfl]
theorem low_32 (n : Int) : low n 32 = n % 4294967296 := by
  unfold low
  rw [if_pos (by omega), show (2 : Int) ^ ((32 : Int).toNat) = 4294967296 from rfl]
theorem rimm_32_below {n : Int} (s : Bool) (h : n < -2147483648) (w : World) :
    Calls Try.prog 32 #[.int .i64 n, .int .i64 32, .bool s] w fun e w' => e = .returned (.tuple #[.int .i64 0, .int .i64 5]) ∧ w = w' := by
  go_enter Try.func32, Try.ntmps32
  go_wp2
  go_ret2
  exact ⟨rfl, rfl⟩
theorem rimm_32_above {n : Int} (s : Bool) (h : 4294967296 ≤ n) (w : World) :
    Calls Try.prog 32 #[.int .i64 n, .int .i64 32, .bool s] w fun e w' => e = .returned (.tuple #[.int .i64 0, .int .i64 5]) ∧ w = w' := by
  go_enter Try.func32, Try.ntmps32
  go_wp2
  go_ret2
  exact ⟨rfl, rfl⟩
theorem rimm_32_cut {n : Int} (h1 : 2147483648 ≤ n) (h2 : n < 4294967296) (w : World) :
    Calls Try.prog 32 #[.int .i64 n, .int .i64 32, .bool true] w fun e w' => e = .returned (.tuple #[.int .i64 (n - 4294967296), .int .i64 0]) ∧ w = w' := by
  go_enter Try.func32, Try.ntmps32
  go_wp2
  go_ret2
  exact ⟨rfl, rfl⟩
theorem rimm_32_yes {n : Int} (h1 : -2147483648 ≤ n) (h2 : n < 2147483648) (w : World) :
    Calls Try.prog 32 #[.int .i64 n, .int .i64 32, .bool true] w fun e w' => e = .returned (.tuple #[.int .i64 n, .int .i64 0]) ∧ w = w' := by
  go_enter Try.func32, Try.ntmps32
  go_wp2
  go_ret2
  exact ⟨rfl, rfl⟩
theorem rimm_32_put {n : Int} (h1 : -2147483648 ≤ n) (h2 : n < 0) (w : World) :
    Calls Try.prog 32 #[.int .i64 n, .int .i64 32, .bool false] w fun e w' => e = .returned (.tuple #[.int .i64 (n + 4294967296), .int .i64 0]) ∧ w = w' := by
  go_enter Try.func32, Try.ntmps32
  go_wp2
  go_ret2
  exact ⟨rfl, rfl⟩
theorem rimm_32_no {n : Int} (h1 : 0 ≤ n) (h2 : n < 4294967296) (w : World) :
    Calls Try.prog 32 #[.int .i64 n, .int .i64 32, .bool false] w fun e w' => e = .returned (.tuple #[.int .i64 n, .int .i64 0]) ∧ w = w' := by
  go_enter Try.func32, Try.ntmps32
  go_wp2
  go_ret2
  exact ⟨rfl, rfl⟩
theorem rimm_32_of {n v e' : Int} {s : Bool} (hv : immV n 32 s = v) (he : immE n 32 = e') (w : World) :
    Calls Try.prog 32 #[.int .i64 n, .int .i64 32, .bool s] w fun e w' => e = .returned (.tuple #[.int .i64 v, .int .i64 e']) ∧ w = w' := by
  have hw : fourW 32 = true := rfl
  unfold immV at hv
  unfold immE at he
  rw [if_pos hw] at hv he
  rw [sgn_32, low_32] at hv he
  rcases show n < -2147483648 ∨ 4294967296 ≤ n ∨ (-2147483648 ≤ n ∧ n < 4294967296) by omega with h | h | ⟨h1, h2⟩
  · have hc : ¬ n = (n + 2147483648) % 4294967296 - 2147483648 ∧ ¬ n = n % 4294967296 := by omega
    rw [if_pos hc] at hv he
    subst hv he
    exact rimm_32_below s h w
  · have hc : ¬ n = (n + 2147483648) % 4294967296 - 2147483648 ∧ ¬ n = n % 4294967296 := by omega
    rw [if_pos hc] at hv he
    subst hv he
    exact rimm_32_above s h w
  · have hc : ¬ (¬ n = (n + 2147483648) % 4294967296 - 2147483648 ∧ ¬ n = n % 4294967296) := by omega
    rw [if_neg hc] at hv he
    subst he
    cases s
    · rw [if_neg (by decide)] at hv
      by_cases h3 : n < 0
      · obtain rfl : n + 4294967296 = v := by omega
        exact rimm_32_put h1 h3 w
      · obtain rfl : n = v := by omega
        exact rimm_32_no (by omega) h2 w
    · rw [if_pos rfl] at hv
      by_cases h3 : n < 2147483648
      · obtain rfl : n = v := by omega
        exact rimm_32_yes h1 h3 w
      · obtain rfl : n - 4294967296 = v := by omega
        exact rimm_32_cut (by omega) h2 w
theorem rimm_of {n b v e' : Int} {s : Bool} (hn : I64 n) (hv : immV n b s = v) (he : immE n b = e') (w : World) :
    Calls Try.prog 32 #[.int .i64 n, .int .i64 b, .bool s] w fun e w' => e = .returned (.tuple #[.int .i64 v, .int .i64 e']) ∧ w = w' := by
  by_cases h1 : b = 8
  · subst h1; exact rimm_8_of hv he w
  by_cases h2 : b = 16
  · subst h2; exact rimm_16_of hv he w
  by_cases h3 : b = 32
  · subst h3; exact rimm_32_of hv he w
  by_cases h4 : b = 64
  · subst h4
    have hw : fourW 64 = true := rfl
    have hc : ¬ (¬ n = n ∧ ¬ n = n) := fun h => h.1 rfl
    rw [immV, if_pos hw, sgn_64 hn, low_64, if_neg hc, ite_self] at hv
    rw [immE, if_pos hw, sgn_64 hn, low_64, if_neg hc] at he
    subst hv he
    exact rimm_64 s w
  · have hw : ¬ fourW b = true := by simp [fourW, h1, h2, h3, h4]
    rw [immV, if_neg hw] at hv
    rw [immE, if_neg hw] at he
    subst hv he
    exact rimm_not s (bne_iff_ne.2 h1) (bne_iff_ne.2 h2) (bne_iff_ne.2 h3) (bne_iff_ne.2 h4) w
end Go.Proofs.Ytmlmdbholakioaa
