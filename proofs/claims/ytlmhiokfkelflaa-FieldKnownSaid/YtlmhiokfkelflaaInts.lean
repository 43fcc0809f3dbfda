/-
  What the functions on bits do, of package field and of the document's answer: both tell the same numbers.
-/
import Derived.Test.YtlmhiokfkelflaaRows
import Derived.Test.YtlmhiokfkelflaaNum
import Derived.WalkSpells
import Derived.WalkLawsBesides
namespace Go.Proofs.Ytlmhiokfkelflaa
open Go.RowKit

theorem counted_any (b : Int) (w : World) :
    Calls Try.prog 37 #[.int .i64 b] w fun e w' => e = .returned (.bool (bitsOk b)) ∧ w = w' := by
  go_enter Try.func37, Try.ntmps37
  go_wp2
  all_goals (go_ret; exact ⟨ret_b (by unfold bitsOk; rw [Bool.eq_iff_iff]; simp; try omega), rfl⟩)
def sizeOk (b : Int) : Bool := b == 1 || b == 2 || b == 4 || b == 8
theorem sizeOk_iff (b : Int) : sizeOk b = true ↔ b = 1 ∨ b = 2 ∨ b = 4 ∨ b = 8 := by simp [sizeOk, or_assoc]
theorem sizeOk_not (b : Int) : sizeOk b = false ↔ ¬(b = 1 ∨ b = 2 ∨ b = 4 ∨ b = 8) := by rw [← sizeOk_iff]; simp
theorem sized_any (b : Int) (w : World) :
    Calls Try.prog 35 #[.int .i64 b] w fun e w' => e = .returned (.bool (sizeOk b)) ∧ w = w' := by
  go_enter Try.func35, Try.ntmps35
  go_wp2
  all_goals (go_ret; exact ⟨ret_b (by simp_all [sizeOk]), rfl⟩)
theorem rsize_any (b : Int) (w : World) :
    Calls Try.prog 36 #[.int .i64 b] w fun e w' => e = .returned (.bool (sizeOk b)) ∧ w = w' := by
  go_enter Try.func36, Try.ntmps36
  go_wp2
  all_goals (go_ret; exact ⟨ret_b (by simp_all [sizeOk]), rfl⟩)
theorem sign_any (n b : Int) (w : World) :
    Calls Try.prog 20 #[.int .i64 n, .int .i64 b] w fun e w' => e = .returned (.int .i64 (sgn n b)) ∧ w = w' := by
  by_cases h : 1 ≤ b ∧ b ≤ 64
  · have h1 := h.1
    have h2 := h.2
    have H := hid (shift_sgn n b h1 h2)
    have hb : bitsOk b = true := (bitsOk_iff b).2 h
    go_enter Try.func20, Try.ntmps20
    go_wp2_with (go_at_call 37; refine (counted_any _ _).mono ?_; rintro e w' ⟨rfl, rfl⟩)
    go_ret
    exact ⟨ret_i H.out, rfl⟩
  · have hb : bitsOk b = false := (bitsOk_not b).2 h
    have hs : sgn n b = 0 := by unfold sgn; rw [if_neg h]
    clear h
    go_enter Try.func20, Try.ntmps20
    go_wp2_with (go_at_call 37; refine (counted_any _ _).mono ?_; rintro e w' ⟨rfl, rfl⟩)
    go_ret
    exact ⟨ret_i hs.symm, rfl⟩
theorem low_any (n b : Int) (w : World) (hn : I64 n) :
    Calls Try.prog 22 #[.int .i64 n, .int .i64 b] w fun e w' => e = .returned (.int .i64 (low n b)) ∧ w = w' := by
  by_cases h : 1 ≤ b ∧ b ≤ 64
  · have h1 := h.1
    have h2 := h.2
    have H := hid (shift_low n b hn h1 h2)
    have hb : bitsOk b = true := (bitsOk_iff b).2 h
    clear hn
    go_enter Try.func22, Try.ntmps22
    go_wp2_with (go_at_call 37; refine (counted_any _ _).mono ?_; rintro e w' ⟨rfl, rfl⟩)
    go_ret
    exact ⟨ret_i H.out, rfl⟩
  · have hb : bitsOk b = false := (bitsOk_not b).2 h
    have hs : low n b = 0 := by unfold low; rw [if_neg (by omega), if_neg (by omega)]
    clear h hn
    go_enter Try.func22, Try.ntmps22
    go_wp2_with (go_at_call 37; refine (counted_any _ _).mono ?_; rintro e w' ⟨rfl, rfl⟩)
    go_ret
    exact ⟨ret_i hs.symm, rfl⟩
theorem fits_any (n b : Int) (w : World) :
    Calls Try.prog 16 #[.int .i64 n, .int .i64 b] w fun e w' => e = .returned (.bool (fitsB n b)) ∧ w = w' := by
  have hf : ∀ x, fitsB n b = x ↔ (bitsOk b && sgn n b == n) = x := fun x => by unfold fitsB; rfl
  by_cases h : bitsOk b = true
  · have H := hid hf; clear hf
    go_enter Try.func16, Try.ntmps16
    go_wp2_with (first | (go_at_call 37; refine (counted_any _ _).mono ?_; rintro e w' ⟨rfl, rfl⟩) | (go_at_call 20; refine (sign_any _ _ _).mono ?_; rintro e w' ⟨rfl, rfl⟩))
    go_ret
    exact ⟨ret_b (by unfold fitsB; rw [h]; rfl), rfl⟩
  · have h' : bitsOk b = false := by simpa using h
    clear h hf
    go_enter Try.func16, Try.ntmps16
    go_wp2_with (go_at_call 37; refine (counted_any _ _).mono ?_; rintro e w' ⟨rfl, rfl⟩)
    go_ret
    exact ⟨ret_b (by unfold fitsB; rw [h']; rfl), rfl⟩
theorem wide_any (n b : Int) (w : World) (hn : I64 n) :
    Calls Try.prog 18 #[.int .i64 n, .int .i64 b] w fun e w' => e = .returned (.bool (wideB n b)) ∧ w = w' := by
  have HN := hid hn; clear hn
  by_cases h : fitsB n b = true
  · go_enter Try.func18, Try.ntmps18
    go_wp2_with (go_at_call 16; refine (fits_any _ _ _).mono ?_; rintro e w' ⟨rfl, rfl⟩)
    go_ret
    exact ⟨ret_b (by unfold wideB; rw [h]; rfl), rfl⟩
  · have h' : fitsB n b = false := by simpa using h
    clear h
    by_cases hb : bitsOk b = true
    · go_enter Try.func18, Try.ntmps18
      go_wp2_with (first | (go_at_call 16; refine (fits_any _ _ _).mono ?_; rintro e w' ⟨rfl, rfl⟩) | (go_at_call 37; refine (counted_any _ _).mono ?_; rintro e w' ⟨rfl, rfl⟩) | (go_at_call 22; refine (low_any _ _ _ HN.out).mono ?_; rintro e w' ⟨rfl, rfl⟩))
      go_ret
      exact ⟨ret_b (by unfold wideB; rw [h', hb]; rfl), rfl⟩
    · have hb' : bitsOk b = false := by simpa using hb
      clear hb
      go_enter Try.func18, Try.ntmps18
      go_wp2_with (first | (go_at_call 16; refine (fits_any _ _ _).mono ?_; rintro e w' ⟨rfl, rfl⟩) | (go_at_call 37; refine (counted_any _ _).mono ?_; rintro e w' ⟨rfl, rfl⟩))
      go_ret
      exact ⟨ret_b (by unfold wideB; rw [h', hb']; rfl), rfl⟩
end Go.Proofs.Ytlmhiokfkelflaa
