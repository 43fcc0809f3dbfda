/-
  Package rex' functions on numbers, and the document's: what a REX is, its bits, the REX of bits; which prefixes may be.
-/
import Derived.Test.YtgioggpehlhbfaaCell
import Derived.BigQuiet
namespace Go.Proofs.Ytgioggpehlhbfaa
open Go.RowKit
set_option maxRecDepth 100000

theorem results_tmp4 {fn : Func} {t u v s : Tmp} (h : fn.results = #[.tmp t, .tmp u, .tmp v, .tmp s]) (tmps : Array Value) (P : Program) (w : World) :
    (results fn tmps).run P w = .ok (.tuple #[tmps.getD t undef, tmps.getD u undef, tmps.getD v undef, tmps.getD s undef]) w := by
  simp [results, h]
/-- Is it a REX? -/
def isF (n : Int) : Bool := decide (0 ≤ n) && decide (n ≤ 15)
theorem isF_yes {n : Int} (h : isF n = true) : 0 ≤ n ∧ n ≤ 15 := by simp [isF] at h; omega
theorem isF_no {n : Int} (h : isF n = false) : n < 0 ∨ 15 < n := by simp [isF] at h; omega
theorem is_any (n : Int) (w : World) :
    Calls Try.prog 24 #[.int .i64 n] w fun e w' => e = .returned (.bool (isF n)) ∧ w = w' := by
  by_cases h1 : 0 ≤ n
  · go_enter Try.func24, Try.ntmps24
    go_wp2
    all_goals go_returns
    all_goals exact ⟨by simp_all [isF], rfl⟩
  · go_enter Try.func24, Try.ntmps24
    go_wp2
    all_goals go_returns
    all_goals exact ⟨by simp [isF]; omega, rfl⟩
theorem is_of {n : Int} {b : Bool} (h : isF n = b) (w : World) :
    Calls Try.prog 24 #[.int .i64 n] w fun e w' => e = .returned (.bool b) ∧ w = w' := by
  have := is_any n w
  rw [h] at this
  exact this
/-- May these prefixes be? -/
def validF (n : Int) : Bool := decide (0 ≤ n) && decide (n ≤ 5)
theorem validF_yes {n : Int} (h : validF n = true) : n = 0 ∨ n = 1 ∨ n = 2 ∨ n = 3 ∨ n = 4 ∨ n = 5 := by simp [validF] at h; omega
theorem validF_no {n : Int} (h : validF n = false) : n < 0 ∨ n = 6 ∨ n = 7 ∨ 7 < n := by simp [validF] at h; omega
theorem valid_any (n : Int) (w : World) :
    Calls Try.prog 23 #[.int .i64 n] w fun e w' => e = .returned (.bool (validF n)) ∧ w = w' := by
  cases h : validF n
  · rcases validF_no h with h1 | rfl | rfl | h1
    · clear h
      go_enter Try.func23, Try.ntmps23
      go_wp2
      go_ret
      exact ⟨rfl, rfl⟩
    · go_enter Try.func23, Try.ntmps23
      go_wp2
      go_ret
      exact ⟨rfl, rfl⟩
    · go_enter Try.func23, Try.ntmps23
      go_wp2
      go_ret
      exact ⟨rfl, rfl⟩
    · clear h
      go_enter Try.func23, Try.ntmps23
      go_wp2
      go_ret
      exact ⟨rfl, rfl⟩
  · rcases validF_yes h with rfl | rfl | rfl | rfl | rfl | rfl
    all_goals
      go_enter Try.func23, Try.ntmps23
      go_wp2
      go_ret
      exact ⟨rfl, rfl⟩
theorem valid_of {n : Int} {b : Bool} (h : validF n = b) (w : World) :
    Calls Try.prog 23 #[.int .i64 n] w fun e w' => e = .returned (.bool b) ∧ w = w' := by
  have := valid_any n w
  rw [h] at this
  exact this
/-- A bit. -/
def bitF (n : Int) : Bool := n == 0 || n == 1
theorem bit_any (n : Int) (w : World) :
    Calls Try.prog 27 #[.int .i64 n] w fun e w' => e = .returned (.bool (bitF n)) ∧ w = w' := by
  by_cases h1 : n = 0
  · subst h1
    go_enter Try.func27, Try.ntmps27
    go_wp2
    go_ret
    exact ⟨rfl, rfl⟩
  · have h2 : (n == 0) = false := by simpa using h1
    go_enter Try.func27, Try.ntmps27
    go_wp2
    all_goals go_returns
    all_goals exact ⟨by simp [bitF, *], rfl⟩
theorem bit_of {n : Int} {b : Bool} (h : bitF n = b) (w : World) :
    Calls Try.prog 27 #[.int .i64 n] w fun e w' => e = .returned (.bool b) ∧ w = w' := by
  have := bit_any n w
  rw [h] at this
  exact this
/-- The REX of bits. -/
def rexF (w r x b : Int) : Int := if bitF w && bitF r && bitF x && bitF b then 8 * w + 4 * r + 2 * x + b else -1
/-- The bits of a REX. -/
def bW (n : Int) : Int := if isF n then n / 8 else 0
def bR (n : Int) : Int := if isF n then n / 4 % 2 else 0
def bX (n : Int) : Int := if isF n then n / 2 % 2 else 0
def bB (n : Int) : Int := if isF n then n % 2 else 0
theorem bitF_iff {n : Int} : bitF n = true ↔ n = 0 ∨ n = 1 := by simp [bitF]
theorem bits_rex {n : Int} (h : 0 ≤ n ∧ n ≤ 15) : rexF (bW n) (bR n) (bX n) (bB n) = n := by
  have h1 : isF n = true := by simp [isF]; omega
  unfold bW bR bX bB rexF
  simp only [h1, if_true]
  have b1 : bitF (n / 8) = true := bitF_iff.2 (by omega)
  have b2 : bitF (n / 4 % 2) = true := bitF_iff.2 (by omega)
  have b3 : bitF (n / 2 % 2) = true := bitF_iff.2 (by omega)
  have b4 : bitF (n % 2) = true := bitF_iff.2 (by omega)
  simp only [b1, b2, b3, b4, Bool.and_self, if_true]
  omega
theorem rbits_any (n : Int) (w : World) :
    Calls Try.prog 12 #[.int .i64 n] w fun e w' => e = .returned (.tuple #[.int .i64 (bW n), .int .i64 (bR n), .int .i64 (bX n), .int .i64 (bB n)]) ∧ w = w' := by
  cases h : isF n
  · have H := hid (show bW n = 0 ∧ bR n = 0 ∧ bX n = 0 ∧ bB n = 0 by simp [bW, bR, bX, bB, h])
    rcases isF_no h with h1 | h1
    all_goals
      clear h
      go_enter Try.func12, Try.ntmps12
      go_wp2
      (try simp only [Exit.inBlock, Exit.then]); refine bodyPost_ret (results_tmp4 rfl _ _ _) rfl ?_
      obtain ⟨H1, H2, H3, H4⟩ := H.out
      exact ⟨by rw [H1, H2, H3, H4]; rfl, rfl⟩
  · have H := hid (show bW n = n / 8 ∧ bR n = n / 4 % 2 ∧ bX n = n / 2 % 2 ∧ bB n = n % 2 by simp [bW, bR, bX, bB, h])
    have h1 := isF_yes h
    clear h
    go_enter Try.func12, Try.ntmps12
    go_wp2
    (try simp only [Exit.inBlock, Exit.then]); refine bodyPost_ret (results_tmp4 rfl _ _ _) rfl ?_
    obtain ⟨H1, H2, H3, H4⟩ := H.out
    exact ⟨by rw [H1, H2, H3, H4]; rfl, rfl⟩
end Go.Proofs.Ytgioggpehlhbfaa
