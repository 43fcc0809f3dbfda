/-
  Conditions: the document's small functions.
-/
import Derived.Test.YtaofkklpbjpjlaaCond
namespace Go.Proofs.Ytaofkklpbjpjlaa
open Go.RowKit

theorem rnot_any (n : Int) (w : World) (hn : I64 n) :
    Calls Try.prog 16 #[.int .i64 n] w fun e w' => e = .returned (.int .i64 (notF n)) ∧ w = w' := by
  cases h : isF n
  · have H := hid h
    rcases isF_no h with h1 | h1
    all_goals
      clear h
      go_enter Try.func16, Try.ntmps16
      go_wp2
      go_returns
      exact ⟨by simp [notF, H.out], rfl⟩
  · rcases range16 h with rfl | rfl | rfl | rfl | rfl | rfl | rfl | rfl | rfl | rfl | rfl | rfl | rfl | rfl | rfl | rfl
    all_goals
      clear h
      go_enter Try.func16, Try.ntmps16
      go_wp2
      go_returns
      exact ⟨ret_i (by decide +kernel), rfl⟩
theorem rswap_any (n : Int) (w : World) :
    Calls Try.prog 18 #[.int .i64 n] w fun e w' => e = .returned (.int .i64 (swapF n)) ∧ w = w' := by
  cases h : isF n
  · have H := hid h
    rcases isF_no h with h1 | h1
    all_goals
      clear h
      go_enter Try.func18, Try.ntmps18
      go_wp2
      go_returns
      exact ⟨by simp [swapF, H.out], rfl⟩
  · rcases range16 h with rfl | rfl | rfl | rfl | rfl | rfl | rfl | rfl | rfl | rfl | rfl | rfl | rfl | rfl | rfl | rfl
    all_goals
      clear h
      go_enter Try.func18, Try.ntmps18
      go_wp2
      go_returns
      exact ⟨ret_i (by decide +kernel), rfl⟩
set_option maxHeartbeats 1000000 in
theorem even_any (k : Int) (c z s o p : Bool) (w : World) (hk : 0 ≤ k ∧ k < 8) :
    Calls Try.prog 28 #[.int .i64 (2 * k), FL c z s o p] w fun e w' => e = .returned (.bool (evenF k c z s o p)) ∧ Below w.heap.size w w' := by
  have : k = 0 ∨ k = 1 ∨ k = 2 ∨ k = 3 ∨ k = 4 ∨ k = 5 ∨ k = 6 ∨ k = 7 := by omega
  clear hk
  rcases this with rfl | rfl | rfl | rfl | rfl | rfl | rfl | rfl
  all_goals simp only [Int.reduceMul]
  all_goals
    go_enter Try.func28, Try.ntmps28
    go_wp2
    all_goals go_returns
    all_goals exact ⟨by simp_all [evenF]; try (cases s <;> cases o <;> rfl), by go_grown⟩
theorem even_of (m : Int) {k : Int} (hm : m = 2 * k) (c z s o p : Bool) (w : World) (hk : 0 ≤ k ∧ k < 8) :
    Calls Try.prog 28 #[.int .i64 m, FL c z s o p] w fun e w' => e = .returned (.bool (evenF k c z s o p)) ∧ Below w.heap.size w w' := by
  subst hm
  exact even_any k c z s o p w hk
set_option maxHeartbeats 1000000 in
theorem rholds_any (n : Int) (c z s o p : Bool) (w : World) :
    Calls Try.prog 20 #[.int .i64 n, FL c z s o p] w fun e w' => e = .returned (.bool (holdsF n c z s o p)) ∧ Below w.heap.size w w' := by
  cases h : isF n
  · have H := hid h
    rcases isF_no h with h1 | h1
    all_goals
      clear h
      go_enter Try.func20, Try.ntmps20
      go_wp2
      go_returns
      exact ⟨by simp [holdsF, H.out], by go_grown⟩
  · rcases range16 h with rfl | rfl | rfl | rfl | rfl | rfl | rfl | rfl | rfl | rfl | rfl | rfl | rfl | rfl | rfl | rfl
    · clear h
      go_enter Try.func20, Try.ntmps20
      go_wp2_with (go_at_call 28; refine (even_of 0 (k := 0) (by decide) c z s o p _ (by decide)).mono ?_; rintro e w1 ⟨rfl, hb1⟩)
      go_returns
      exact ⟨by simp [holdsF, evenF, isF], ((Below.refl _ _).alloc (Nat.le_refl _) _).trans (hb1.mono (by simp))⟩
    · clear h
      go_enter Try.func20, Try.ntmps20
      go_wp2_with (go_at_call 28; refine (even_of 0 (k := 0) (by decide) c z s o p _ (by decide)).mono ?_; rintro e w1 ⟨rfl, hb1⟩)
      go_returns
      exact ⟨by simp [holdsF, evenF, isF], ((Below.refl _ _).alloc (Nat.le_refl _) _).trans (hb1.mono (by simp))⟩
    · clear h
      go_enter Try.func20, Try.ntmps20
      go_wp2_with (go_at_call 28; refine (even_of 2 (k := 1) (by decide) c z s o p _ (by decide)).mono ?_; rintro e w1 ⟨rfl, hb1⟩)
      go_returns
      exact ⟨by simp [holdsF, evenF, isF], ((Below.refl _ _).alloc (Nat.le_refl _) _).trans (hb1.mono (by simp))⟩
    · clear h
      go_enter Try.func20, Try.ntmps20
      go_wp2_with (go_at_call 28; refine (even_of 2 (k := 1) (by decide) c z s o p _ (by decide)).mono ?_; rintro e w1 ⟨rfl, hb1⟩)
      go_returns
      exact ⟨by simp [holdsF, evenF, isF], ((Below.refl _ _).alloc (Nat.le_refl _) _).trans (hb1.mono (by simp))⟩
    · clear h
      go_enter Try.func20, Try.ntmps20
      go_wp2_with (go_at_call 28; refine (even_of 4 (k := 2) (by decide) c z s o p _ (by decide)).mono ?_; rintro e w1 ⟨rfl, hb1⟩)
      go_returns
      exact ⟨by simp [holdsF, evenF, isF], ((Below.refl _ _).alloc (Nat.le_refl _) _).trans (hb1.mono (by simp))⟩
    · clear h
      go_enter Try.func20, Try.ntmps20
      go_wp2_with (go_at_call 28; refine (even_of 4 (k := 2) (by decide) c z s o p _ (by decide)).mono ?_; rintro e w1 ⟨rfl, hb1⟩)
      go_returns
      exact ⟨by simp [holdsF, evenF, isF], ((Below.refl _ _).alloc (Nat.le_refl _) _).trans (hb1.mono (by simp))⟩
    · clear h
      go_enter Try.func20, Try.ntmps20
      go_wp2_with (go_at_call 28; refine (even_of 6 (k := 3) (by decide) c z s o p _ (by decide)).mono ?_; rintro e w1 ⟨rfl, hb1⟩)
      go_returns
      exact ⟨by simp [holdsF, evenF, isF], ((Below.refl _ _).alloc (Nat.le_refl _) _).trans (hb1.mono (by simp))⟩
    · clear h
      go_enter Try.func20, Try.ntmps20
      go_wp2_with (go_at_call 28; refine (even_of 6 (k := 3) (by decide) c z s o p _ (by decide)).mono ?_; rintro e w1 ⟨rfl, hb1⟩)
      go_returns
      exact ⟨by simp [holdsF, evenF, isF], ((Below.refl _ _).alloc (Nat.le_refl _) _).trans (hb1.mono (by simp))⟩
    · clear h
      go_enter Try.func20, Try.ntmps20
      go_wp2_with (go_at_call 28; refine (even_of 8 (k := 4) (by decide) c z s o p _ (by decide)).mono ?_; rintro e w1 ⟨rfl, hb1⟩)
      go_returns
      exact ⟨by simp [holdsF, evenF, isF], ((Below.refl _ _).alloc (Nat.le_refl _) _).trans (hb1.mono (by simp))⟩
    · clear h
      go_enter Try.func20, Try.ntmps20
      go_wp2_with (go_at_call 28; refine (even_of 8 (k := 4) (by decide) c z s o p _ (by decide)).mono ?_; rintro e w1 ⟨rfl, hb1⟩)
      go_returns
      exact ⟨by simp [holdsF, evenF, isF], ((Below.refl _ _).alloc (Nat.le_refl _) _).trans (hb1.mono (by simp))⟩
    · clear h
      go_enter Try.func20, Try.ntmps20
      go_wp2_with (go_at_call 28; refine (even_of 10 (k := 5) (by decide) c z s o p _ (by decide)).mono ?_; rintro e w1 ⟨rfl, hb1⟩)
      go_returns
      exact ⟨by simp [holdsF, evenF, isF], ((Below.refl _ _).alloc (Nat.le_refl _) _).trans (hb1.mono (by simp))⟩
    · clear h
      go_enter Try.func20, Try.ntmps20
      go_wp2_with (go_at_call 28; refine (even_of 10 (k := 5) (by decide) c z s o p _ (by decide)).mono ?_; rintro e w1 ⟨rfl, hb1⟩)
      go_returns
      exact ⟨by simp [holdsF, evenF, isF], ((Below.refl _ _).alloc (Nat.le_refl _) _).trans (hb1.mono (by simp))⟩
    · clear h
      go_enter Try.func20, Try.ntmps20
      go_wp2_with (go_at_call 28; refine (even_of 12 (k := 6) (by decide) c z s o p _ (by decide)).mono ?_; rintro e w1 ⟨rfl, hb1⟩)
      go_returns
      exact ⟨by simp [holdsF, evenF, isF], ((Below.refl _ _).alloc (Nat.le_refl _) _).trans (hb1.mono (by simp))⟩
    · clear h
      go_enter Try.func20, Try.ntmps20
      go_wp2_with (go_at_call 28; refine (even_of 12 (k := 6) (by decide) c z s o p _ (by decide)).mono ?_; rintro e w1 ⟨rfl, hb1⟩)
      go_returns
      exact ⟨by simp [holdsF, evenF, isF], ((Below.refl _ _).alloc (Nat.le_refl _) _).trans (hb1.mono (by simp))⟩
    · clear h
      go_enter Try.func20, Try.ntmps20
      go_wp2_with (go_at_call 28; refine (even_of 14 (k := 7) (by decide) c z s o p _ (by decide)).mono ?_; rintro e w1 ⟨rfl, hb1⟩)
      go_returns
      exact ⟨by simp [holdsF, evenF, isF], ((Below.refl _ _).alloc (Nat.le_refl _) _).trans (hb1.mono (by simp))⟩
    · clear h
      go_enter Try.func20, Try.ntmps20
      go_wp2_with (go_at_call 28; refine (even_of 14 (k := 7) (by decide) c z s o p _ (by decide)).mono ?_; rintro e w1 ⟨rfl, hb1⟩)
      go_returns
      exact ⟨by simp [holdsF, evenF, isF], ((Below.refl _ _).alloc (Nat.le_refl _) _).trans (hb1.mono (by simp))⟩
end Go.Proofs.Ytaofkklpbjpjlaa
