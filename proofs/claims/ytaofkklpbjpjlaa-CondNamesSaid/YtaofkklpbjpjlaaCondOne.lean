/-
  The walk of CondOne.
-/
import Derived.Test.YtaofkklpbjpjlaaCondNamed
import Derived.Deep.RegionHeld3
namespace Go.Proofs.Ytaofkklpbjpjlaa
open Go.RowKit

/-- Behind a call that leaves old memory alone flags that were boxed there still stand. -/
theorem boxed5 {W w' w'' : World} {g : Nat} {a b c d e : Value} (h : Below W.heap.size W w' ∧ w'.cell? ⟨g, 0, none⟩ = some a ∧ w'.cell? ⟨g, 1, none⟩ = some b ∧ w'.cell? ⟨g, 2, none⟩ = some c ∧ w'.cell? ⟨g, 3, none⟩ = some d ∧ w'.cell? ⟨g, 4, none⟩ = some e) (hb : Below w'.heap.size w' w'') (hg : g < W.heap.size) :
    Below W.heap.size W w'' ∧ w''.cell? ⟨g, 0, none⟩ = some a ∧ w''.cell? ⟨g, 1, none⟩ = some b ∧ w''.cell? ⟨g, 2, none⟩ = some c ∧ w''.cell? ⟨g, 3, none⟩ = some d ∧ w''.cell? ⟨g, 4, none⟩ = some e := by
  have hs := h.1.size
  have hk : ∀ i, w''.cell? ⟨g, i, none⟩ = w'.cell? ⟨g, i, none⟩ := fun i => hb.cell (p := ⟨g, i, none⟩) (show g < w'.heap.size by omega)
  simp only [hk]
  exact ⟨h.1.trans (hb.mono hs), h.2⟩
theorem boxed5_drew {W w' : World} {g : Nat} {a b c d e : Value} (h : Below W.heap.size W w' ∧ w'.cell? ⟨g, 0, none⟩ = some a ∧ w'.cell? ⟨g, 1, none⟩ = some b ∧ w'.cell? ⟨g, 2, none⟩ = some c ∧ w'.cell? ⟨g, 3, none⟩ = some d ∧ w'.cell? ⟨g, 4, none⟩ = some e) :
    Below W.heap.size W w'.drew ∧ w'.drew.cell? ⟨g, 0, none⟩ = some a ∧ w'.drew.cell? ⟨g, 1, none⟩ = some b ∧ w'.drew.cell? ⟨g, 2, none⟩ = some c ∧ w'.drew.cell? ⟨g, 3, none⟩ = some d ∧ w'.drew.cell? ⟨g, 4, none⟩ = some e := ⟨h.1.drew, h.2⟩
/-- What holds of a condition and its opposite. -/
theorem one_facts {n : Int} (h : isF n = true) (c z s o p : Bool) : 0 ≤ notF n ∧ notF n ≤ 15 ∧ notF n ≠ n ∧ notF (notF n) = n ∧ swapF (swapF n) = n ∧ holdsF (notF n) c z s o p = !holdsF n c z s o p := by
  rcases range16 h with rfl | rfl | rfl | rfl | rfl | rfl | rfl | rfl | rfl | rfl | rfl | rfl | rfl | rfl | rfl | rfl
  all_goals
    clear h
    refine ⟨by decide, by decide, by decide, by decide, by decide, ?_⟩
    revert c z s o p
    decide +kernel
set_option maxHeartbeats 1000000 in
set_option maxRecDepth 100000 in
theorem one_law (n : Int) (c z s o p : Bool) (w : World) :
    Calls Try.prog 4 #[.int .i64 n, FL c z s o p] w fun e w' => e = .returned (.bool true) ∧ Below w.heap.size w w' := by
  cases h : isF n
  · have hN := hid (show notF n = -1 by simp [notF, h])
    have hS := hid (show swapF n = -1 by simp [swapF, h])
    have hH := hid (show holdsF n c z s o p = false by simp [holdsF, h])
    rcases isF_no h with h1 | h1
    all_goals
      clear h
      go_enter Try.func4, Try.ntmps4
      go_wp2_with fail
      refine (awake_any _).mono ?_
      rintro e w1 ⟨rfl, hb1⟩
      have hz : w.heap.size < w1.heap.size := by have := hb1.size; simp at this; omega
      obtain ⟨hc, _⟩ := bcell hb1
      have q0 := hc w.heap.size 0 (by simp)
      have q1 := hc w.heap.size 1 (by simp)
      have q2 := hc w.heap.size 2 (by simp)
      have q3 := hc w.heap.size 3 (by simp)
      have q4 := hc w.heap.size 4 (by simp)
      simp at q0 q1 q2 q3 q4
      have HB := hid (((Below.refl _ _).alloc (Nat.le_refl _) _).trans (hb1.mono (by simp)))
      clear hc hb1
      go_wp2_with (first | (go_at_call 15; refine (not_of hN.out _).mono ?_; rintro e w3 ⟨rfl, rfl⟩) | (go_at_call 17; refine (swap_of hS.out _).mono ?_; rintro e w3 ⟨rfl, rfl⟩) | (go_at_call 19; refine (holds_of hH.out _).mono ?_; rintro e w3 ⟨rfl, hb3⟩))
      go_ret
      exact ⟨rfl, HB.out.trans (hb3.mono HB.out.size)⟩
  · obtain ⟨f1, f2, f3, f4, f5, f6⟩ := one_facts h c z s o p
    have h1 : ¬ (n < 0) := by simp [isF] at h; omega
    have h2 : ¬ (15 < n) := by simp [isF] at h; omega
    clear h
    obtain ⟨m, hm⟩ : ∃ m, notF n = m := ⟨_, rfl⟩
    obtain ⟨q, hq⟩ : ∃ q, swapF n = q := ⟨_, rfl⟩
    obtain ⟨b, hb⟩ : ∃ b, holdsF n c z s o p = b := ⟨_, rfl⟩
    rw [hm] at f1 f2 f3 f4 f6
    rw [hq] at f5
    rw [hb] at f6
    have e3 : (m != n) = true := by simp [f3]
    have HM := hid hm
    have HQ := hid hq
    have HH := hid hb
    have F4 := hid f4
    have F5 := hid f5
    have F6 := hid f6
    clear hm hq hb f4 f5 f6 f3
    go_enter Try.func4, Try.ntmps4
    go_wp2_with fail
    refine (awake_any _).mono ?_
    rintro e w1 ⟨rfl, hb1⟩
    have hz : w.heap.size < w1.heap.size := by have := hb1.size; simp at this; omega
    obtain ⟨hc, _⟩ := bcell hb1
    have q0 := hc w.heap.size 0 (by simp)
    have q1 := hc w.heap.size 1 (by simp)
    have q2 := hc w.heap.size 2 (by simp)
    have q3 := hc w.heap.size 3 (by simp)
    have q4 := hc w.heap.size 4 (by simp)
    simp at q0 q1 q2 q3 q4
    have HB := hid (((Below.refl _ _).alloc (Nat.le_refl _) _).trans (hb1.mono (by simp)))
    clear hc hb1
    generalize hg : w.heap.size = g at *
    have HG := hid hg
    clear hg
    have hS : Below w1.heap.size w1 w1 ∧ w1.cell? ⟨g, 0, none⟩ = some (.bool c) ∧ w1.cell? ⟨g, 1, none⟩ = some (.bool z) ∧ w1.cell? ⟨g, 2, none⟩ = some (.bool s) ∧ w1.cell? ⟨g, 3, none⟩ = some (.bool o) ∧ w1.cell? ⟨g, 4, none⟩ = some (.bool p) := ⟨Below.refl _ _, q0, q1, q2, q3, q4⟩
    clear q0 q1 q2 q3 q4
    go_wp2_with (go_at_call 15; refine (not_of HM.out _).mono ?_; rintro e w3 ⟨rfl, rfl⟩)
    go_region_held3 (fun w' => Below w1.heap.size w1 w' ∧ w'.cell? ⟨g, 0, none⟩ = some (.bool c) ∧ w'.cell? ⟨g, 1, none⟩ = some (.bool z) ∧ w'.cell? ⟨g, 2, none⟩ = some (.bool s) ∧ w'.cell? ⟨g, 3, none⟩ = some (.bool o) ∧ w'.cell? ⟨g, 4, none⟩ = some (.bool p)) (first | assumption | exact boxed5_drew ‹_› | (refine boxed5 ?_ (by assumption) hz; assumption))
      (first | (go_at_call 15; with_reducible refine (not_of F4.out _).mono ?_; rintro e w2 ⟨rfl, rfl⟩) | (go_at_call 17; with_reducible refine (swap_of HQ.out _).mono ?_; rintro e w2 ⟨rfl, rfl⟩) | (go_at_call 17; with_reducible refine (swap_of F5.out _).mono ?_; rintro e w2 ⟨rfl, rfl⟩) | (go_at_call 19; with_reducible refine (holds_of HH.out _).mono ?_; rintro e w2 ⟨rfl, hbel⟩) | (go_at_call 19; with_reducible refine (holds_of F6.out _).mono ?_; rintro e w2 ⟨rfl, hbel⟩))
    have hk := (‹Below w1.heap.size w1 _ ∧ _ ∧ _›).1
    go_wp2
    go_ret
    exact ⟨by cases b <;> rfl, by rw [HG.out]; exact HB.out.trans (hk.mono (Nat.le_of_lt hz))⟩
end Go.Proofs.Ytaofkklpbjpjlaa
