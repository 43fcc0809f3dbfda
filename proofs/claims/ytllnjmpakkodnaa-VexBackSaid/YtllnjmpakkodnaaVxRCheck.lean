/-
  Check: the document's.
-/
import Derived.Test.YtllnjmpakkodnaaVxCheck
namespace Go.Proofs.Ytllnjmpakkodnaa
open Go.RowKit
set_option maxRecDepth 100000

set_option maxHeartbeats 1000000 in
theorem rcheck_b0 (r x b m n v l p : Int) (E0 : Hid (bitF r = false)) (w : World) :
    Calls Try.prog 10 #[.agg (VC r x b m n v l p)] w fun e w' => e = .returned (.int .i64 2) ∧ Below w.heap.size w w' := by
  have HO := hid ((Own.nil w).alloc w.heap.size (VC r x b m n v l p) 23 rfl)
  go_enter Try.func10, Try.ntmps10
  go_wp2_with (first | (go_at_call 29; (with_reducible refine (bit_of E0.out _).mono ?_); rintro e w1 ⟨rfl, rfl⟩))
  all_goals go_ret
  all_goals exact ⟨rfl, HO.out.below⟩
set_option maxHeartbeats 1000000 in
theorem rcheck_b1 (r x b m n v l p : Int) (E0 : Hid (bitF r = true)) (E1 : Hid (bitF x = false)) (w : World) :
    Calls Try.prog 10 #[.agg (VC r x b m n v l p)] w fun e w' => e = .returned (.int .i64 2) ∧ Below w.heap.size w w' := by
  have HO := hid ((Own.nil w).alloc w.heap.size (VC r x b m n v l p) 23 rfl)
  go_enter Try.func10, Try.ntmps10
  go_wp2_with (first | (go_at_call 29; (with_reducible refine (bit_of E0.out _).mono ?_); rintro e w1 ⟨rfl, rfl⟩) | (go_at_call 29; (with_reducible refine (bit_of E1.out _).mono ?_); rintro e w1 ⟨rfl, rfl⟩))
  all_goals go_ret
  all_goals exact ⟨rfl, HO.out.below⟩
set_option maxHeartbeats 1000000 in
theorem rcheck_b2 (r x b m n v l p : Int) (E0 : Hid (bitF r = true)) (E1 : Hid (bitF x = true)) (E2 : Hid (bitF b = false)) (w : World) :
    Calls Try.prog 10 #[.agg (VC r x b m n v l p)] w fun e w' => e = .returned (.int .i64 2) ∧ Below w.heap.size w w' := by
  have HO := hid ((Own.nil w).alloc w.heap.size (VC r x b m n v l p) 23 rfl)
  go_enter Try.func10, Try.ntmps10
  go_wp2_with (first | (go_at_call 29; (with_reducible refine (bit_of E0.out _).mono ?_); rintro e w1 ⟨rfl, rfl⟩) | (go_at_call 29; (with_reducible refine (bit_of E1.out _).mono ?_); rintro e w1 ⟨rfl, rfl⟩) | (go_at_call 29; (with_reducible refine (bit_of E2.out _).mono ?_); rintro e w1 ⟨rfl, rfl⟩))
  all_goals go_ret
  all_goals exact ⟨rfl, HO.out.below⟩
set_option maxHeartbeats 1000000 in
theorem rcheck_b3 (r x b m n v l p : Int) (E0 : Hid (bitF r = true)) (E1 : Hid (bitF x = true)) (E2 : Hid (bitF b = true)) (E3 : Hid (bitF n = false)) (w : World) :
    Calls Try.prog 10 #[.agg (VC r x b m n v l p)] w fun e w' => e = .returned (.int .i64 2) ∧ Below w.heap.size w w' := by
  have HO := hid ((Own.nil w).alloc w.heap.size (VC r x b m n v l p) 23 rfl)
  go_enter Try.func10, Try.ntmps10
  go_wp2_with (first | (go_at_call 29; (with_reducible refine (bit_of E0.out _).mono ?_); rintro e w1 ⟨rfl, rfl⟩) | (go_at_call 29; (with_reducible refine (bit_of E1.out _).mono ?_); rintro e w1 ⟨rfl, rfl⟩) | (go_at_call 29; (with_reducible refine (bit_of E2.out _).mono ?_); rintro e w1 ⟨rfl, rfl⟩) | (go_at_call 29; (with_reducible refine (bit_of E3.out _).mono ?_); rintro e w1 ⟨rfl, rfl⟩))
  all_goals go_ret
  all_goals exact ⟨rfl, HO.out.below⟩
set_option maxHeartbeats 1000000 in
theorem rcheck_b4 (r x b m n v l p : Int) (E0 : Hid (bitF r = true)) (E1 : Hid (bitF x = true)) (E2 : Hid (bitF b = true)) (E3 : Hid (bitF n = true)) (E4 : Hid (bitF l = false)) (w : World) :
    Calls Try.prog 10 #[.agg (VC r x b m n v l p)] w fun e w' => e = .returned (.int .i64 2) ∧ Below w.heap.size w w' := by
  have HO := hid ((Own.nil w).alloc w.heap.size (VC r x b m n v l p) 23 rfl)
  go_enter Try.func10, Try.ntmps10
  go_wp2_with (first | (go_at_call 29; (with_reducible refine (bit_of E0.out _).mono ?_); rintro e w1 ⟨rfl, rfl⟩) | (go_at_call 29; (with_reducible refine (bit_of E1.out _).mono ?_); rintro e w1 ⟨rfl, rfl⟩) | (go_at_call 29; (with_reducible refine (bit_of E2.out _).mono ?_); rintro e w1 ⟨rfl, rfl⟩) | (go_at_call 29; (with_reducible refine (bit_of E3.out _).mono ?_); rintro e w1 ⟨rfl, rfl⟩) | (go_at_call 29; (with_reducible refine (bit_of E4.out _).mono ?_); rintro e w1 ⟨rfl, rfl⟩))
  all_goals go_ret
  all_goals exact ⟨rfl, HO.out.below⟩
set_option maxHeartbeats 1000000 in
theorem rcheck_m0 (r x b m n v l p : Int) (E0 : Hid (bitF r = true)) (E1 : Hid (bitF x = true)) (E2 : Hid (bitF b = true)) (E3 : Hid (bitF n = true)) (E4 : Hid (bitF l = true)) (h : m < 1) (w : World) :
    Calls Try.prog 10 #[.agg (VC r x b m n v l p)] w fun e w' => e = .returned (.int .i64 2) ∧ Below w.heap.size w w' := by
  have HO := hid ((Own.nil w).alloc w.heap.size (VC r x b m n v l p) 23 rfl)
  go_enter Try.func10, Try.ntmps10
  go_wp2_with (first | (go_at_call 29; (with_reducible refine (bit_of E0.out _).mono ?_); rintro e w1 ⟨rfl, rfl⟩) | (go_at_call 29; (with_reducible refine (bit_of E1.out _).mono ?_); rintro e w1 ⟨rfl, rfl⟩) | (go_at_call 29; (with_reducible refine (bit_of E2.out _).mono ?_); rintro e w1 ⟨rfl, rfl⟩) | (go_at_call 29; (with_reducible refine (bit_of E3.out _).mono ?_); rintro e w1 ⟨rfl, rfl⟩) | (go_at_call 29; (with_reducible refine (bit_of E4.out _).mono ?_); rintro e w1 ⟨rfl, rfl⟩))
  all_goals go_ret
  all_goals exact ⟨rfl, HO.out.below⟩
set_option maxHeartbeats 1000000 in
theorem rcheck_m1 (r x b m n v l p : Int) (E0 : Hid (bitF r = true)) (E1 : Hid (bitF x = true)) (E2 : Hid (bitF b = true)) (E3 : Hid (bitF n = true)) (E4 : Hid (bitF l = true)) (h0 : 1 ≤ m) (h : 3 < m) (w : World) :
    Calls Try.prog 10 #[.agg (VC r x b m n v l p)] w fun e w' => e = .returned (.int .i64 2) ∧ Below w.heap.size w w' := by
  have HO := hid ((Own.nil w).alloc w.heap.size (VC r x b m n v l p) 23 rfl)
  go_enter Try.func10, Try.ntmps10
  go_wp2_with (first | (go_at_call 29; (with_reducible refine (bit_of E0.out _).mono ?_); rintro e w1 ⟨rfl, rfl⟩) | (go_at_call 29; (with_reducible refine (bit_of E1.out _).mono ?_); rintro e w1 ⟨rfl, rfl⟩) | (go_at_call 29; (with_reducible refine (bit_of E2.out _).mono ?_); rintro e w1 ⟨rfl, rfl⟩) | (go_at_call 29; (with_reducible refine (bit_of E3.out _).mono ?_); rintro e w1 ⟨rfl, rfl⟩) | (go_at_call 29; (with_reducible refine (bit_of E4.out _).mono ?_); rintro e w1 ⟨rfl, rfl⟩))
  all_goals go_ret
  all_goals exact ⟨rfl, HO.out.below⟩
set_option maxHeartbeats 1000000 in
theorem rcheck_v0 (r x b m n v l p : Int) (E0 : Hid (bitF r = true)) (E1 : Hid (bitF x = true)) (E2 : Hid (bitF b = true)) (E3 : Hid (bitF n = true)) (E4 : Hid (bitF l = true)) (h0 : 1 ≤ m) (h1 : m ≤ 3) (h : v < 0) (w : World) :
    Calls Try.prog 10 #[.agg (VC r x b m n v l p)] w fun e w' => e = .returned (.int .i64 2) ∧ Below w.heap.size w w' := by
  have HO := hid ((Own.nil w).alloc w.heap.size (VC r x b m n v l p) 23 rfl)
  go_enter Try.func10, Try.ntmps10
  go_wp2_with (first | (go_at_call 29; (with_reducible refine (bit_of E0.out _).mono ?_); rintro e w1 ⟨rfl, rfl⟩) | (go_at_call 29; (with_reducible refine (bit_of E1.out _).mono ?_); rintro e w1 ⟨rfl, rfl⟩) | (go_at_call 29; (with_reducible refine (bit_of E2.out _).mono ?_); rintro e w1 ⟨rfl, rfl⟩) | (go_at_call 29; (with_reducible refine (bit_of E3.out _).mono ?_); rintro e w1 ⟨rfl, rfl⟩) | (go_at_call 29; (with_reducible refine (bit_of E4.out _).mono ?_); rintro e w1 ⟨rfl, rfl⟩))
  all_goals go_ret
  all_goals exact ⟨rfl, HO.out.below⟩
set_option maxHeartbeats 1000000 in
theorem rcheck_v1 (r x b m n v l p : Int) (E0 : Hid (bitF r = true)) (E1 : Hid (bitF x = true)) (E2 : Hid (bitF b = true)) (E3 : Hid (bitF n = true)) (E4 : Hid (bitF l = true)) (h0 : 1 ≤ m) (h1 : m ≤ 3) (h2 : 0 ≤ v) (h : 15 < v) (w : World) :
    Calls Try.prog 10 #[.agg (VC r x b m n v l p)] w fun e w' => e = .returned (.int .i64 2) ∧ Below w.heap.size w w' := by
  have HO := hid ((Own.nil w).alloc w.heap.size (VC r x b m n v l p) 23 rfl)
  go_enter Try.func10, Try.ntmps10
  go_wp2_with (first | (go_at_call 29; (with_reducible refine (bit_of E0.out _).mono ?_); rintro e w1 ⟨rfl, rfl⟩) | (go_at_call 29; (with_reducible refine (bit_of E1.out _).mono ?_); rintro e w1 ⟨rfl, rfl⟩) | (go_at_call 29; (with_reducible refine (bit_of E2.out _).mono ?_); rintro e w1 ⟨rfl, rfl⟩) | (go_at_call 29; (with_reducible refine (bit_of E3.out _).mono ?_); rintro e w1 ⟨rfl, rfl⟩) | (go_at_call 29; (with_reducible refine (bit_of E4.out _).mono ?_); rintro e w1 ⟨rfl, rfl⟩))
  all_goals go_ret
  all_goals exact ⟨rfl, HO.out.below⟩
set_option maxHeartbeats 1000000 in
theorem rcheck_p0 (r x b m n v l : Int) (E0 : Hid (bitF r = true)) (E1 : Hid (bitF x = true)) (E2 : Hid (bitF b = true)) (E3 : Hid (bitF n = true)) (E4 : Hid (bitF l = true)) (h0 : 1 ≤ m) (h1 : m ≤ 3) (h2 : 0 ≤ v) (h3 : v ≤ 15) (w : World) :
    Calls Try.prog 10 #[.agg (VC r x b m n v l 0)] w fun e w' => e = .returned (.int .i64 0) ∧ Below w.heap.size w w' := by
  have HO := hid ((Own.nil w).alloc w.heap.size (VC r x b m n v l 0) 23 rfl)
  go_enter Try.func10, Try.ntmps10
  go_wp2_with (first | (go_at_call 29; (with_reducible refine (bit_of E0.out _).mono ?_); rintro e w1 ⟨rfl, rfl⟩) | (go_at_call 29; (with_reducible refine (bit_of E1.out _).mono ?_); rintro e w1 ⟨rfl, rfl⟩) | (go_at_call 29; (with_reducible refine (bit_of E2.out _).mono ?_); rintro e w1 ⟨rfl, rfl⟩) | (go_at_call 29; (with_reducible refine (bit_of E3.out _).mono ?_); rintro e w1 ⟨rfl, rfl⟩) | (go_at_call 29; (with_reducible refine (bit_of E4.out _).mono ?_); rintro e w1 ⟨rfl, rfl⟩))
  all_goals go_ret
  all_goals exact ⟨rfl, HO.out.below⟩
set_option maxHeartbeats 1000000 in
theorem rcheck_p1 (r x b m n v l : Int) (E0 : Hid (bitF r = true)) (E1 : Hid (bitF x = true)) (E2 : Hid (bitF b = true)) (E3 : Hid (bitF n = true)) (E4 : Hid (bitF l = true)) (h0 : 1 ≤ m) (h1 : m ≤ 3) (h2 : 0 ≤ v) (h3 : v ≤ 15) (w : World) :
    Calls Try.prog 10 #[.agg (VC r x b m n v l 1)] w fun e w' => e = .returned (.int .i64 0) ∧ Below w.heap.size w w' := by
  have HO := hid ((Own.nil w).alloc w.heap.size (VC r x b m n v l 1) 23 rfl)
  go_enter Try.func10, Try.ntmps10
  go_wp2_with (first | (go_at_call 29; (with_reducible refine (bit_of E0.out _).mono ?_); rintro e w1 ⟨rfl, rfl⟩) | (go_at_call 29; (with_reducible refine (bit_of E1.out _).mono ?_); rintro e w1 ⟨rfl, rfl⟩) | (go_at_call 29; (with_reducible refine (bit_of E2.out _).mono ?_); rintro e w1 ⟨rfl, rfl⟩) | (go_at_call 29; (with_reducible refine (bit_of E3.out _).mono ?_); rintro e w1 ⟨rfl, rfl⟩) | (go_at_call 29; (with_reducible refine (bit_of E4.out _).mono ?_); rintro e w1 ⟨rfl, rfl⟩))
  all_goals go_ret
  all_goals exact ⟨rfl, HO.out.below⟩
set_option maxHeartbeats 1000000 in
theorem rcheck_p2 (r x b m n v l : Int) (E0 : Hid (bitF r = true)) (E1 : Hid (bitF x = true)) (E2 : Hid (bitF b = true)) (E3 : Hid (bitF n = true)) (E4 : Hid (bitF l = true)) (h0 : 1 ≤ m) (h1 : m ≤ 3) (h2 : 0 ≤ v) (h3 : v ≤ 15) (w : World) :
    Calls Try.prog 10 #[.agg (VC r x b m n v l 2)] w fun e w' => e = .returned (.int .i64 0) ∧ Below w.heap.size w w' := by
  have HO := hid ((Own.nil w).alloc w.heap.size (VC r x b m n v l 2) 23 rfl)
  go_enter Try.func10, Try.ntmps10
  go_wp2_with (first | (go_at_call 29; (with_reducible refine (bit_of E0.out _).mono ?_); rintro e w1 ⟨rfl, rfl⟩) | (go_at_call 29; (with_reducible refine (bit_of E1.out _).mono ?_); rintro e w1 ⟨rfl, rfl⟩) | (go_at_call 29; (with_reducible refine (bit_of E2.out _).mono ?_); rintro e w1 ⟨rfl, rfl⟩) | (go_at_call 29; (with_reducible refine (bit_of E3.out _).mono ?_); rintro e w1 ⟨rfl, rfl⟩) | (go_at_call 29; (with_reducible refine (bit_of E4.out _).mono ?_); rintro e w1 ⟨rfl, rfl⟩))
  all_goals go_ret
  all_goals exact ⟨rfl, HO.out.below⟩
set_option maxHeartbeats 1000000 in
theorem rcheck_p4 (r x b m n v l : Int) (E0 : Hid (bitF r = true)) (E1 : Hid (bitF x = true)) (E2 : Hid (bitF b = true)) (E3 : Hid (bitF n = true)) (E4 : Hid (bitF l = true)) (h0 : 1 ≤ m) (h1 : m ≤ 3) (h2 : 0 ≤ v) (h3 : v ≤ 15) (w : World) :
    Calls Try.prog 10 #[.agg (VC r x b m n v l 4)] w fun e w' => e = .returned (.int .i64 0) ∧ Below w.heap.size w w' := by
  have HO := hid ((Own.nil w).alloc w.heap.size (VC r x b m n v l 4) 23 rfl)
  go_enter Try.func10, Try.ntmps10
  go_wp2_with (first | (go_at_call 29; (with_reducible refine (bit_of E0.out _).mono ?_); rintro e w1 ⟨rfl, rfl⟩) | (go_at_call 29; (with_reducible refine (bit_of E1.out _).mono ?_); rintro e w1 ⟨rfl, rfl⟩) | (go_at_call 29; (with_reducible refine (bit_of E2.out _).mono ?_); rintro e w1 ⟨rfl, rfl⟩) | (go_at_call 29; (with_reducible refine (bit_of E3.out _).mono ?_); rintro e w1 ⟨rfl, rfl⟩) | (go_at_call 29; (with_reducible refine (bit_of E4.out _).mono ?_); rintro e w1 ⟨rfl, rfl⟩))
  all_goals go_ret
  all_goals exact ⟨rfl, HO.out.below⟩
set_option maxHeartbeats 1000000 in
theorem rcheck_px (r x b m n v l p : Int) (E0 : Hid (bitF r = true)) (E1 : Hid (bitF x = true)) (E2 : Hid (bitF b = true)) (E3 : Hid (bitF n = true)) (E4 : Hid (bitF l = true)) (h0 : 1 ≤ m) (h1 : m ≤ 3) (h2 : 0 ≤ v) (h3 : v ≤ 15) (k0 : (p != 0) = true) (k1 : (p != 1) = true) (k2 : (p != 2) = true) (k4 : (p != 4) = true) (w : World) :
    Calls Try.prog 10 #[.agg (VC r x b m n v l p)] w fun e w' => e = .returned (.int .i64 2) ∧ Below w.heap.size w w' := by
  have HO := hid ((Own.nil w).alloc w.heap.size (VC r x b m n v l p) 23 rfl)
  go_enter Try.func10, Try.ntmps10
  go_wp2_with (first | (go_at_call 29; (with_reducible refine (bit_of E0.out _).mono ?_); rintro e w1 ⟨rfl, rfl⟩) | (go_at_call 29; (with_reducible refine (bit_of E1.out _).mono ?_); rintro e w1 ⟨rfl, rfl⟩) | (go_at_call 29; (with_reducible refine (bit_of E2.out _).mono ?_); rintro e w1 ⟨rfl, rfl⟩) | (go_at_call 29; (with_reducible refine (bit_of E3.out _).mono ?_); rintro e w1 ⟨rfl, rfl⟩) | (go_at_call 29; (with_reducible refine (bit_of E4.out _).mono ?_); rintro e w1 ⟨rfl, rfl⟩))
  all_goals go_ret
  all_goals exact ⟨rfl, HO.out.below⟩
theorem rcheck_any (r x b m n v l p : Int) (w : World) :
    Calls Try.prog 10 #[.agg (VC r x b m n v l p)] w fun e w' => e = .returned (.int .i64 (errF ⟨r, x, b, m, n, v, l, p⟩)) ∧ Below w.heap.size w w' := by
  cases e0 : bitF r
  · have e : errF ⟨r, x, b, m, n, v, l, p⟩ = 2 := by simp [errF, okF, e0]
    rw [e]
    exact rcheck_b0 r x b m n v l p (hid e0) w
  cases e1 : bitF x
  · have e : errF ⟨r, x, b, m, n, v, l, p⟩ = 2 := by simp [errF, okF, e1]
    rw [e]
    exact rcheck_b1 r x b m n v l p (hid e0) (hid e1) w
  cases e2 : bitF b
  · have e : errF ⟨r, x, b, m, n, v, l, p⟩ = 2 := by simp [errF, okF, e2]
    rw [e]
    exact rcheck_b2 r x b m n v l p (hid e0) (hid e1) (hid e2) w
  cases e3 : bitF n
  · have e : errF ⟨r, x, b, m, n, v, l, p⟩ = 2 := by simp [errF, okF, e3]
    rw [e]
    exact rcheck_b3 r x b m n v l p (hid e0) (hid e1) (hid e2) (hid e3) w
  cases e4 : bitF l
  · have e : errF ⟨r, x, b, m, n, v, l, p⟩ = 2 := by simp [errF, okF, e4]
    rw [e]
    exact rcheck_b4 r x b m n v l p (hid e0) (hid e1) (hid e2) (hid e3) (hid e4) w
  by_cases hm0 : m < 1
  · have e : errF ⟨r, x, b, m, n, v, l, p⟩ = 2 := by
      have : okF ⟨r, x, b, m, n, v, l, p⟩ = false := by
        cases hk : okF ⟨r, x, b, m, n, v, l, p⟩
        · rfl
        · have hh := ok_parts hk
          simp only at hh
          omega
      simp [errF, this]
    rw [e]
    exact rcheck_m0 r x b m n v l p (hid e0) (hid e1) (hid e2) (hid e3) (hid e4) hm0 w
  by_cases hm1 : 3 < m
  · have e : errF ⟨r, x, b, m, n, v, l, p⟩ = 2 := by
      have : okF ⟨r, x, b, m, n, v, l, p⟩ = false := by
        cases hk : okF ⟨r, x, b, m, n, v, l, p⟩
        · rfl
        · have hh := ok_parts hk
          simp only at hh
          omega
      simp [errF, this]
    rw [e]
    exact rcheck_m1 r x b m n v l p (hid e0) (hid e1) (hid e2) (hid e3) (hid e4) (by omega) hm1 w
  by_cases hv0 : v < 0
  · have e : errF ⟨r, x, b, m, n, v, l, p⟩ = 2 := by
      have : okF ⟨r, x, b, m, n, v, l, p⟩ = false := by
        cases hk : okF ⟨r, x, b, m, n, v, l, p⟩
        · rfl
        · have hh := ok_parts hk
          simp only at hh
          omega
      simp [errF, this]
    rw [e]
    exact rcheck_v0 r x b m n v l p (hid e0) (hid e1) (hid e2) (hid e3) (hid e4) (by omega) (by omega) hv0 w
  by_cases hv1 : 15 < v
  · have e : errF ⟨r, x, b, m, n, v, l, p⟩ = 2 := by
      have : okF ⟨r, x, b, m, n, v, l, p⟩ = false := by
        cases hk : okF ⟨r, x, b, m, n, v, l, p⟩
        · rfl
        · have hh := ok_parts hk
          simp only at hh
          omega
      simp [errF, this]
    rw [e]
    exact rcheck_v1 r x b m n v l p (hid e0) (hid e1) (hid e2) (hid e3) (hid e4) (by omega) (by omega) (by omega) hv1 w
  have hok : okF ⟨r, x, b, m, n, v, l, p⟩ = preOk p := by
    simp only [okF, e0, e1, e2, e3, e4, Bool.true_and]
    have q1 : mapF m = true := mapF_iff.2 (by omega)
    have q2 : decide (0 ≤ v) = true := by simp; omega
    have q3 : decide (v ≤ 15) = true := by simp; omega
    simp only [q1, q2, q3, Bool.true_and]
  by_cases p0 : p = 0
  · subst p0
    have e : errF ⟨r, x, b, m, n, v, l, 0⟩ = 0 := by simp [errF, hok, preOk]
    rw [e]
    exact rcheck_p0 r x b m n v l (hid e0) (hid e1) (hid e2) (hid e3) (hid e4) (by omega) (by omega) (by omega) (by omega) w
  by_cases p1 : p = 1
  · subst p1
    have e : errF ⟨r, x, b, m, n, v, l, 1⟩ = 0 := by simp [errF, hok, preOk]
    rw [e]
    exact rcheck_p1 r x b m n v l (hid e0) (hid e1) (hid e2) (hid e3) (hid e4) (by omega) (by omega) (by omega) (by omega) w
  by_cases p2 : p = 2
  · subst p2
    have e : errF ⟨r, x, b, m, n, v, l, 2⟩ = 0 := by simp [errF, hok, preOk]
    rw [e]
    exact rcheck_p2 r x b m n v l (hid e0) (hid e1) (hid e2) (hid e3) (hid e4) (by omega) (by omega) (by omega) (by omega) w
  by_cases p4 : p = 4
  · subst p4
    have e : errF ⟨r, x, b, m, n, v, l, 4⟩ = 0 := by simp [errF, hok, preOk]
    rw [e]
    exact rcheck_p4 r x b m n v l (hid e0) (hid e1) (hid e2) (hid e3) (hid e4) (by omega) (by omega) (by omega) (by omega) w
  have e : errF ⟨r, x, b, m, n, v, l, p⟩ = 2 := by simp [errF, hok, preOk, p0, p1, p2, p4]
  rw [e]
  exact rcheck_px r x b m n v l p (hid e0) (hid e1) (hid e2) (hid e3) (hid e4) (by omega) (by omega) (by omega) (by omega) (by simpa using p0) (by simpa using p1) (by simpa using p2) (by simpa using p4) w
theorem rcheck_of {r x b m n v l p z : Int} (h : errF ⟨r, x, b, m, n, v, l, p⟩ = z) (w : World) :
    Calls Try.prog 10 #[.agg (VC r x b m n v l p)] w fun e w' => e = .returned (.int .i64 z) ∧ Below w.heap.size w w' := by
  rw [← h]; exact rcheck_any r x b m n v l p w
end Go.Proofs.Ytllnjmpakkodnaa
