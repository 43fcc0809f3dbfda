/-
  FieldFits: the walk of the law.
-/
import Derived.Test.YtlmhiokfkelflaaAwake
import Derived.Test.YtlmhiokfkelflaaFitsPlain
import Derived.Deep.RegionWith
namespace Go.Proofs.Ytlmhiokfkelflaa
open Go.RowKit
/-- What is known of a number and of so many bits, whichever way it goes: in the walk's words. -/
theorem gap {n b : Int} (h : 1 ≤ b ∧ b ≤ 64) :
    (b < 63 ∧ (sgn n b != low n b) = false) ∨ (b < 63 ∧ (sgn n b != low n b) = true ∧ wrap64 (low n b - sgn n b) = 2 ^ b.toNat ∧ wrap64 (2 ^ b.toNat) = 2 ^ b.toNat) ∨ ¬b < 63 := by
  by_cases hb : b < 63
  · by_cases he : sgn n b = low n b
    · left; exact ⟨hb, by rw [he]; simp⟩
    · right; left
      have h5 := pow_le b.toNat 62 (by omega)
      have h6 : (2 : Int) ^ 62 = 4611686018427387904 := rfl
      have hp : (0 : Int) < 2 ^ b.toNat := Int.pow_pos (by decide)
      have e := low_sgn ⟨h.1, by omega⟩ he
      have ew : wrap64 (2 ^ b.toNat) = 2 ^ b.toNat := IntWalk.wrap64_in _ ⟨by omega, by omega⟩
      exact ⟨hb, by simpa using he, by rw [e, ew], ew⟩
  · exact .inr (.inr hb)
theorem neg_low {n b : Int} (h : 1 ≤ b ∧ b ≤ 64) : (b < 64 ∧ 0 ≤ low n b) ∨ b = 64 := by
  by_cases hb : b < 64
  · exact .inl ⟨hb, (low_pos ⟨h.1, hb⟩).1⟩
  · right; omega
set_option maxRecDepth 100000 in
set_option maxHeartbeats 4000000 in
theorem fits_walk1 (n b more : Int) (w : World) (hn : I64 n) (h : 1 ≤ b ∧ b < 64) (hk : fitsB n b = true ∧ wideB n b = true ∧ (sgn n b == n) = true) :
    Calls Try.prog 6 #[.int .i64 n, .int .i64 b, .int .i64 more] w fun e w' => e = .returned (.bool true) ∧ Below w.heap.size w w' := by
  have h' : 1 ≤ b ∧ b ≤ 64 := ⟨h.1, by omega⟩
  have HN := hid hn
  have HL := hid (low_I64 hn b)
  have hs1 : fitsB (sgn n b) b = true := sgn_fits n b h'
  have hs3 := sgn_sgn n b h'
  have hs4 := low_low n b h'
  have hm0 := Int.emod_nonneg more (by decide : (64 : Int) ≠ 0)
  have hm1 := Int.emod_lt_of_pos more (by decide : (0 : Int) < 64)
  have hg := gap (n := n) h'
  have hmf := fun v hv => fits_more (n := n) (b := b) (v := v) h' hv
  have hmw := fun v hv => wide_more (n := n) (b := b) (v := v) hn h' hv
  have l2 := (low_pos (n := n) h).1
  have l1 := h.2
  have hb1 := h.1
  clear hn h h'
  obtain ⟨k1, k2, k3⟩ := hk
  rcases hg with ⟨g1, g2⟩ | ⟨g1, g2, g3, g4⟩ | g1
  all_goals
        by_cases hv : b + more % 64 ≤ 64
        all_goals
          have m1 : fitsB n (min (b + more % 64) 64) = true := hmf _ (by omega) k1
          rw [Int.min_def] at m1
          simp only [hv, if_true, if_false] at m1
          have m2 : wideB n (min (b + more % 64) 64) = true := hmw _ (by omega) k2
          rw [Int.min_def] at m2
          simp only [hv, if_true, if_false] at m2
          clear hmf hmw
          go_enter Try.func6, Try.ntmps6
          go_wp2_with fail
          refine (awake_any w).mono ?_
          rintro e w1 ⟨rfl, hb1⟩
          have HB := hid hb1
          clear hb1
          go_wp2_with (first | (go_at_call 16; refine (fits_any _ _ _).mono ?_; rintro e w' ⟨rfl, rfl⟩) | (go_at_call 20; refine (sign_any _ _ _).mono ?_; rintro e w' ⟨rfl, rfl⟩) | (go_at_call 18; refine (wide_any _ _ _ HN.out).mono ?_; rintro e w' ⟨rfl, rfl⟩) | (go_at_call_of 22 (low n b); refine (low_any _ _ _ HL.out).mono ?_; rintro e w' ⟨rfl, rfl⟩) | (go_at_call 22; refine (low_any _ _ _ HN.out).mono ?_; rintro e w' ⟨rfl, rfl⟩) | (go_at_call 30; refine (pick_any _ _ _ (by omega) (by unfold I64; omega)).mono ?_; rintro e w' ⟨rfl, rfl⟩))
          go_ret
          exact ⟨rfl, HB.out⟩

set_option maxRecDepth 100000 in
set_option maxHeartbeats 4000000 in
theorem fits_walk2 (n b more : Int) (w : World) (hn : I64 n) (h : 1 ≤ b ∧ b < 64) (hk : fitsB n b = false ∧ wideB n b = true ∧ (sgn n b == n) = false ∧ (low n b == n) = true) :
    Calls Try.prog 6 #[.int .i64 n, .int .i64 b, .int .i64 more] w fun e w' => e = .returned (.bool true) ∧ Below w.heap.size w w' := by
  have h' : 1 ≤ b ∧ b ≤ 64 := ⟨h.1, by omega⟩
  have HN := hid hn
  have HL := hid (low_I64 hn b)
  have hs1 : fitsB (sgn n b) b = true := sgn_fits n b h'
  have hs3 := sgn_sgn n b h'
  have hs4 := low_low n b h'
  have hm0 := Int.emod_nonneg more (by decide : (64 : Int) ≠ 0)
  have hm1 := Int.emod_lt_of_pos more (by decide : (0 : Int) < 64)
  have hg := gap (n := n) h'
  have hmf := fun v hv => fits_more (n := n) (b := b) (v := v) h' hv
  have hmw := fun v hv => wide_more (n := n) (b := b) (v := v) hn h' hv
  have l2 := (low_pos (n := n) h).1
  have l1 := h.2
  have hb1 := h.1
  clear hn h h'
  obtain ⟨k1, k2, k3, k4⟩ := hk
  rcases hg with ⟨g1, g2⟩ | ⟨g1, g2, g3, g4⟩ | g1
  all_goals
        by_cases hv : b + more % 64 ≤ 64
        all_goals
          have m2 : wideB n (min (b + more % 64) 64) = true := hmw _ (by omega) k2
          rw [Int.min_def] at m2
          simp only [hv, if_true, if_false] at m2
          clear hmf hmw
          go_enter Try.func6, Try.ntmps6
          go_wp2_with fail
          refine (awake_any w).mono ?_
          rintro e w1 ⟨rfl, hb1⟩
          have HB := hid hb1
          clear hb1
          go_wp2_with (first | (go_at_call 16; refine (fits_any _ _ _).mono ?_; rintro e w' ⟨rfl, rfl⟩) | (go_at_call 20; refine (sign_any _ _ _).mono ?_; rintro e w' ⟨rfl, rfl⟩) | (go_at_call 18; refine (wide_any _ _ _ HN.out).mono ?_; rintro e w' ⟨rfl, rfl⟩) | (go_at_call_of 22 (low n b); refine (low_any _ _ _ HL.out).mono ?_; rintro e w' ⟨rfl, rfl⟩) | (go_at_call 22; refine (low_any _ _ _ HN.out).mono ?_; rintro e w' ⟨rfl, rfl⟩) | (go_at_call 30; refine (pick_any _ _ _ (by omega) (by unfold I64; omega)).mono ?_; rintro e w' ⟨rfl, rfl⟩))
          go_ret
          exact ⟨rfl, HB.out⟩

set_option maxRecDepth 100000 in
set_option maxHeartbeats 4000000 in
theorem fits_walk3 (n b more : Int) (w : World) (hn : I64 n) (h : 1 ≤ b ∧ b < 64) (hk : fitsB n b = false ∧ wideB n b = false ∧ (sgn n b == n) = false ∧ (low n b == n) = false) :
    Calls Try.prog 6 #[.int .i64 n, .int .i64 b, .int .i64 more] w fun e w' => e = .returned (.bool true) ∧ Below w.heap.size w w' := by
  have h' : 1 ≤ b ∧ b ≤ 64 := ⟨h.1, by omega⟩
  have HN := hid hn
  have HL := hid (low_I64 hn b)
  have hs1 : fitsB (sgn n b) b = true := sgn_fits n b h'
  have hs3 := sgn_sgn n b h'
  have hs4 := low_low n b h'
  have hm0 := Int.emod_nonneg more (by decide : (64 : Int) ≠ 0)
  have hm1 := Int.emod_lt_of_pos more (by decide : (0 : Int) < 64)
  have hg := gap (n := n) h'
  have hmf := fun v hv => fits_more (n := n) (b := b) (v := v) h' hv
  have hmw := fun v hv => wide_more (n := n) (b := b) (v := v) hn h' hv
  have l2 := (low_pos (n := n) h).1
  have l1 := h.2
  have hb1 := h.1
  clear hn h h'
  obtain ⟨k1, k2, k3, k4⟩ := hk
  rcases hg with ⟨g1, g2⟩ | ⟨g1, g2, g3, g4⟩ | g1
  all_goals
        by_cases hv : b + more % 64 ≤ 64
        all_goals
          clear hmf hmw
          go_enter Try.func6, Try.ntmps6
          go_wp2_with fail
          refine (awake_any w).mono ?_
          rintro e w1 ⟨rfl, hb1⟩
          have HB := hid hb1
          clear hb1
          go_wp2_with (first | (go_at_call 16; refine (fits_any _ _ _).mono ?_; rintro e w' ⟨rfl, rfl⟩) | (go_at_call 20; refine (sign_any _ _ _).mono ?_; rintro e w' ⟨rfl, rfl⟩) | (go_at_call 18; refine (wide_any _ _ _ HN.out).mono ?_; rintro e w' ⟨rfl, rfl⟩) | (go_at_call_of 22 (low n b); refine (low_any _ _ _ HL.out).mono ?_; rintro e w' ⟨rfl, rfl⟩) | (go_at_call 22; refine (low_any _ _ _ HN.out).mono ?_; rintro e w' ⟨rfl, rfl⟩) | (go_at_call 30; refine (pick_any _ _ _ (by omega) (by unfold I64; omega)).mono ?_; rintro e w' ⟨rfl, rfl⟩))
          go_ret
          exact ⟨rfl, HB.out⟩

end Go.Proofs.Ytlmhiokfkelflaa
