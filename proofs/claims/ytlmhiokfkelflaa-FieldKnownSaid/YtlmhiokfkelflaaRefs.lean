/-
  What the document's own answers on bits do: the same numbers. And the number below another one that any number says.
-/
import Derived.Test.YtlmhiokfkelflaaInts
namespace Go.Proofs.Ytlmhiokfkelflaa
open Go.RowKit

theorem rfits_any (n b : Int) (w : World) :
    Calls Try.prog 17 #[.int .i64 n, .int .i64 b] w fun e w' => e = .returned (.bool (fitsB n b)) ∧ w = w' := by
  by_cases h : 1 ≤ b ∧ b ≤ 64
  · have h1 := h.1
    have h2 := h.2
    have H := hid (fits_shift (n := n) h)
    have e : (b - 1).toNat = b.toNat - 1 := by omega
    have E := hid e; clear e h
    by_cases hq : (n / 2 ^ (b.toNat - 1) == 0) = true
    · go_enter Try.func17, Try.ntmps17
      go_wp2
      go_ret
      exact ⟨ret_b (by rw [H.out, hq]; rfl), rfl⟩
    · have hq' : (n / 2 ^ (b.toNat - 1) == 0) = false := by simpa using hq
      clear hq
      go_enter Try.func17, Try.ntmps17
      go_wp2
      go_ret
      exact ⟨ret_b (by rw [H.out, hq']; rfl), rfl⟩
  · have H := hid (fits_not (n := n) h)
    by_cases h1 : b < 1
    · clear h
      go_enter Try.func17, Try.ntmps17
      go_wp2
      go_ret
      exact ⟨ret_b H.out.symm, rfl⟩
    · have h2 : 64 < b := by omega
      clear h
      go_enter Try.func17, Try.ntmps17
      go_wp2
      go_ret
      exact ⟨ret_b H.out.symm, rfl⟩
theorem rwide_any (n b : Int) (w : World) (hn : I64 n) :
    Calls Try.prog 19 #[.int .i64 n, .int .i64 b] w fun e w' => e = .returned (.bool (wideB n b)) ∧ w = w' := by
  by_cases h : 1 ≤ b ∧ b ≤ 64
  · have h1 := h.1
    have h2 := h.2
    have H := hid (wide_shift hn h)
    clear h hn
    by_cases hf : fitsB n b = true
    · go_enter Try.func19, Try.ntmps19
      go_wp2_with (go_at_call 17; refine (rfits_any _ _ _).mono ?_; rintro e w' ⟨rfl, rfl⟩)
      go_ret
      exact ⟨ret_b (by rw [H.out, hf]; rfl), rfl⟩
    · have hf' : fitsB n b = false := by simpa using hf
      clear hf
      by_cases hb : b < 64
      · by_cases h0 : 0 < n
        · go_enter Try.func19, Try.ntmps19
          go_wp2_with (go_at_call 17; refine (rfits_any _ _ _).mono ?_; rintro e w' ⟨rfl, rfl⟩)
          go_ret
          exact ⟨ret_b (by rw [H.out, hf']; simp [hb, h0]), rfl⟩
        · go_enter Try.func19, Try.ntmps19
          go_wp2_with (go_at_call 17; refine (rfits_any _ _ _).mono ?_; rintro e w' ⟨rfl, rfl⟩)
          go_ret
          exact ⟨ret_b (by rw [H.out, hf', Bool.false_or, decide_eq_false (by omega : ¬(0 < n)), Bool.and_false]; rfl), rfl⟩
      · go_enter Try.func19, Try.ntmps19
        go_wp2_with (go_at_call 17; refine (rfits_any _ _ _).mono ?_; rintro e w' ⟨rfl, rfl⟩)
        go_ret
        exact ⟨ret_b (by rw [H.out, hf', Bool.false_or, decide_eq_false (by omega : ¬(b < 64)), Bool.false_and]; rfl), rfl⟩
  · have H := hid (wide_not (n := n) h)
    clear hn
    by_cases h1 : b < 1
    · clear h
      go_enter Try.func19, Try.ntmps19
      go_wp2_with fail
      go_ret
      exact ⟨ret_b H.out.symm, rfl⟩
    · have h2 : 64 < b := by omega
      clear h
      go_enter Try.func19, Try.ntmps19
      go_wp2_with fail
      go_ret
      exact ⟨ret_b H.out.symm, rfl⟩
theorem rlow_any (n b : Int) (w : World) (hn : I64 n) :
    Calls Try.prog 23 #[.int .i64 n, .int .i64 b] w fun e w' => e = .returned (.int .i64 (low n b)) ∧ w = w' := by
  by_cases h : 1 ≤ b ∧ b ≤ 64
  · have h1 := h.1
    have h2 := h.2
    have H := hid (wrap_low_ok hn h)
    clear h hn
    go_enter Try.func23, Try.ntmps23
    go_wp2
    go_loop [5, 6] (fun m i => ∃ k : Nat, (k : Int) ≤ b ∧ i = .int .i64 k ∧ m = .int .i64 (wrap64 (n % 2 ^ k))) (fun _ i => 64 - (intOf i).toNat)
    case atStart => exact ⟨0, by omega, rfl, by simp [wrap64]⟩
    case round =>
      obtain ⟨k, hk, rfl, rfl⟩ := hrel
      by_cases hkb : (k : Int) < b
      · have e := wrap_low n k (by omega)
        have E := hid e; clear e
        have L := hid (low_or n k (by omega))
        have A := hid (and_one (n / 2 ^ k))
        go_wp2
        go_round
        case rel => exact ⟨k + 1, by omega, by go_num, by rw [E.out, A.out, L.out]⟩
        case measure => simp [intOf]; omega
      · go_wp2
        go_ret
        exact ⟨ret_i (by rw [← H.out]; congr 3; omega), rfl⟩
  · have hs : low n b = 0 := by unfold low; rw [if_neg (by omega), if_neg (by omega)]
    have H := hid hs
    clear hn hs
    by_cases h1 : b < 1
    · clear h
      go_enter Try.func23, Try.ntmps23
      go_wp2_with fail
      go_ret
      exact ⟨ret_i H.out.symm, rfl⟩
    · have h2 : 64 < b := by omega
      clear h
      go_enter Try.func23, Try.ntmps23
      go_wp2_with fail
      go_ret
      exact ⟨ret_i H.out.symm, rfl⟩
theorem rsign_any (n b : Int) (w : World) (hn : I64 n) :
    Calls Try.prog 21 #[.int .i64 n, .int .i64 b] w fun e w' => e = .returned (.int .i64 (sgn n b)) ∧ w = w' := by
  have HN := hid hn
  by_cases h1 : 1 ≤ b
  · by_cases h2 : b < 64
    · have H := hid (sgn_low (n := n) ⟨h1, h2⟩)
      have A := hid (and_one (low n b / 2 ^ (b.toNat - 1)))
      have hl : -9223372036854775808 ≤ low n b - 2 ^ b.toNat ∧ low n b - 2 ^ b.toNat ≤ 9223372036854775807 := by
        have hp : (0 : Int) < 2 ^ b.toNat := Int.pow_pos (by decide)
        have h3 := Int.emod_nonneg n (by omega : (2 : Int) ^ b.toNat ≠ 0)
        have h4 := Int.emod_lt_of_pos n hp
        have h5 := pow_le b.toNat 63 (by omega)
        have h6 : (2 : Int) ^ 63 = 9223372036854775808 := rfl
        unfold low
        rw [if_pos ⟨h1, h2⟩]
        omega
      have W := hid (IntWalk.wrap64_in _ hl)
      clear hn hl
      by_cases hq : (bits .and .i64 (low n b / 2 ^ (b.toNat - 1)) 1 == 1) = true
      · go_enter Try.func21, Try.ntmps21
        go_wp2_with (go_at_call 23; refine (rlow_any _ _ _ HN.out).mono ?_; rintro e w' ⟨rfl, rfl⟩)
        go_ret
        exact ⟨ret_i (by rw [wrap64_sub, W.out, H.out, if_pos (by rw [← A.out]; simpa using hq)]), rfl⟩
      · have hq' : (bits .and .i64 (low n b / 2 ^ (b.toNat - 1)) 1 == 1) = false := by simpa using hq
        clear hq
        go_enter Try.func21, Try.ntmps21
        go_wp2_with (go_at_call 23; refine (rlow_any _ _ _ HN.out).mono ?_; rintro e w' ⟨rfl, rfl⟩)
        go_ret
        exact ⟨ret_i (by rw [H.out, if_neg (by rw [← A.out]; simpa using hq')]), rfl⟩
    · have hs : low n b = sgn n b := by
        by_cases h3 : b = 64
        · subst h3
          have h4 := (sgn_in (n := n) (b := 64) (by omega)).2 (by
            have : (2 : Int) ^ ((64 : Int).toNat - 1) = 9223372036854775808 := rfl
            unfold I64 at hn; omega)
          have h5 := (low_in (n := n) (b := 64) (by omega)).2 (.inl rfl)
          rw [h4, h5]
        · unfold low sgn; rw [if_neg (by omega), if_neg h3, if_neg (by omega)]
      have H := hid hs
      clear hn hs
      go_enter Try.func21, Try.ntmps21
      go_wp2_with (go_at_call 23; refine (rlow_any _ _ _ HN.out).mono ?_; rintro e w' ⟨rfl, rfl⟩)
      go_ret
      exact ⟨ret_i H.out, rfl⟩
  · have hs : low n b = sgn n b := by unfold low sgn; rw [if_neg (by omega), if_neg (by omega), if_neg (by omega)]
    have H := hid hs
    clear hn hs
    go_enter Try.func21, Try.ntmps21
    go_wp2_with (go_at_call 23; refine (rlow_any _ _ _ HN.out).mono ?_; rintro e w' ⟨rfl, rfl⟩)
    go_ret
    exact ⟨ret_i H.out, rfl⟩
theorem pick_any (x m : Int) (w : World) (hm : 1 ≤ m) (hx : I64 m) :
    Calls Try.prog 30 #[.int .i64 x, .int .i64 m] w fun e w' => e = .returned (.int .i64 (x % m)) ∧ w = w' := by
  by_cases h : x.tmod m < 0
  · have H := hid (pick_neg hm hx h)
    clear hx
    go_enter Try.func30, Try.ntmps30
    go_wp2
    go_ret
    exact ⟨ret_i H.out, rfl⟩
  · have H := hid (pick_pos hm h)
    clear hx
    go_enter Try.func30, Try.ntmps30
    go_wp2
    go_ret
    exact ⟨ret_i H.out, rfl⟩
end Go.Proofs.Ytlmhiokfkelflaa
