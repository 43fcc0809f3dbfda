/-
  Bits and Rex: the program's loops, and the document's REX of bits.
-/
import Derived.Test.YtgioggpehlhbfaaRxSmall
namespace Go.Proofs.Ytgioggpehlhbfaa
open Go.RowKit
set_option maxRecDepth 100000

theorem ands : bits .and .i64 1 0 = 0 ∧ bits .and .i64 2 1 = 0 ∧ bits .and .i64 3 2 = 2 ∧ bits .and .i64 4 3 = 0 ∧ bits .and .i64 5 4 = 4 ∧ bits .and .i64 6 5 = 4 ∧ bits .and .i64 7 6 = 6 ∧ bits .and .i64 8 7 = 0 ∧ bits .and .i64 9 8 = 8 ∧ bits .and .i64 10 9 = 8 ∧ bits .and .i64 11 10 = 10 ∧ bits .and .i64 12 11 = 8 ∧ bits .and .i64 13 12 = 12 ∧ bits .and .i64 14 13 = 12 ∧ bits .and .i64 15 14 = 14 := by decide +kernel
/-- What of a REX is left, and what has been told of it. -/
def Told (n l w r x b : Int) : Prop := 0 ≤ l ∧ l ≤ 15 ∧ 0 ≤ w ∧ 0 ≤ r ∧ 0 ≤ x ∧ 0 ≤ b ∧ n / 8 = w + l / 8 ∧ n / 4 % 2 = r + l / 4 % 2 ∧ n / 2 % 2 = x + l / 2 % 2 ∧ n % 2 = b + l % 2
theorem bits_any (n : Int) (w : World) :
    Calls Try.prog 11 #[.int .i64 n] w fun e w' => e = .returned (.tuple #[.int .i64 (bW n), .int .i64 (bR n), .int .i64 (bX n), .int .i64 (bB n)]) ∧ w = w' := by
  cases h : isF n
  · have H := hid (show bW n = 0 ∧ bR n = 0 ∧ bX n = 0 ∧ bB n = 0 by simp [bW, bR, bX, bB, h])
    have HI := hid h
    clear h
    go_enter Try.func11, Try.ntmps11
    go_wp2_with (go_at_call 24; refine (is_of HI.out _).mono ?_; rintro e w1 ⟨rfl, rfl⟩)
    (try simp only [Exit.inBlock, Exit.then]); refine bodyPost_ret (results_tmp4 rfl _ _ _) rfl ?_
    obtain ⟨H1, H2, H3, H4⟩ := H.out
    exact ⟨by rw [H1, H2, H3, H4]; rfl, rfl⟩
  · have H := hid (show bW n = n / 8 ∧ bR n = n / 4 % 2 ∧ bX n = n / 2 % 2 ∧ bB n = n % 2 by simp [bW, bR, bX, bB, h])
    have h1 := isF_yes h
    have HI := hid h
    have HN := hid h1
    clear h h1
    go_enter Try.func11, Try.ntmps11
    go_wp2_with (go_at_call 24; refine (is_of HI.out _).mono ?_; rintro e w1 ⟨rfl, rfl⟩)
    go_loop [6, 7, 8, 9, 10] (fun vw vr vx vb vl => ∃ l w r x b : Int, vl = .int .i64 l ∧ vw = .int .i64 w ∧ vr = .int .i64 r ∧ vx = .int .i64 x ∧ vb = .int .i64 b ∧ Hid (Told n l w r x b)) (fun _ _ _ _ vl => (intOf vl).toNat)
    case atStart =>
      have := HN.out
      exact ⟨n, 0, 0, 0, 0, rfl, rfl, rfl, rfl, rfl, hid (by unfold Told; omega)⟩
    case round =>
      obtain ⟨l, w1, r, x, b, rfl, rfl, rfl, rfl, rfl, ht⟩ := hrel
      have hl := ht.out.1
      have hl2 := ht.out.2.1
      have hc : l = 0 ∨ l = 1 ∨ l = 2 ∨ l = 3 ∨ l = 4 ∨ l = 5 ∨ l = 6 ∨ l = 7 ∨ l = 8 ∨ l = 9 ∨ l = 10 ∨ l = 11 ∨ l = 12 ∨ l = 13 ∨ l = 14 ∨ l = 15 := by omega
      clear hl hl2
      rcases hc with rfl | rfl | rfl | rfl | rfl | rfl | rfl | rfl | rfl | rfl | rfl | rfl | rfl | rfl | rfl | rfl
      · go_wp2
        (try simp only [Exit.inBlock, Exit.then]); refine bodyPost_ret (results_tmp4 rfl _ _ _) rfl ?_
        obtain ⟨H1, H2, H3, H4⟩ := H.out
        have hT := ht.out
        unfold Told at hT
        obtain ⟨_, _, _, _, _, _, e1, e2, e3, e4⟩ := hT
        exact ⟨by rw [H1, H2, H3, H4, e1, e2, e3, e4]; simp, rfl⟩
      all_goals
        go_wp2
        go_round
        case rel =>
          have hT := ht.out
          have hn := HN.out
          unfold Told at hT
          refine ⟨_, _, _, _, _, rfl, rfl, rfl, rfl, rfl, hid ?_⟩
          unfold Told
          have hA := ands
          omega
        case measure =>
          have hA := ands
          simp [intOf]
          omega
/-! ### the REX of bits -/
theorem rexF_no {w r x b : Int} (h : bitF w = false ∨ bitF r = false ∨ bitF x = false ∨ bitF b = false) : rexF w r x b = -1 := by
  unfold rexF
  rw [if_neg]
  rcases h with h | h | h | h <;> simp [h]
theorem rexF_yes {w r x b : Int} (h1 : bitF w = true) (h2 : bitF r = true) (h3 : bitF x = true) (h4 : bitF b = true) : rexF w r x b = 8 * w + 4 * r + 2 * x + b := by
  unfold rexF
  rw [if_pos]
  simp [h1, h2, h3, h4]
theorem rrex_any (n r x b : Int) (w : World) :
    Calls Try.prog 14 #[.int .i64 n, .int .i64 r, .int .i64 x, .int .i64 b] w fun e w' => e = .returned (.int .i64 (rexF n r x b)) ∧ w = w' := by
  obtain ⟨t1, e1⟩ : ∃ t, bitF n = t := ⟨_, rfl⟩
  obtain ⟨t2, e2⟩ : ∃ t, bitF r = t := ⟨_, rfl⟩
  obtain ⟨t3, e3⟩ : ∃ t, bitF x = t := ⟨_, rfl⟩
  obtain ⟨t4, e4⟩ : ∃ t, bitF b = t := ⟨_, rfl⟩
  have E1 := hid e1
  have E2 := hid e2
  have E3 := hid e3
  have E4 := hid e4
  cases t1
  · have H := hid (rexF_no (w := n) (r := r) (x := x) (b := b) (.inl e1))
    clear e1 e2 e3 e4
    go_enter Try.func14, Try.ntmps14
    go_wp2_with (go_at_call 27; refine (bit_of E1.out _).mono ?_; rintro e w1 ⟨rfl, rfl⟩)
    go_ret
    exact ⟨ret_i H.out.symm, rfl⟩
  cases t2
  · have H := hid (rexF_no (w := n) (r := r) (x := x) (b := b) (.inr (.inl e2)))
    clear e1 e2 e3 e4
    go_enter Try.func14, Try.ntmps14
    go_wp2_with (first | (go_at_call 27; with_reducible refine (bit_of E1.out _).mono ?_; rintro e w1 ⟨rfl, rfl⟩) | (go_at_call 27; with_reducible refine (bit_of E2.out _).mono ?_; rintro e w1 ⟨rfl, rfl⟩))
    go_ret
    exact ⟨ret_i H.out.symm, rfl⟩
  cases t3
  · have H := hid (rexF_no (w := n) (r := r) (x := x) (b := b) (.inr (.inr (.inl e3))))
    clear e1 e2 e3 e4
    go_enter Try.func14, Try.ntmps14
    go_wp2_with (first | (go_at_call 27; with_reducible refine (bit_of E1.out _).mono ?_; rintro e w1 ⟨rfl, rfl⟩) | (go_at_call 27; with_reducible refine (bit_of E2.out _).mono ?_; rintro e w1 ⟨rfl, rfl⟩) | (go_at_call 27; with_reducible refine (bit_of E3.out _).mono ?_; rintro e w1 ⟨rfl, rfl⟩))
    go_ret
    exact ⟨ret_i H.out.symm, rfl⟩
  cases t4
  · have H := hid (rexF_no (w := n) (r := r) (x := x) (b := b) (.inr (.inr (.inr e4))))
    clear e1 e2 e3 e4
    go_enter Try.func14, Try.ntmps14
    go_wp2_with (first | (go_at_call 27; with_reducible refine (bit_of E1.out _).mono ?_; rintro e w1 ⟨rfl, rfl⟩) | (go_at_call 27; with_reducible refine (bit_of E2.out _).mono ?_; rintro e w1 ⟨rfl, rfl⟩) | (go_at_call 27; with_reducible refine (bit_of E3.out _).mono ?_; rintro e w1 ⟨rfl, rfl⟩) | (go_at_call 27; with_reducible refine (bit_of E4.out _).mono ?_; rintro e w1 ⟨rfl, rfl⟩))
    go_ret
    exact ⟨ret_i H.out.symm, rfl⟩
  have H := hid (rexF_yes e1 e2 e3 e4)
  have r1 := bitF_iff.1 e1
  have r2 := bitF_iff.1 e2
  have r3 := bitF_iff.1 e3
  have r4 := bitF_iff.1 e4
  have b1 : 0 ≤ n ∧ n ≤ 1 := by omega
  have b2 : 0 ≤ r ∧ r ≤ 1 := by omega
  have b3 : 0 ≤ x ∧ x ≤ 1 := by omega
  have b4 : 0 ≤ b ∧ b ≤ 1 := by omega
  clear e1 e2 e3 e4 r1 r2 r3 r4
  go_enter Try.func14, Try.ntmps14
  go_wp2_with (first | (go_at_call 27; with_reducible refine (bit_of E1.out _).mono ?_; rintro e w1 ⟨rfl, rfl⟩) | (go_at_call 27; with_reducible refine (bit_of E2.out _).mono ?_; rintro e w1 ⟨rfl, rfl⟩) | (go_at_call 27; with_reducible refine (bit_of E3.out _).mono ?_; rintro e w1 ⟨rfl, rfl⟩) | (go_at_call 27; with_reducible refine (bit_of E4.out _).mono ?_; rintro e w1 ⟨rfl, rfl⟩))
  go_ret
  exact ⟨ret_i H.out.symm, rfl⟩
/-- The first k of four are bits. -/
def Four (n r x b : Int) (k : Nat) : Prop := (1 ≤ k → bitF n = true) ∧ (2 ≤ k → bitF r = true) ∧ (3 ≤ k → bitF x = true) ∧ (4 ≤ k → bitF b = true)
theorem index_4 (a b c d : Value) (w : World) :
    (Instr.index 47 (.agg #[a, b, c, d]) (.int .i64 0)).run Try.prog w = .ok a w ∧
    (Instr.index 47 (.agg #[a, b, c, d]) (.int .i64 1)).run Try.prog w = .ok b w ∧
    (Instr.index 47 (.agg #[a, b, c, d]) (.int .i64 2)).run Try.prog w = .ok c w ∧
    (Instr.index 47 (.agg #[a, b, c, d]) (.int .i64 3)).run Try.prog w = .ok d w := by
  refine ⟨?_, ?_, ?_, ?_⟩ <;> simp [Instr.index, run_underlying Try.underlying47, asIntOf, go_sem, part]
theorem rex_any (n r x b : Int) (w : World) :
    Calls Try.prog 13 #[.int .i64 n, .int .i64 r, .int .i64 x, .int .i64 b] w fun e w' => e = .returned (.int .i64 (rexF n r x b)) ∧ w = w' := by
  obtain ⟨i0, i1, i2, i3⟩ := index_4 (.int .i64 n) (.int .i64 r) (.int .i64 x) (.int .i64 b) w
  go_enter Try.func13, Try.ntmps13
  go_wp2
  go_loop [16] (fun i => ∃ k : Nat, k ≤ 4 ∧ i = .int .i64 k ∧ Hid (Four n r x b k)) (fun i => 4 - (intOf i).toNat)
  case atStart => exact ⟨0, by omega, rfl, hid (by unfold Four; omega)⟩
  case round =>
    obtain ⟨k, hk, rfl, hf⟩ := hrel
    have hc : k = 0 ∨ k = 1 ∨ k = 2 ∨ k = 3 ∨ k = 4 := by omega
    clear hk
    rcases hc with rfl | rfl | rfl | rfl | rfl
    · clear i1 i2 i3
      cases hb : bitF n
      · have H := hid (rexF_no (w := n) (r := r) (x := x) (b := b) (.inl hb))
        have h0 : (n != 0) = true ∧ (n != 1) = true := by simpa [bitF] using hb
        clear hb
        obtain ⟨h0, h1⟩ := h0
        go_wp2
        go_ret
        exact ⟨ret_i H.out.symm, rfl⟩
      · have HB := hid hb
        rcases bitF_iff.1 hb with rfl | rfl
        all_goals
          clear hb
          go_wp2
          go_round
          case rel => exact ⟨1, by omega, by go_num, hid (by have h := hf.out; have h2 := HB.out; unfold Four at h ⊢; simp_all)⟩
          case measure => simp [intOf]
    · clear i0 i2 i3
      cases hb : bitF r
      · have H := hid (rexF_no (w := n) (r := r) (x := x) (b := b) (.inr (.inl hb)))
        have h0 : (r != 0) = true ∧ (r != 1) = true := by simpa [bitF] using hb
        clear hb
        obtain ⟨h0, h1⟩ := h0
        go_wp2
        go_ret
        exact ⟨ret_i H.out.symm, rfl⟩
      · have HB := hid hb
        rcases bitF_iff.1 hb with rfl | rfl
        all_goals
          clear hb
          go_wp2
          go_round
          case rel => exact ⟨2, by omega, by go_num, hid (by have h := hf.out; have h2 := HB.out; unfold Four at h ⊢; simp_all)⟩
          case measure => simp [intOf]
    · clear i0 i1 i3
      cases hb : bitF x
      · have H := hid (rexF_no (w := n) (r := r) (x := x) (b := b) (.inr (.inr (.inl hb))))
        have h0 : (x != 0) = true ∧ (x != 1) = true := by simpa [bitF] using hb
        clear hb
        obtain ⟨h0, h1⟩ := h0
        go_wp2
        go_ret
        exact ⟨ret_i H.out.symm, rfl⟩
      · have HB := hid hb
        rcases bitF_iff.1 hb with rfl | rfl
        all_goals
          clear hb
          go_wp2
          go_round
          case rel => exact ⟨3, by omega, by go_num, hid (by have h := hf.out; have h2 := HB.out; unfold Four at h ⊢; simp_all)⟩
          case measure => simp [intOf]
    · clear i0 i1 i2
      cases hb : bitF b
      · have H := hid (rexF_no (w := n) (r := r) (x := x) (b := b) (.inr (.inr (.inr hb))))
        have h0 : (b != 0) = true ∧ (b != 1) = true := by simpa [bitF] using hb
        clear hb
        obtain ⟨h0, h1⟩ := h0
        go_wp2
        go_ret
        exact ⟨ret_i H.out.symm, rfl⟩
      · have HB := hid hb
        rcases bitF_iff.1 hb with rfl | rfl
        all_goals
          clear hb
          go_wp2
          go_round
          case rel => exact ⟨4, by omega, by go_num, hid (by have h := hf.out; have h2 := HB.out; unfold Four at h ⊢; simp_all)⟩
          case measure => simp [intOf]
    · clear i0 i1 i2 i3
      have hF := hf.out
      unfold Four at hF
      have b1 := hF.1 (by omega)
      have b2 := hF.2.1 (by omega)
      have b3 := hF.2.2.1 (by omega)
      have b4 := hF.2.2.2 (by omega)
      have H := hid (rexF_yes b1 b2 b3 b4)
      have r1 := bitF_iff.1 b1
      have r2 := bitF_iff.1 b2
      have r3 := bitF_iff.1 b3
      have r4 := bitF_iff.1 b4
      clear hF b1 b2 b3 b4
      have b1 : 0 ≤ n ∧ n ≤ 1 := by omega
      have b2 : 0 ≤ r ∧ r ≤ 1 := by omega
      have b3 : 0 ≤ x ∧ x ≤ 1 := by omega
      have b4 : 0 ≤ b ∧ b ≤ 1 := by omega
      clear r1 r2 r3 r4
      go_wp2
      go_ret
      exact ⟨ret_i (by rw [H.out]; omega), rfl⟩
end Go.Proofs.Ytgioggpehlhbfaa
