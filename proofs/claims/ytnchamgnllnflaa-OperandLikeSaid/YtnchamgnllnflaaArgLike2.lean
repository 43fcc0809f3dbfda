/-
  OperandLike, whatever it is given.
-/
import Derived.Test.YtnchamgnllnflaaArgLike
namespace Go.Proofs.Ytnchamgnllnflaa
open Go.RowKit

theorem imm_val {n b : Int} (hb : fourW b = true) (h : n = sgn n b ∨ n = low n b) : immE n b = 0 ∧ immV n b true = sgn n b ∧ immV n b false = low n b := by
  have hc : ¬ (¬ n = sgn n b ∧ ¬ n = low n b) := fun x => h.elim x.1 x.2
  unfold immE immV
  rw [if_pos hb, if_pos hb, if_pos hb, if_neg hc, if_neg hc, if_neg hc]
  exact ⟨rfl, if_pos rfl, if_neg (by decide)⟩
theorem imm_bad {n b : Int} (hb : fourW b = true) (h1 : ¬ n = sgn n b) (h2 : ¬ n = low n b) : immE n b = 5 ∧ immV n b true = 0 ∧ immV n b false = 0 := by
  have hc : ¬ n = sgn n b ∧ ¬ n = low n b := ⟨h1, h2⟩
  unfold immE immV
  rw [if_pos hb, if_pos hb, if_pos hb, if_pos hc, if_pos hc, if_pos hc]
  exact ⟨rfl, rfl, rfl⟩
theorem tmod_zero {x A : Int} (h : x % A = 0) : x.tmod A = 0 := Int.tmod_eq_zero_of_dvd (Int.dvd_of_emod_eq_zero h)
theorem like_8 {n : Int} (h1 : -128 ≤ n) (h2 : n < 256) : immE n 8 = 0 ∧ ∃ a b, immV n 8 true = a ∧ immV n 8 false = b ∧ I64 a ∧ I64 b ∧ -128 ≤ a ∧ a < 128 ∧ 0 ≤ b ∧ b < 256 ∧ (a - n).tmod 256 = 0 ∧ (b - n).tmod 256 = 0 ∧
    (immV a 8 true == a && immE a 8 == 0) = true ∧ (immV b 8 false == b && immE b 8 == 0) = true ∧ (immV a 8 false == b && immE a 8 == 0) = true ∧ (immV b 8 true == a && immE b 8 == 0) = true := by
  have hf : fourW 8 = true := rfl
  obtain ⟨e1, e2, e3⟩ := imm_val (n := n) hf (by rw [sgn_8, low_8]; omega)
  refine ⟨e1, sgn n 8, low n 8, e2, e3, ?_⟩
  rw [sgn_8, low_8]
  obtain ⟨a1, a2, a3⟩ := imm_val (n := (n + 128) % 256 - 128) hf (.inl (by rw [sgn_8]; omega))
  obtain ⟨b1, b2, b3⟩ := imm_val (n := n % 256) hf (.inr (by rw [low_8]; omega))
  rw [a1, a2, a3, b1, b2, b3]
  simp only [sgn_8, low_8]
  refine ⟨⟨by omega, by omega⟩, ⟨by omega, by omega⟩, by omega, by omega, by omega, by omega, tmod_zero (by omega), tmod_zero (by omega), ?_, ?_, ?_, ?_⟩
  all_goals
    simp only [beq_self_eq_true, Bool.and_true, beq_iff_eq]
    omega
theorem like_16 {n : Int} (h1 : -32768 ≤ n) (h2 : n < 65536) : immE n 16 = 0 ∧ ∃ a b, immV n 16 true = a ∧ immV n 16 false = b ∧ I64 a ∧ I64 b ∧ -32768 ≤ a ∧ a < 32768 ∧ 0 ≤ b ∧ b < 65536 ∧ (a - n).tmod 65536 = 0 ∧ (b - n).tmod 65536 = 0 ∧
    (immV a 16 true == a && immE a 16 == 0) = true ∧ (immV b 16 false == b && immE b 16 == 0) = true ∧ (immV a 16 false == b && immE a 16 == 0) = true ∧ (immV b 16 true == a && immE b 16 == 0) = true := by
  have hf : fourW 16 = true := rfl
  obtain ⟨e1, e2, e3⟩ := imm_val (n := n) hf (by rw [sgn_16, low_16]; omega)
  refine ⟨e1, sgn n 16, low n 16, e2, e3, ?_⟩
  rw [sgn_16, low_16]
  obtain ⟨a1, a2, a3⟩ := imm_val (n := (n + 32768) % 65536 - 32768) hf (.inl (by rw [sgn_16]; omega))
  obtain ⟨b1, b2, b3⟩ := imm_val (n := n % 65536) hf (.inr (by rw [low_16]; omega))
  rw [a1, a2, a3, b1, b2, b3]
  simp only [sgn_16, low_16]
  refine ⟨⟨by omega, by omega⟩, ⟨by omega, by omega⟩, by omega, by omega, by omega, by omega, tmod_zero (by omega), tmod_zero (by omega), ?_, ?_, ?_, ?_⟩
  all_goals
    simp only [beq_self_eq_true, Bool.and_true, beq_iff_eq]
    omega
theorem like_32 {n : Int} (h1 : -2147483648 ≤ n) (h2 : n < 4294967296) : immE n 32 = 0 ∧ ∃ a b, immV n 32 true = a ∧ immV n 32 false = b ∧ I64 a ∧ I64 b ∧ -2147483648 ≤ a ∧ a < 2147483648 ∧ 0 ≤ b ∧ b < 4294967296 ∧ (a - n).tmod 4294967296 = 0 ∧ (b - n).tmod 4294967296 = 0 ∧
    (immV a 32 true == a && immE a 32 == 0) = true ∧ (immV b 32 false == b && immE b 32 == 0) = true ∧ (immV a 32 false == b && immE a 32 == 0) = true ∧ (immV b 32 true == a && immE b 32 == 0) = true := by
  have hf : fourW 32 = true := rfl
  obtain ⟨e1, e2, e3⟩ := imm_val (n := n) hf (by rw [sgn_32, low_32]; omega)
  refine ⟨e1, sgn n 32, low n 32, e2, e3, ?_⟩
  rw [sgn_32, low_32]
  obtain ⟨a1, a2, a3⟩ := imm_val (n := (n + 2147483648) % 4294967296 - 2147483648) hf (.inl (by rw [sgn_32]; omega))
  obtain ⟨b1, b2, b3⟩ := imm_val (n := n % 4294967296) hf (.inr (by rw [low_32]; omega))
  rw [a1, a2, a3, b1, b2, b3]
  simp only [sgn_32, low_32]
  refine ⟨⟨by omega, by omega⟩, ⟨by omega, by omega⟩, by omega, by omega, by omega, by omega, tmod_zero (by omega), tmod_zero (by omega), ?_, ?_, ?_, ?_⟩
  all_goals
    simp only [beq_self_eq_true, Bool.and_true, beq_iff_eq]
    omega
theorem like_law (n which : Int) (w : World) (hn : I64 n) (_hw : I64 which) :
    Calls Try.prog 7 #[.int .i64 n, .int .i64 which] w fun e w' => e = .returned (.bool true) ∧ Below w.heap.size w w' := by
  have hm : which.tmod 4 = 0 ∨ which.tmod 4 = 1 ∨ which.tmod 4 = 2 ∨ which.tmod 4 = 3 ∨ which.tmod 4 = -3 ∨ which.tmod 4 = -2 ∨ which.tmod 4 = -1 := by
    have := Int.tmod_eq_emod (a := which) (b := 4)
    split at this <;> omega
  rcases hm with hc | hc | hc | hc | hc | hc | hc
  · rcases show n < -128 ∨ 256 ≤ n ∨ (-128 ≤ n ∧ n < 256) by omega with h | h | ⟨h1, h2⟩
    · obtain ⟨e1, e2, e3⟩ := imm_bad (n := n) (b := 8) rfl (by rw [sgn_8]; omega) (by rw [low_8]; omega)
      exact like_0low _ _ w hc (hid hn) (hid e2) (hid e3) (hid e1) h
    · obtain ⟨e1, e2, e3⟩ := imm_bad (n := n) (b := 8) rfl (by rw [sgn_8]; omega) (by rw [low_8]; omega)
      exact like_0high _ _ w hc (hid hn) (hid e2) (hid e3) (hid e1) h
    · obtain ⟨e1, a, b, ha, hb, ia, ib, a1, a2, b1, b2, t1, t2, q1, q2, q3, q4⟩ := like_8 h1 h2
      exact like_0in _ _ a b w hc (hid hn) (hid ha) (hid hb) (hid e1) (hid ia) (hid ib) h1 h2 a1 a2 b1 b2 t1 t2 (hid q1) (hid q2) (hid q3) (hid q4)
  · rcases show n < -32768 ∨ 65536 ≤ n ∨ (-32768 ≤ n ∧ n < 65536) by omega with h | h | ⟨h1, h2⟩
    · obtain ⟨e1, e2, e3⟩ := imm_bad (n := n) (b := 16) rfl (by rw [sgn_16]; omega) (by rw [low_16]; omega)
      exact like_1low _ _ w hc (hid hn) (hid e2) (hid e3) (hid e1) h
    · obtain ⟨e1, e2, e3⟩ := imm_bad (n := n) (b := 16) rfl (by rw [sgn_16]; omega) (by rw [low_16]; omega)
      exact like_1high _ _ w hc (hid hn) (hid e2) (hid e3) (hid e1) h
    · obtain ⟨e1, a, b, ha, hb, ia, ib, a1, a2, b1, b2, t1, t2, q1, q2, q3, q4⟩ := like_16 h1 h2
      exact like_1in _ _ a b w hc (hid hn) (hid ha) (hid hb) (hid e1) (hid ia) (hid ib) h1 h2 a1 a2 b1 b2 t1 t2 (hid q1) (hid q2) (hid q3) (hid q4)
  · rcases show n < -2147483648 ∨ 4294967296 ≤ n ∨ (-2147483648 ≤ n ∧ n < 4294967296) by omega with h | h | ⟨h1, h2⟩
    · obtain ⟨e1, e2, e3⟩ := imm_bad (n := n) (b := 32) rfl (by rw [sgn_32]; omega) (by rw [low_32]; omega)
      exact like_2low _ _ w hc (hid hn) (hid e2) (hid e3) (hid e1) h
    · obtain ⟨e1, e2, e3⟩ := imm_bad (n := n) (b := 32) rfl (by rw [sgn_32]; omega) (by rw [low_32]; omega)
      exact like_2high _ _ w hc (hid hn) (hid e2) (hid e3) (hid e1) h
    · obtain ⟨e1, a, b, ha, hb, ia, ib, a1, a2, b1, b2, t1, t2, q1, q2, q3, q4⟩ := like_32 h1 h2
      exact like_2in _ _ a b w hc (hid hn) (hid ha) (hid hb) (hid e1) (hid ia) (hid ib) h1 h2 a1 a2 b1 b2 t1 t2 (hid q1) (hid q2) (hid q3) (hid q4)
  · obtain ⟨e1, e2, e3⟩ := imm_val (n := n) (b := 64) rfl (.inr (low_64 n).symm)
    exact like_3 _ _ w hc (hid hn) (hid (e2.trans (sgn_64 hn))) (hid (e3.trans (low_64 n))) (hid e1)
  · rcases show n < -32768 ∨ 65536 ≤ n ∨ (-32768 ≤ n ∧ n < 65536) by omega with h | h | ⟨h1, h2⟩
    · obtain ⟨e1, e2, e3⟩ := imm_bad (n := n) (b := 16) rfl (by rw [sgn_16]; omega) (by rw [low_16]; omega)
      exact like_m3low _ _ w hc (hid hn) (hid e2) (hid e3) (hid e1) h
    · obtain ⟨e1, e2, e3⟩ := imm_bad (n := n) (b := 16) rfl (by rw [sgn_16]; omega) (by rw [low_16]; omega)
      exact like_m3high _ _ w hc (hid hn) (hid e2) (hid e3) (hid e1) h
    · obtain ⟨e1, a, b, ha, hb, ia, ib, a1, a2, b1, b2, t1, t2, q1, q2, q3, q4⟩ := like_16 h1 h2
      exact like_m3in _ _ a b w hc (hid hn) (hid ha) (hid hb) (hid e1) (hid ia) (hid ib) h1 h2 a1 a2 b1 b2 t1 t2 (hid q1) (hid q2) (hid q3) (hid q4)
  · rcases show n < -2147483648 ∨ 4294967296 ≤ n ∨ (-2147483648 ≤ n ∧ n < 4294967296) by omega with h | h | ⟨h1, h2⟩
    · obtain ⟨e1, e2, e3⟩ := imm_bad (n := n) (b := 32) rfl (by rw [sgn_32]; omega) (by rw [low_32]; omega)
      exact like_m2low _ _ w hc (hid hn) (hid e2) (hid e3) (hid e1) h
    · obtain ⟨e1, e2, e3⟩ := imm_bad (n := n) (b := 32) rfl (by rw [sgn_32]; omega) (by rw [low_32]; omega)
      exact like_m2high _ _ w hc (hid hn) (hid e2) (hid e3) (hid e1) h
    · obtain ⟨e1, a, b, ha, hb, ia, ib, a1, a2, b1, b2, t1, t2, q1, q2, q3, q4⟩ := like_32 h1 h2
      exact like_m2in _ _ a b w hc (hid hn) (hid ha) (hid hb) (hid e1) (hid ia) (hid ib) h1 h2 a1 a2 b1 b2 t1 t2 (hid q1) (hid q2) (hid q3) (hid q4)
  · obtain ⟨e1, e2, e3⟩ := imm_val (n := n) (b := 64) rfl (.inr (low_64 n).symm)
    exact like_m1 _ _ w hc (hid hn) (hid (e2.trans (sgn_64 hn))) (hid (e3.trans (low_64 n))) (hid e1)
end Go.Proofs.Ytnchamgnllnflaa
