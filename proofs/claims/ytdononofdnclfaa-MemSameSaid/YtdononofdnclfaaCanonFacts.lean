/-
  Canons, plainly: a canon may be, is its own canon, and is where the place is; the same places are the same place.
-/
import Derived.Test.YtdononofdnclfaaMemAddr2
namespace Go.Proofs.Ytdononofdnclfaa
open Go.RowKit

theorem check_ok {p : Pl} (h1 : ¬ (p.d < -2147483648 ∨ 2147483647 < p.d)) (h2 : sizedF p.z = true) (h3 : basedF p.bc p.bn = true) (h4 : indexedF p = true) : checkF p = 0 := by
  unfold checkF
  rw [if_neg h1, h2, h3, h4]
  rfl
theorem canon_base_is {p : Pl} (hs : p.s = 1) (hn : noneF p.bc p.bn = true) : canonF p = ⟨p.ic, p.ix, 0, 0, 0, p.d, p.z⟩ := if_pos ⟨hs, hn⟩
theorem canon_swap_is {p : Pl} (hn : ¬ (p.s = 1 ∧ noneF p.bc p.bn = true)) (ht : stackF p.ic p.ix = true) : canonF p = ⟨p.ic, p.ix, p.bc, p.bn, p.s, p.d, p.z⟩ := by
  unfold canonF
  rw [if_neg hn, if_pos ht]
theorem canon_self_is {p : Pl} (hn : ¬ (p.s = 1 ∧ noneF p.bc p.bn = true)) (ht : ¬ stackF p.ic p.ix = true) : canonF p = p := by
  unfold canonF
  rw [if_neg hn, if_neg ht]
/-- An index rsp has a base beside it that is one of R64, and not rsp too. -/
theorem swap_base {p : Pl} (h : checkF p = 0) (hn : noneF p.bc p.bn = false) (ht : stackF p.ic p.ix = true) : wideF p.bc p.bn = true ∧ stackF p.bc p.bn = false := by
  obtain ⟨_, _, h3, h4⟩ := ok_parts h
  have hp : p.ic = 5 ∧ p.ix = 4 := by simpa [stackF] using ht
  unfold indexedF at h4
  rw [hp.1, hp.2] at h4
  simp only [show noneF 5 4 = false from rfl, show stackF 5 4 = true from rfl, if_true, Bool.false_eq_true, if_false] at h4
  split at h4
  · cases h4
  · rename_i h5
    simp at h5 h4
    refine ⟨?_, h4.2⟩
    unfold basedF at h3
    rw [hn] at h3
    simp only [Bool.false_or, Bool.or_eq_true, Bool.and_eq_true, beq_iff_eq] at h3
    rcases h3 with h3 | h3
    · exact h3
    · exact absurd h3.1 h5.2
theorem canon_facts {p : Pl} (h : checkF p = 0) : checkF (canonF p) = 0 ∧ canonF (canonF p) = canonF p ∧ (∀ xs next, addrF (canonF p) xs next = addrF p xs next) ∧ (canonF p).d = p.d ∧ (canonF p).z = p.z := by
  obtain ⟨h1, h2, h3, h4⟩ := ok_parts h
  by_cases hb : p.s = 1 ∧ noneF p.bc p.bn = true
  · have hw := one_wide h hb.1
    have hnn : p.bc = 0 ∧ p.bn = 0 := by simpa [noneF] using hb.2
    rw [canon_base_is hb.1 hb.2]
    refine ⟨check_ok h1 h2 ?_ rfl, ?_, fun xs next => ?_, rfl, rfl⟩
    · simp [basedF, wideF, hw.1, hw.2.1, hw.2.2]
    · exact canon_self_is (by simp) (by simp [stackF])
    · simp only [addrF]
      rw [hb.1, hnn.1, hnn.2, show contF 0 0 xs next = 0 from rfl]
      congr 1
      omega
  · by_cases ht : stackF p.ic p.ix = true
    · have hs := rsp_one h ht
      have hn : noneF p.bc p.bn = false := Bool.eq_false_iff.2 fun e => hb ⟨hs, e⟩
      obtain ⟨hw, hr⟩ := swap_base h hn ht
      have hp : p.ic = 5 ∧ p.ix = 4 := by simpa [stackF] using ht
      rw [canon_swap_is hb ht]
      refine ⟨check_ok h1 h2 ?_ ?_, ?_, fun xs next => ?_, rfl, rfl⟩
      · rw [hp.1, hp.2]; rfl
      · unfold indexedF
        simp only [hn, hw, hr, hs, hp.1]
        rfl
      · exact canon_self_is (by simp [hp.1, noneF]) (by simp [hr])
      · simp only [addrF]
        rw [hs]
        congr 1
        omega
    · rw [canon_self_is hb ht]
      exact ⟨h, canon_self_is hb ht, fun _ _ => rfl, rfl, rfl⟩
theorem eqP_refl (p : Pl) : eqP p p = true := by simp [eqP]
theorem eqP_iff {p q : Pl} : eqP p q = true ↔ p = q := by
  cases p; cases q
  simp [eqP, and_assoc]
theorem eqP_comm (p q : Pl) : eqP p q = eqP q p := by
  rw [Bool.eq_iff_iff, eqP_iff, eqP_iff]
  exact eq_comm
theorem sameF_comm (p q : Pl) : sameF p q = sameF q p := by
  unfold sameF
  rw [eqP_comm, Bool.and_comm (checkF p == 0)]
theorem sameF_self (p : Pl) : sameF p p = (checkF p == 0) := by
  unfold sameF
  rw [eqP_refl]
  simp
theorem outF_ok {p : Pl} (h : checkF p = 0) : outF p = canonF p := if_pos h
theorem canon_same {p : Pl} (h : checkF p = 0) : sameF p (canonF p) = true := by
  obtain ⟨h1, h2, _⟩ := canon_facts h
  unfold sameF
  rw [h, h1, outF_ok h, outF_ok h1, h2, eqP_refl]
  rfl
theorem canon_own {p : Pl} (h : checkF p = 0) : (checkF (canonF p) == 0 && eqP (outF (canonF p)) (canonF p)) = true := by
  obtain ⟨h1, h2, _⟩ := canon_facts h
  rw [h1, outF_ok h1, h2, eqP_refl]
  rfl
theorem canon_out {p : Pl} (h : checkF p = 0) (xs : List Int) (next : Int) : addrOut (canonF p) xs next = addrOut p xs next := by
  obtain ⟨h1, _, h3, _⟩ := canon_facts h
  simp [addrOut, h, h1, h3]
theorem canon_err {p : Pl} (h : checkF p = 0) (n : Nat) : addrErr (canonF p) n = addrErr p n := by
  obtain ⟨h1, _⟩ := canon_facts h
  simp [addrErr, h, h1]
theorem canon_scale {p : Pl} (hs : I64 p.s) : I64 (canonF p).s := by
  unfold canonF
  split
  · unfold I64; simp
  · split <;> exact hs
theorem same_ok {p q : Pl} (h : sameF p q = true) : checkF p = 0 ∧ checkF q = 0 ∧ canonF p = canonF q := by
  unfold sameF at h
  simp only [Bool.and_eq_true, beq_iff_eq] at h
  obtain ⟨⟨h1, h2⟩, h3⟩ := h
  rw [outF_ok h1, outF_ok h2, eqP_iff] at h3
  exact ⟨h1, h2, h3⟩
theorem same_facts {p q : Pl} (h : sameF p q = true) : (∀ xs next, addrOut p xs next = addrOut q xs next) ∧ (∀ n, addrErr p n = addrErr q n) ∧ p.d = q.d ∧ p.z = q.z := by
  obtain ⟨h1, h2, h3⟩ := same_ok h
  refine ⟨fun xs next => ?_, fun n => ?_, ?_, ?_⟩
  · rw [← canon_out h1, ← canon_out h2, h3]
  · rw [← canon_err h1, ← canon_err h2, h3]
  · rw [← (canon_facts h1).2.2.2.1, ← (canon_facts h2).2.2.2.1, h3]
  · rw [← (canon_facts h1).2.2.2.2, ← (canon_facts h2).2.2.2.2, h3]
end Go.Proofs.Ytdononofdnclfaa
