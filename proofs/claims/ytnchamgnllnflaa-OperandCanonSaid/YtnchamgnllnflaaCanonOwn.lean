/-
  Canons of places, plainly: a canon may be, and is its own canon. (No address is in it.)
-/
import Derived.Test.YtnchamgnllnflaaCanonAll
namespace Go.Proofs.Ytnchamgnllnflaa
open Go.RowKit

theorem check_ok {p : Pl} (h1 : ¬ (p.d < -2147483648 ∨ 2147483647 < p.d)) (h2 : sizedF p.z = true) (h3 : basedF p.bc p.bn = true) (h4 : indexedF p = true) : checkF p = 0 := by
  unfold checkF
  rw [if_neg h1, h2, h3, h4]
  rfl
theorem canon_base_is {p : Pl} (hs : p.s = 1) (hn : noneF p.bc p.bn = true) : canonF p = ⟨p.ic, p.ix, 0, 0, 0, p.d, p.z⟩ := if_pos ⟨hs, hn⟩
theorem canon_swap_is {p : Pl} (hn : ¬ (p.s = 1 ∧ noneF p.bc p.bn = true)) (ht : stackF p.ic p.ix = true) : canonF p = ⟨p.ic, p.ix, p.bc, p.bn, p.s, p.d, p.z⟩ := by
  unfold canonF
  rw [if_neg hn, if_pos ht]
theorem canon_self_is {p : Pl} (hn : ¬ (p.s = 1 ∧ noneF p.bc p.bn = true)) (ht : ¬ stackF p.ic p.ix = true) : canonF p = p := by
  unfold canonF
  rw [if_neg hn, if_neg ht]
/-- An index rsp has a base beside it that is one of R64, and not rsp too. -/
theorem swap_base {p : Pl} (h : checkF p = 0) (hn : noneF p.bc p.bn = false) (ht : stackF p.ic p.ix = true) : wideF p.bc p.bn = true ∧ stackF p.bc p.bn = false := by
  obtain ⟨_, _, h3, h4⟩ := ok_parts h
  have hp : p.ic = 5 ∧ p.ix = 4 := by simpa [stackF] using ht
  unfold indexedF at h4
  rw [hp.1, hp.2] at h4
  simp only [show noneF 5 4 = false from rfl, show stackF 5 4 = true from rfl, if_true, Bool.false_eq_true, if_false] at h4
  split at h4
  · cases h4
  · rename_i h5
    simp at h5 h4
    refine ⟨?_, h4.2⟩
    unfold basedF at h3
    rw [hn] at h3
    simp only [Bool.false_or, Bool.or_eq_true, Bool.and_eq_true, beq_iff_eq] at h3
    rcases h3 with h3 | h3
    · exact h3
    · exact absurd h3.1 h5.2
theorem canon_parts {p : Pl} (h : checkF p = 0) : checkF (canonF p) = 0 ∧ canonF (canonF p) = canonF p ∧ (canonF p).d = p.d ∧ (canonF p).z = p.z := by
  obtain ⟨h1, h2, h3, h4⟩ := ok_parts h
  by_cases hb : p.s = 1 ∧ noneF p.bc p.bn = true
  · have hw := one_wide h hb.1
    rw [canon_base_is hb.1 hb.2]
    refine ⟨check_ok h1 h2 ?_ rfl, ?_, rfl, rfl⟩
    · simp [basedF, wideF, hw.1, hw.2.1, hw.2.2]
    · exact canon_self_is (by simp) (by simp [stackF])
  · by_cases ht : stackF p.ic p.ix = true
    · have hs := rsp_one h ht
      have hn : noneF p.bc p.bn = false := Bool.eq_false_iff.2 fun e => hb ⟨hs, e⟩
      obtain ⟨hw, hr⟩ := swap_base h hn ht
      have hp : p.ic = 5 ∧ p.ix = 4 := by simpa [stackF] using ht
      rw [canon_swap_is hb ht]
      refine ⟨check_ok h1 h2 ?_ ?_, ?_, rfl, rfl⟩
      · rw [hp.1, hp.2]; rfl
      · unfold indexedF
        simp only [hn, hw, hr, hs, hp.1]
        rfl
      · exact canon_self_is (by simp [hp.1, noneF]) (by simp [hr])
    · rw [canon_self_is hb ht]
      exact ⟨h, canon_self_is hb ht, rfl, rfl⟩
theorem outF_is {p : Pl} (h : checkF p = 0) : outF p = canonF p := if_pos h
theorem canonF_scale {p : Pl} (hs : I64 p.s) : I64 (canonF p).s := by
  unfold canonF
  split
  · unfold I64; simp
  · split <;> exact hs
end Go.Proofs.Ytnchamgnllnflaa
