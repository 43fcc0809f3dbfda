/-
  The canonical form of a place, whatever the place: the program's and the document's.
-/
import Derived.Test.YtmlmdbholakioaaCanon1
import Derived.Test.YtmlmdbholakioaaCanon2
import Derived.Test.YtmlmdbholakioaaCanonRef1
import Derived.Test.YtmlmdbholakioaaCanonRef2
import Derived.Test.YtmlmdbholakioaaCanonRef3
namespace Go.Proofs.Ytmlmdbholakioaa
open Go.RowKit

theorem ok_parts {p : Pl} (h : checkF p = 0) : (¬ (p.d < -2147483648 ∨ 2147483647 < p.d)) ∧ sizedF p.z = true ∧ basedF p.bc p.bn = true ∧ indexedF p = true := by
  unfold checkF at h
  split at h
  · cases h
  · rename_i h1
    split at h
    · rename_i h2
      simp at h2
      exact ⟨h1, h2.1.1, h2.1.2, h2.2⟩
    · cases h
theorem one_wide {p : Pl} (h : checkF p = 0) (hs : p.s = 1) : p.ic = 5 ∧ 0 ≤ p.ix ∧ p.ix < 16 := by
  have := (ok_parts h).2.2.2
  unfold indexedF at this
  rw [hs] at this
  split at this
  · cases this
  · split at this
    · cases this
    · rename_i h2
      simp [wideF] at h2
      omega
theorem rsp_one {p : Pl} (h : checkF p = 0) (ht : stackF p.ic p.ix = true) : p.s = 1 := by
  have hp : p.ic = 5 ∧ p.ix = 4 := by simpa [stackF] using ht
  have := (ok_parts h).2.2.2
  unfold indexedF at this
  rw [ht, hp.1, hp.2] at this
  simp [noneF] at this
  exact this.2.1
theorem canon_any (bc bn ic ix s d z : Int) (hs : I64 s) (w : World) :
    Calls Try.prog 49 #[.agg #[.int .i64 bc, .int .i64 bn, .int .i64 ic, .int .i64 ix, .int .i64 s, .int .i64 d, .int .i64 z]] w fun e w' => e = .returned (.tuple #[MV (outF ⟨bc, bn, ic, ix, s, d, z⟩), .int .i64 (checkF ⟨bc, bn, ic, ix, s, d, z⟩)]) ∧ Below w.heap.size w w' := by
  obtain ⟨k, hk⟩ : ∃ k, checkF ⟨bc, bn, ic, ix, s, d, z⟩ = k := ⟨_, rfl⟩
  by_cases h0 : k = 0
  · subst h0
    have hout : outF ⟨bc, bn, ic, ix, s, d, z⟩ = canonF ⟨bc, bn, ic, ix, s, d, z⟩ := by unfold outF; rw [if_pos hk]
    rw [hout, hk]
    by_cases h1 : s = 1
    · subst h1
      cases hn : noneF bc bn
      · cases ht : stackF ic ix
        · rw [show canonF _ = ⟨bc, bn, ic, ix, 1, d, z⟩ by simp [canonF, hn, ht]]
          exact canon_plain1 _ _ _ _ _ _ (hid hs) (hid hk) (hid hn) (hid ht) w
        · rw [show canonF _ = ⟨ic, ix, bc, bn, 1, d, z⟩ by simp [canonF, hn, ht]]
          exact canon_swap1 _ _ _ _ _ _ (hid hs) (hid hk) (hid hn) (hid ht) w
      · rw [show canonF _ = ⟨ic, ix, 0, 0, 0, d, z⟩ by simp [canonF, hn]]
        exact canon_base _ _ _ _ _ _ (hid hs) (hid hk) (hid hn) w
    · cases ht : stackF ic ix
      · rw [show canonF _ = ⟨bc, bn, ic, ix, s, d, z⟩ by simp [canonF, h1, ht]]
        exact canon_plain _ _ _ _ _ _ _ (hid hs) (hid hk) h1 (hid ht) w
      · rw [show canonF _ = ⟨ic, ix, bc, bn, s, d, z⟩ by simp [canonF, h1, ht]]
        exact canon_swap _ _ _ _ _ _ _ (hid hs) (hid hk) h1 (hid ht) w
  · have hout : outF ⟨bc, bn, ic, ix, s, d, z⟩ = ⟨0, 0, 0, 0, 0, 0, 0⟩ := by unfold outF; rw [if_neg (by rw [hk]; exact h0)]
    rw [hout, hk]
    exact canon_not _ _ _ _ _ _ _ k h0 (hid hs) (hid hk) w
theorem rcanon_any (bc bn ic ix s d z : Int) (w : World) :
    Calls Try.prog 52 #[.agg #[.int .i64 bc, .int .i64 bn, .int .i64 ic, .int .i64 ix, .int .i64 s, .int .i64 d, .int .i64 z]] w fun e w' => e = .returned (.tuple #[MV (outF ⟨bc, bn, ic, ix, s, d, z⟩), .int .i64 (checkF ⟨bc, bn, ic, ix, s, d, z⟩)]) ∧ Below w.heap.size w w' := by
  obtain ⟨k, hk⟩ : ∃ k, checkF ⟨bc, bn, ic, ix, s, d, z⟩ = k := ⟨_, rfl⟩
  by_cases h0 : k = 0
  · subst h0
    have hout : outF ⟨bc, bn, ic, ix, s, d, z⟩ = canonF ⟨bc, bn, ic, ix, s, d, z⟩ := by unfold outF; rw [if_pos hk]
    rw [hout, hk]
    by_cases h1 : s = 1
    · subst h1
      cases hn : noneF bc bn
      · obtain rfl : ic = 5 := (one_wide hk rfl).1
        by_cases h4 : ix = 4
        · subst h4
          rw [show canonF _ = ⟨5, 4, bc, bn, 1, d, z⟩ by simp [canonF, hn, stackF]]
          exact rcanon_swap _ _ _ _ _ (hid hk) (hid hn) w
        · rw [show canonF _ = ⟨bc, bn, 5, ix, 1, d, z⟩ by simp [canonF, hn, stackF, h4]]
          exact rcanon_one _ _ _ _ _ _ (hid hk) (hid hn) h4 w
      · rw [show canonF _ = ⟨ic, ix, 0, 0, 0, d, z⟩ by simp [canonF, hn]]
        exact rcanon_base _ _ _ _ _ _ (hid hk) (hid hn) w
    · have ht : stackF ic ix = false := Bool.eq_false_iff.2 fun ht => h1 (rsp_one hk ht)
      rw [show canonF _ = ⟨bc, bn, ic, ix, s, d, z⟩ by simp [canonF, h1, ht]]
      exact rcanon_plain _ _ _ _ _ _ _ (hid hk) h1 w
  · have hout : outF ⟨bc, bn, ic, ix, s, d, z⟩ = ⟨0, 0, 0, 0, 0, 0, 0⟩ := by unfold outF; rw [if_neg (by rw [hk]; exact h0)]
    rw [hout, hk]
    exact rcanon_not _ _ _ _ _ _ _ k h0 (hid hk) w
end Go.Proofs.Ytmlmdbholakioaa
