/-
  The heads of whatever place there is in its canonical form.
-/
import Derived.Test.YtiiepdgpnnjpiaaDoorHeads
namespace Go.Proofs.YtiiepdgpnnjpiaaDoor
open Go.RowKit

/-- A place in its canonical form. -/
def Shape (m : Pl) : Prop :=
  (m.bc = 8 ∧ m.bn = 0 ∧ m.ic = 0 ∧ m.ix = 0 ∧ m.s = 0) ∨ (m.bc = 0 ∧ m.bn = 0 ∧ m.ic = 0 ∧ m.ix = 0 ∧ m.s = 0) ∨ (m.bc = 0 ∧ m.bn = 0 ∧ m.ic = 5 ∧ (0 ≤ m.ix ∧ m.ix < 16 ∧ ¬ m.ix = 4) ∧ (m.s = 2 ∨ m.s = 4 ∨ m.s = 8)) ∨
  (m.bc = 5 ∧ (0 ≤ m.bn ∧ m.bn < 16) ∧ m.ic = 5 ∧ (0 ≤ m.ix ∧ m.ix < 16 ∧ ¬ m.ix = 4) ∧ (m.s = 1 ∨ m.s = 2 ∨ m.s = 4 ∨ m.s = 8)) ∨ (m.bc = 5 ∧ (0 ≤ m.bn ∧ m.bn < 16) ∧ m.ic = 0 ∧ m.ix = 0 ∧ m.s = 0)
def D32 (d : Int) : Prop := -2147483648 ≤ d ∧ d ≤ 2147483647
theorem canon_shape {p : Pl} (h : checkF p = 0) : Shape (canonF p) ∧ D32 (canonF p).d ∧ (canonF p).d = p.d ∧ (canonF p).z = p.z := by
  obtain ⟨hd, hz, hb, hi⟩ := ok_parts h
  obtain ⟨bc, bn, ic, ix, s, d, z⟩ := p
  simp only at hd hz hb hi
  have hD : D32 d := by unfold D32; omega
  unfold indexedF at hi
  simp only at hi
  have hcd : ∀ q : Pl, q = canonF ⟨bc, bn, ic, ix, s, d, z⟩ → q.d = d ∧ q.z = z := by
    rintro q rfl
    unfold canonF
    (repeat' split) <;> exact ⟨rfl, rfl⟩
  obtain ⟨e1, e2⟩ := hcd _ rfl
  refine ⟨?_, by rw [e1]; exact hD, e1, e2⟩
  clear e1 e2 hcd hD hd hz h
  unfold basedF at hb
  simp only [Bool.or_eq_true, noneF, wideF, Bool.and_eq_true, beq_iff_eq, decide_eq_true_iff] at hb
  by_cases hn : ic = 0 ∧ ix = 0
  · obtain ⟨rfl, rfl⟩ := hn
    simp only [noneF, beq_self_eq_true, Bool.and_self, if_true, beq_iff_eq] at hi
    subst hi
    have : canonF ⟨bc, bn, 0, 0, 0, d, z⟩ = ⟨bc, bn, 0, 0, 0, d, z⟩ := by simp [canonF, stackF]
    rw [this]
    rcases hb with (⟨rfl, rfl⟩ | ⟨rfl, h0, h1⟩) | ⟨rfl, rfl⟩
    · exact .inr (.inl ⟨rfl, rfl, rfl, rfl, rfl⟩)
    · exact .inr (.inr (.inr (.inr ⟨rfl, ⟨h0, h1⟩, rfl, rfl, rfl⟩)))
    · exact .inl ⟨rfl, rfl, rfl, rfl, rfl⟩
  · have hn' : noneF ic ix = false := by simp [noneF]; intro h; intro h2; exact hn ⟨h, h2⟩
    rw [hn'] at hi
    simp only [Bool.false_eq_true, if_false] at hi
    split at hi
    · cases hi
    · rename_i hq
      simp only [Bool.or_eq_true, Bool.not_eq_true', beq_iff_eq, not_or, Bool.not_eq_false] at hq
      obtain ⟨⟨hs, hw⟩, h8⟩ := hq
      simp only [wideF, Bool.and_eq_true, beq_iff_eq, decide_eq_true_iff] at hw
      obtain ⟨rfl, hx0, hx1⟩ := hw
      simp only [scaleF, Bool.or_eq_true, beq_iff_eq] at hs
      by_cases h4 : ix = 4
      · subst h4
        simp only [stackF, beq_self_eq_true, Bool.and_self, if_true, Bool.and_eq_true, beq_iff_eq, Bool.not_eq_true'] at hi
        obtain ⟨rfl, hst⟩ := hi
        rcases hb with (⟨rfl, rfl⟩ | ⟨rfl, h0, h1⟩) | ⟨rfl, rfl⟩
        · have : canonF ⟨0, 0, 5, 4, 1, d, z⟩ = ⟨5, 4, 0, 0, 0, d, z⟩ := by simp [canonF, noneF]
          rw [this]
          exact .inr (.inr (.inr (.inr ⟨rfl, ⟨by simp, by simp⟩, rfl, rfl, rfl⟩)))
        · have hbn : ¬ bn = 4 := by rintro rfl; simp at hst
          have : canonF ⟨5, bn, 5, 4, 1, d, z⟩ = ⟨5, 4, 5, bn, 1, d, z⟩ := by simp [canonF, noneF, stackF]
          rw [this]
          exact .inr (.inr (.inr (.inl ⟨rfl, ⟨by simp, by simp⟩, rfl, ⟨h0, h1, hbn⟩, .inl rfl⟩)))
        · exact absurd rfl h8
      · rcases hb with (⟨rfl, rfl⟩ | ⟨rfl, h0, h1⟩) | ⟨rfl, rfl⟩
        · by_cases h1 : s = 1
          · subst h1
            have : canonF ⟨0, 0, 5, ix, 1, d, z⟩ = ⟨5, ix, 0, 0, 0, d, z⟩ := by simp [canonF, noneF]
            rw [this]
            exact .inr (.inr (.inr (.inr ⟨rfl, ⟨hx0, hx1⟩, rfl, rfl, rfl⟩)))
          · have : canonF ⟨0, 0, 5, ix, s, d, z⟩ = ⟨0, 0, 5, ix, s, d, z⟩ := by simp [canonF, stackF, h1, h4]
            rw [this]
            exact .inr (.inr (.inl ⟨rfl, rfl, rfl, ⟨hx0, hx1, h4⟩, by show s = 2 ∨ s = 4 ∨ s = 8; omega⟩))
        · have : canonF ⟨5, bn, 5, ix, s, d, z⟩ = ⟨5, bn, 5, ix, s, d, z⟩ := by simp [canonF, noneF, stackF, h4]
          rw [this]
          exact .inr (.inr (.inr (.inl ⟨rfl, ⟨h0, h1⟩, rfl, ⟨hx0, hx1, h4⟩, by show s = 1 ∨ s = 2 ∨ s = 4 ∨ s = 8; omega⟩)))
        · exact absurd rfl h8
theorem heads_any (m : Pl) (hm : Shape m) (w : World) (ht : Tz w) :
    Calls Tryd.prog 48 #[MV m] w fun e w' => ∃ v, e = .returned v ∧ Below w.heap.size w w' ∧ Heads w' w.heap.size v (headsF m) := by
  obtain ⟨bc, bn, ic, ix, s, d, z⟩ := m
  unfold Shape at hm
  simp only at hm
  rcases hm with ⟨rfl, rfl, rfl, rfl, rfl⟩ | ⟨rfl, rfl, rfl, rfl, rfl⟩ | ⟨rfl, rfl, rfl, hx, hs⟩ | ⟨rfl, hn, rfl, hx, hs⟩ | ⟨rfl, hn, rfl, rfl, rfl⟩
  · exact heads_rip _ _ _ _ _ _ w
  · exact heads_bare 0 0 0 d z ixok_zero w ht
  · have e : headsF ⟨0, 0, 5, ix, s, d, z⟩ = [indexedH 5 ix s] := by simp [headsF, noneF]
    rw [e]
    exact heads_bare 5 ix s d z (.inr ⟨rfl, .inr hs⟩) w ht
  · have e : headsF ⟨5, bn, 5, ix, s, d, z⟩ = [basedH 5 bn 5 ix s] := by simp [headsF, noneF]
    rw [e]
    exact heads_both bn ix s d z hs w ht
  · have e : headsF ⟨5, bn, 0, 0, 0, d, z⟩ = (if lowF 5 bn = 4 then [] else [lowH bn]) ++ basedH 5 bn 0 0 0 :: (if bn = 4 then [] else [indexedH 5 bn 1]) := by
      simp [headsF, noneF, lowH]
    rw [e]
    by_cases h1 : lowF 5 bn = 4
    · by_cases h2 : bn = 4
      · rw [if_pos h1, if_pos h2]
        exact heads_rsp bn d z (by simp [h1]) (by simp [h2]) w ht
      · rw [if_pos h1, if_neg h2]
        exact heads_two bn d z (by simp [h1]) (by simp [h2]) w ht
    · have h2 : ¬ bn = 4 := by rintro rfl; exact h1 (by simp [lowF, validF, spanF])
      rw [if_neg h1, if_neg h2]
      exact heads_three bn d z (by simp [h1]) (by simp [h2]) w ht
end Go.Proofs.YtiiepdgpnnjpiaaDoor
