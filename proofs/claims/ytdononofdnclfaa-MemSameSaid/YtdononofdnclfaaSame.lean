/-
  Whether two places are the same: the program's Same and the document's, and the law's canon.
-/
import Derived.Test.YtdononofdnclfaaCanonAll
namespace Go.Proofs.Ytdononofdnclfaa
open Go.RowKit

def eqP (p q : Pl) : Bool := p.bc == q.bc && p.bn == q.bn && p.ic == q.ic && p.ix == q.ix && p.s == q.s && p.d == q.d && p.z == q.z
/-- Both may be, and are written alike. -/
def sameF (p q : Pl) : Bool := checkF p == 0 && checkF q == 0 && eqP (outF p) (outF q)
theorem canon_of {bc bn ic ix s d z : Int} {p : Pl} {k : Int} (hx : outF ⟨bc, bn, ic, ix, s, d, z⟩ = p) (hk : checkF ⟨bc, bn, ic, ix, s, d, z⟩ = k) (hs : I64 s) (w : World) :
    Calls Try.prog 8 #[.agg #[.int .i64 bc, .int .i64 bn, .int .i64 ic, .int .i64 ix, .int .i64 s, .int .i64 d, .int .i64 z]] w fun e w' => e = .returned (.tuple #[MV p, .int .i64 k]) ∧ Below w.heap.size w w' := by
  have := canon_any bc bn ic ix s d z hs w
  rw [hx, hk] at this
  exact this
theorem rcanon_of {bc bn ic ix s d z : Int} {p : Pl} {k : Int} (hx : outF ⟨bc, bn, ic, ix, s, d, z⟩ = p) (hk : checkF ⟨bc, bn, ic, ix, s, d, z⟩ = k) (w : World) :
    Calls Try.prog 9 #[.agg #[.int .i64 bc, .int .i64 bn, .int .i64 ic, .int .i64 ix, .int .i64 s, .int .i64 d, .int .i64 z]] w fun e w' => e = .returned (.tuple #[MV p, .int .i64 k]) ∧ Below w.heap.size w w' := by
  have := rcanon_any bc bn ic ix s d z w
  rw [hx, hk] at this
  exact this
set_option maxHeartbeats 1000000 in
theorem same_any (bc bn ic ix s d z bc' bn' ic' ix' s' d' z' : Int) (hs : I64 s) (hs' : I64 s') (w : World) :
    Calls Try.prog 12 #[.agg #[.int .i64 bc, .int .i64 bn, .int .i64 ic, .int .i64 ix, .int .i64 s, .int .i64 d, .int .i64 z], .agg #[.int .i64 bc', .int .i64 bn', .int .i64 ic', .int .i64 ix', .int .i64 s', .int .i64 d', .int .i64 z']] w fun e w' => e = .returned (.bool (sameF ⟨bc, bn, ic, ix, s, d, z⟩ ⟨bc', bn', ic', ix', s', d', z'⟩)) ∧ Below w.heap.size w w' := by
  obtain ⟨⟨x0, x1, x2, x3, x4, x5, x6⟩, hx⟩ : ∃ x, outF ⟨bc, bn, ic, ix, s, d, z⟩ = x := ⟨_, rfl⟩
  obtain ⟨⟨y0, y1, y2, y3, y4, y5, y6⟩, hy⟩ : ∃ x, outF ⟨bc', bn', ic', ix', s', d', z'⟩ = x := ⟨_, rfl⟩
  obtain ⟨k, hk⟩ : ∃ k, checkF ⟨bc, bn, ic, ix, s, d, z⟩ = k := ⟨_, rfl⟩
  obtain ⟨k', hk'⟩ : ∃ k, checkF ⟨bc', bn', ic', ix', s', d', z'⟩ = k := ⟨_, rfl⟩
  have HE := hid (show sameF ⟨bc, bn, ic, ix, s, d, z⟩ ⟨bc', bn', ic', ix', s', d', z'⟩ = (k == 0 && k' == 0 && eqP ⟨x0, x1, x2, x3, x4, x5, x6⟩ ⟨y0, y1, y2, y3, y4, y5, y6⟩) by simp only [sameF, hx, hy, hk, hk'])
  have HS1 := hid hs
  have HS2 := hid hs'
  clear hs hs'
  have HX := hid hx
  have HY := hid hy
  have HK := hid hk
  have HK' := hid hk'
  clear hx hy hk hk'
  rw [HE.out]
  clear HE
  by_cases h1 : k = 0
  all_goals
    by_cases h2 : k' = 0
    all_goals
      go_enter Try.func12, Try.ntmps12
      go_wp2_with fail
      refine (canon_of HX.out HK.out HS1.out _).mono ?_
      rintro e w1 ⟨rfl, hb1⟩
      obtain ⟨hc1, hf1⟩ := bcell hb1
      have HB1 := hid (show Below w.heap.size w w1 from (((Below.refl _ _).alloc (Nat.le_refl _) _).alloc (by simp) _).trans (hb1.mono (by simp; omega)))
      have hz1 : w.heap.size + 1 < w1.heap.size := by have := hb1.size; simp at this; omega
      have b0 : w1.cell? ⟨w.heap.size + 1, 0, none⟩ = some (.int .i64 bc') := by rw [hc1 _ _ (by simp)]; simp [cell_new]
      have b1 : w1.cell? ⟨w.heap.size + 1, 1, none⟩ = some (.int .i64 bn') := by rw [hc1 _ _ (by simp)]; simp [cell_new]
      have b2 : w1.cell? ⟨w.heap.size + 1, 2, none⟩ = some (.int .i64 ic') := by rw [hc1 _ _ (by simp)]; simp [cell_new]
      have b3 : w1.cell? ⟨w.heap.size + 1, 3, none⟩ = some (.int .i64 ix') := by rw [hc1 _ _ (by simp)]; simp [cell_new]
      have b4 : w1.cell? ⟨w.heap.size + 1, 4, none⟩ = some (.int .i64 s') := by rw [hc1 _ _ (by simp)]; simp [cell_new]
      have b5 : w1.cell? ⟨w.heap.size + 1, 5, none⟩ = some (.int .i64 d') := by rw [hc1 _ _ (by simp)]; simp [cell_new]
      have b6 : w1.cell? ⟨w.heap.size + 1, 6, none⟩ = some (.int .i64 z') := by rw [hc1 _ _ (by simp)]; simp [cell_new]
      clear hc1 hf1 hb1
      go_wp2_with fail
      refine (canon_of HY.out HK'.out HS2.out _).mono ?_
      rintro e w2 ⟨rfl, hb2⟩
      obtain ⟨hc2, hf2⟩ := bcell hb2
      have hz2 : w1.heap.size < w2.heap.size := by have := hb2.size; simp at this; omega
      have HB2 := hid (show Below w.heap.size w w2 from (HB1.out.alloc HB1.out.size _).trans (hb2.mono (by simp; exact Nat.le_succ_of_le HB1.out.size)))
      have c0 : w2.cell? ⟨w1.heap.size, 0, none⟩ = some (.int .i64 x0) := by rw [hc2 _ _ (by simp)]; simp [cell_new]
      have c1 : w2.cell? ⟨w1.heap.size, 1, none⟩ = some (.int .i64 x1) := by rw [hc2 _ _ (by simp)]; simp [cell_new]
      have c2 : w2.cell? ⟨w1.heap.size, 2, none⟩ = some (.int .i64 x2) := by rw [hc2 _ _ (by simp)]; simp [cell_new]
      have c3 : w2.cell? ⟨w1.heap.size, 3, none⟩ = some (.int .i64 x3) := by rw [hc2 _ _ (by simp)]; simp [cell_new]
      have c4 : w2.cell? ⟨w1.heap.size, 4, none⟩ = some (.int .i64 x4) := by rw [hc2 _ _ (by simp)]; simp [cell_new]
      have c5 : w2.cell? ⟨w1.heap.size, 5, none⟩ = some (.int .i64 x5) := by rw [hc2 _ _ (by simp)]; simp [cell_new]
      have c6 : w2.cell? ⟨w1.heap.size, 6, none⟩ = some (.int .i64 x6) := by rw [hc2 _ _ (by simp)]; simp [cell_new]
      clear hc2 hf2 hb2
      go_wp2_with fail
      all_goals
        go_returns
        exact ⟨by simp_all [eqP], HB2.out.alloc HB2.out.size _⟩
set_option maxHeartbeats 1000000 in
theorem rsame_any (bc bn ic ix s d z bc' bn' ic' ix' s' d' z' : Int) (w : World) :
    Calls Try.prog 13 #[.agg #[.int .i64 bc, .int .i64 bn, .int .i64 ic, .int .i64 ix, .int .i64 s, .int .i64 d, .int .i64 z], .agg #[.int .i64 bc', .int .i64 bn', .int .i64 ic', .int .i64 ix', .int .i64 s', .int .i64 d', .int .i64 z']] w fun e w' => e = .returned (.bool (sameF ⟨bc, bn, ic, ix, s, d, z⟩ ⟨bc', bn', ic', ix', s', d', z'⟩)) ∧ Below w.heap.size w w' := by
  obtain ⟨⟨x0, x1, x2, x3, x4, x5, x6⟩, hx⟩ : ∃ x, outF ⟨bc, bn, ic, ix, s, d, z⟩ = x := ⟨_, rfl⟩
  obtain ⟨⟨y0, y1, y2, y3, y4, y5, y6⟩, hy⟩ : ∃ x, outF ⟨bc', bn', ic', ix', s', d', z'⟩ = x := ⟨_, rfl⟩
  obtain ⟨k, hk⟩ : ∃ k, checkF ⟨bc, bn, ic, ix, s, d, z⟩ = k := ⟨_, rfl⟩
  obtain ⟨k', hk'⟩ : ∃ k, checkF ⟨bc', bn', ic', ix', s', d', z'⟩ = k := ⟨_, rfl⟩
  have HE := hid (show sameF ⟨bc, bn, ic, ix, s, d, z⟩ ⟨bc', bn', ic', ix', s', d', z'⟩ = (k == 0 && k' == 0 && eqP ⟨x0, x1, x2, x3, x4, x5, x6⟩ ⟨y0, y1, y2, y3, y4, y5, y6⟩) by simp only [sameF, hx, hy, hk, hk'])
  have HX := hid hx
  have HY := hid hy
  have HK := hid hk
  have HK' := hid hk'
  clear hx hy hk hk'
  rw [HE.out]
  clear HE
  by_cases h1 : k = 0
  all_goals
    by_cases h2 : k' = 0
    all_goals
      go_enter Try.func13, Try.ntmps13
      go_wp2_with fail
      refine (rcanon_of HX.out HK.out _).mono ?_
      rintro e w1 ⟨rfl, hb1⟩
      obtain ⟨hc1, hf1⟩ := bcell hb1
      have HB1 := hid (show Below w.heap.size w w1 from (((Below.refl _ _).alloc (Nat.le_refl _) _).alloc (by simp) _).trans (hb1.mono (by simp; omega)))
      have hz1 : w.heap.size + 1 < w1.heap.size := by have := hb1.size; simp at this; omega
      have b0 : w1.cell? ⟨w.heap.size + 1, 0, none⟩ = some (.int .i64 bc') := by rw [hc1 _ _ (by simp)]; simp [cell_new]
      have b1 : w1.cell? ⟨w.heap.size + 1, 1, none⟩ = some (.int .i64 bn') := by rw [hc1 _ _ (by simp)]; simp [cell_new]
      have b2 : w1.cell? ⟨w.heap.size + 1, 2, none⟩ = some (.int .i64 ic') := by rw [hc1 _ _ (by simp)]; simp [cell_new]
      have b3 : w1.cell? ⟨w.heap.size + 1, 3, none⟩ = some (.int .i64 ix') := by rw [hc1 _ _ (by simp)]; simp [cell_new]
      have b4 : w1.cell? ⟨w.heap.size + 1, 4, none⟩ = some (.int .i64 s') := by rw [hc1 _ _ (by simp)]; simp [cell_new]
      have b5 : w1.cell? ⟨w.heap.size + 1, 5, none⟩ = some (.int .i64 d') := by rw [hc1 _ _ (by simp)]; simp [cell_new]
      have b6 : w1.cell? ⟨w.heap.size + 1, 6, none⟩ = some (.int .i64 z') := by rw [hc1 _ _ (by simp)]; simp [cell_new]
      clear hc1 hf1 hb1
      go_wp2_with fail
      refine (rcanon_of HY.out HK'.out _).mono ?_
      rintro e w2 ⟨rfl, hb2⟩
      obtain ⟨hc2, hf2⟩ := bcell hb2
      have hz2 : w1.heap.size < w2.heap.size := by have := hb2.size; simp at this; omega
      have HB2 := hid (show Below w.heap.size w w2 from (HB1.out.alloc HB1.out.size _).trans (hb2.mono (by simp; exact Nat.le_succ_of_le HB1.out.size)))
      have c0 : w2.cell? ⟨w1.heap.size, 0, none⟩ = some (.int .i64 x0) := by rw [hc2 _ _ (by simp)]; simp [cell_new]
      have c1 : w2.cell? ⟨w1.heap.size, 1, none⟩ = some (.int .i64 x1) := by rw [hc2 _ _ (by simp)]; simp [cell_new]
      have c2 : w2.cell? ⟨w1.heap.size, 2, none⟩ = some (.int .i64 x2) := by rw [hc2 _ _ (by simp)]; simp [cell_new]
      have c3 : w2.cell? ⟨w1.heap.size, 3, none⟩ = some (.int .i64 x3) := by rw [hc2 _ _ (by simp)]; simp [cell_new]
      have c4 : w2.cell? ⟨w1.heap.size, 4, none⟩ = some (.int .i64 x4) := by rw [hc2 _ _ (by simp)]; simp [cell_new]
      have c5 : w2.cell? ⟨w1.heap.size, 5, none⟩ = some (.int .i64 x5) := by rw [hc2 _ _ (by simp)]; simp [cell_new]
      have c6 : w2.cell? ⟨w1.heap.size, 6, none⟩ = some (.int .i64 x6) := by rw [hc2 _ _ (by simp)]; simp [cell_new]
      clear hc2 hf2 hb2
      go_wp2_with fail
      all_goals
        go_returns
        exact ⟨by simp_all [eqP], HB2.out.alloc HB2.out.size _⟩
end Go.Proofs.Ytdononofdnclfaa
