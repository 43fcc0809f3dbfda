/-
  The walk of MemTells.
-/
import Derived.Test.YtdononofdnclfaaPlaced
import Derived.Deep.RegionHeld3
namespace Go.Proofs.Ytdononofdnclfaa
open Go.RowKit

/-- Whatever stood in W stands. -/
def Old (W w' : World) : Prop := Below W.heap.size W w' ∧ ∀ b o, b < W.heap.size → w'.cell? ⟨b, o, none⟩ = W.cell? ⟨b, o, none⟩
theorem Old.of {W w' : World} (h : Below W.heap.size W w') : Below W.heap.size W w' ∧ ∀ b o, b < W.heap.size → w'.cell? ⟨b, o, none⟩ = W.cell? ⟨b, o, none⟩ := ⟨h, (bcell h).1⟩
theorem old_drew {W w' : World} (h : Below W.heap.size W w' ∧ ∀ b o, b < W.heap.size → w'.cell? ⟨b, o, none⟩ = W.cell? ⟨b, o, none⟩) : Below W.heap.size W w'.drew ∧ ∀ b o, b < W.heap.size → w'.drew.cell? ⟨b, o, none⟩ = W.cell? ⟨b, o, none⟩ := Old.of h.1.drew
theorem old_kept {W w' w'' : World} (h : Below W.heap.size W w' ∧ ∀ b o, b < W.heap.size → w'.cell? ⟨b, o, none⟩ = W.cell? ⟨b, o, none⟩) (hb : Below w'.heap.size w' w'') : Below W.heap.size W w'' ∧ ∀ b o, b < W.heap.size → w''.cell? ⟨b, o, none⟩ = W.cell? ⟨b, o, none⟩ := Old.of (h.1.trans (hb.mono h.1.size))
theorem same_of {bc bn ic ix s d z bc' bn' ic' ix' s' d' z' : Int} {v : Bool} (h : sameF ⟨bc, bn, ic, ix, s, d, z⟩ ⟨bc', bn', ic', ix', s', d', z'⟩ = v) (hs : I64 s) (hs' : I64 s') (w : World) :
    Calls Try.prog 12 #[.agg #[.int .i64 bc, .int .i64 bn, .int .i64 ic, .int .i64 ix, .int .i64 s, .int .i64 d, .int .i64 z], .agg #[.int .i64 bc', .int .i64 bn', .int .i64 ic', .int .i64 ix', .int .i64 s', .int .i64 d', .int .i64 z']] w fun e w' => e = .returned (.bool v) ∧ Below w.heap.size w w' := by
  have := same_any bc bn ic ix s d z bc' bn' ic' ix' s' d' z' hs hs' w
  rw [h] at this
  exact this
theorem rsame_of {bc bn ic ix s d z bc' bn' ic' ix' s' d' z' : Int} {v : Bool} (h : sameF ⟨bc, bn, ic, ix, s, d, z⟩ ⟨bc', bn', ic', ix', s', d', z'⟩ = v) (w : World) :
    Calls Try.prog 13 #[.agg #[.int .i64 bc, .int .i64 bn, .int .i64 ic, .int .i64 ix, .int .i64 s, .int .i64 d, .int .i64 z], .agg #[.int .i64 bc', .int .i64 bn', .int .i64 ic', .int .i64 ix', .int .i64 s', .int .i64 d', .int .i64 z']] w fun e w' => e = .returned (.bool v) ∧ Below w.heap.size w w' := by
  have := rsame_any bc bn ic ix s d z bc' bn' ic' ix' s' d' z' w
  rw [h] at this
  exact this
set_option maxHeartbeats 4000000 in
theorem tells_law (bc bn ic ix s d z bc' bn' ic' ix' s' d' z' : Int) (w : World) (hs : I64 s) (hs' : I64 s') :
    Calls Try.prog 3 #[.agg #[.int .i64 bc, .int .i64 bn, .int .i64 ic, .int .i64 ix, .int .i64 s, .int .i64 d, .int .i64 z], .agg #[.int .i64 bc', .int .i64 bn', .int .i64 ic', .int .i64 ix', .int .i64 s', .int .i64 d', .int .i64 z']] w fun e w' => e = .returned (.bool true) ∧ Below w.heap.size w w' := by
  obtain ⟨⟨x0, x1, x2, x3, x4, x5, x6⟩, hx⟩ : ∃ x, outF ⟨bc, bn, ic, ix, s, d, z⟩ = x := ⟨_, rfl⟩
  obtain ⟨k, hk⟩ : ∃ k, checkF ⟨bc, bn, ic, ix, s, d, z⟩ = k := ⟨_, rfl⟩
  obtain ⟨v, hv⟩ : ∃ v, sameF ⟨bc, bn, ic, ix, s, d, z⟩ ⟨bc', bn', ic', ix', s', d', z'⟩ = v := ⟨_, rfl⟩
  have HX := hid hx
  have HK := hid hk
  have HE := hid hv
  have HS := hid hs
  have HT := hid hs'
  clear hx hk hv hs hs'
  go_enter Try.func3, Try.ntmps3
  go_wp2_with fail
  refine (canon_of HX.out HK.out HS.out _).mono ?_
  rintro e w1 ⟨rfl, hb1⟩
  obtain ⟨hc1, hf1⟩ := bcell hb1
  have HB1 := hid (show Below w.heap.size w w1 from (((Below.refl _ _).alloc (Nat.le_refl _) _).alloc (by simp) _).trans (hb1.mono (by simp; omega)))
  have hz1 : w.heap.size + 1 < w1.heap.size := by have := hb1.size; simp at this; omega
  have hz0 : w.heap.size < w1.heap.size := by omega
  have a0 : w1.cell? ⟨w.heap.size, 0, none⟩ = some (.int .i64 bc) := by rw [hc1 _ _ (by simp; omega)]; simp [cell_alloc_lt, cell_new]
  have a1 : w1.cell? ⟨w.heap.size, 1, none⟩ = some (.int .i64 bn) := by rw [hc1 _ _ (by simp; omega)]; simp [cell_alloc_lt, cell_new]
  have a2 : w1.cell? ⟨w.heap.size, 2, none⟩ = some (.int .i64 ic) := by rw [hc1 _ _ (by simp; omega)]; simp [cell_alloc_lt, cell_new]
  have a3 : w1.cell? ⟨w.heap.size, 3, none⟩ = some (.int .i64 ix) := by rw [hc1 _ _ (by simp; omega)]; simp [cell_alloc_lt, cell_new]
  have a4 : w1.cell? ⟨w.heap.size, 4, none⟩ = some (.int .i64 s) := by rw [hc1 _ _ (by simp; omega)]; simp [cell_alloc_lt, cell_new]
  have a5 : w1.cell? ⟨w.heap.size, 5, none⟩ = some (.int .i64 d) := by rw [hc1 _ _ (by simp; omega)]; simp [cell_alloc_lt, cell_new]
  have a6 : w1.cell? ⟨w.heap.size, 6, none⟩ = some (.int .i64 z) := by rw [hc1 _ _ (by simp; omega)]; simp [cell_alloc_lt, cell_new]
  have b0 : w1.cell? ⟨w.heap.size + 1, 0, none⟩ = some (.int .i64 bc') := by rw [hc1 _ _ (by simp)]; simp [cell_new]
  have b1 : w1.cell? ⟨w.heap.size + 1, 1, none⟩ = some (.int .i64 bn') := by rw [hc1 _ _ (by simp)]; simp [cell_new]
  have b2 : w1.cell? ⟨w.heap.size + 1, 2, none⟩ = some (.int .i64 ic') := by rw [hc1 _ _ (by simp)]; simp [cell_new]
  have b3 : w1.cell? ⟨w.heap.size + 1, 3, none⟩ = some (.int .i64 ix') := by rw [hc1 _ _ (by simp)]; simp [cell_new]
  have b4 : w1.cell? ⟨w.heap.size + 1, 4, none⟩ = some (.int .i64 s') := by rw [hc1 _ _ (by simp)]; simp [cell_new]
  have b5 : w1.cell? ⟨w.heap.size + 1, 5, none⟩ = some (.int .i64 d') := by rw [hc1 _ _ (by simp)]; simp [cell_new]
  have b6 : w1.cell? ⟨w.heap.size + 1, 6, none⟩ = some (.int .i64 z') := by rw [hc1 _ _ (by simp)]; simp [cell_new]
  clear hc1 hf1 hb1
  go_wp2_with fail
  refine (rcanon_of HX.out HK.out _).mono ?_
  rintro e w2 ⟨rfl, hb2⟩
  obtain ⟨hc2, hf2⟩ := bcell hb2
  have HB2 := hid (show Below w.heap.size w w2 from (HB1.out.alloc HB1.out.size _).trans (hb2.mono (by simp; exact Nat.le_succ_of_le HB1.out.size)))
  have hz2 : w1.heap.size < w2.heap.size := by have := hb2.size; simp at this; omega
  have a'0 : w2.cell? ⟨w.heap.size, 0, none⟩ = some (.int .i64 bc) := by rw [hc2 _ _ (by simp; omega)]; rw [cell_alloc_lt _ _ _ _ hz0]; exact a0
  have a'1 : w2.cell? ⟨w.heap.size, 1, none⟩ = some (.int .i64 bn) := by rw [hc2 _ _ (by simp; omega)]; rw [cell_alloc_lt _ _ _ _ hz0]; exact a1
  have a'2 : w2.cell? ⟨w.heap.size, 2, none⟩ = some (.int .i64 ic) := by rw [hc2 _ _ (by simp; omega)]; rw [cell_alloc_lt _ _ _ _ hz0]; exact a2
  have a'3 : w2.cell? ⟨w.heap.size, 3, none⟩ = some (.int .i64 ix) := by rw [hc2 _ _ (by simp; omega)]; rw [cell_alloc_lt _ _ _ _ hz0]; exact a3
  have a'4 : w2.cell? ⟨w.heap.size, 4, none⟩ = some (.int .i64 s) := by rw [hc2 _ _ (by simp; omega)]; rw [cell_alloc_lt _ _ _ _ hz0]; exact a4
  have a'5 : w2.cell? ⟨w.heap.size, 5, none⟩ = some (.int .i64 d) := by rw [hc2 _ _ (by simp; omega)]; rw [cell_alloc_lt _ _ _ _ hz0]; exact a5
  have a'6 : w2.cell? ⟨w.heap.size, 6, none⟩ = some (.int .i64 z) := by rw [hc2 _ _ (by simp; omega)]; rw [cell_alloc_lt _ _ _ _ hz0]; exact a6
  have b'0 : w2.cell? ⟨w.heap.size + 1, 0, none⟩ = some (.int .i64 bc') := by rw [hc2 _ _ (by simp; omega)]; rw [cell_alloc_lt _ _ _ _ hz1]; exact b0
  have b'1 : w2.cell? ⟨w.heap.size + 1, 1, none⟩ = some (.int .i64 bn') := by rw [hc2 _ _ (by simp; omega)]; rw [cell_alloc_lt _ _ _ _ hz1]; exact b1
  have b'2 : w2.cell? ⟨w.heap.size + 1, 2, none⟩ = some (.int .i64 ic') := by rw [hc2 _ _ (by simp; omega)]; rw [cell_alloc_lt _ _ _ _ hz1]; exact b2
  have b'3 : w2.cell? ⟨w.heap.size + 1, 3, none⟩ = some (.int .i64 ix') := by rw [hc2 _ _ (by simp; omega)]; rw [cell_alloc_lt _ _ _ _ hz1]; exact b3
  have b'4 : w2.cell? ⟨w.heap.size + 1, 4, none⟩ = some (.int .i64 s') := by rw [hc2 _ _ (by simp; omega)]; rw [cell_alloc_lt _ _ _ _ hz1]; exact b4
  have b'5 : w2.cell? ⟨w.heap.size + 1, 5, none⟩ = some (.int .i64 d') := by rw [hc2 _ _ (by simp; omega)]; rw [cell_alloc_lt _ _ _ _ hz1]; exact b5
  have b'6 : w2.cell? ⟨w.heap.size + 1, 6, none⟩ = some (.int .i64 z') := by rw [hc2 _ _ (by simp; omega)]; rw [cell_alloc_lt _ _ _ _ hz1]; exact b6
  have c'0 : w2.cell? ⟨w1.heap.size, 0, none⟩ = some (.int .i64 x0) := by rw [hc2 _ _ (by simp)]; simp [cell_new]
  have c'1 : w2.cell? ⟨w1.heap.size, 1, none⟩ = some (.int .i64 x1) := by rw [hc2 _ _ (by simp)]; simp [cell_new]
  have c'2 : w2.cell? ⟨w1.heap.size, 2, none⟩ = some (.int .i64 x2) := by rw [hc2 _ _ (by simp)]; simp [cell_new]
  have c'3 : w2.cell? ⟨w1.heap.size, 3, none⟩ = some (.int .i64 x3) := by rw [hc2 _ _ (by simp)]; simp [cell_new]
  have c'4 : w2.cell? ⟨w1.heap.size, 4, none⟩ = some (.int .i64 x4) := by rw [hc2 _ _ (by simp)]; simp [cell_new]
  have c'5 : w2.cell? ⟨w1.heap.size, 5, none⟩ = some (.int .i64 x5) := by rw [hc2 _ _ (by simp)]; simp [cell_new]
  have c'6 : w2.cell? ⟨w1.heap.size, 6, none⟩ = some (.int .i64 x6) := by rw [hc2 _ _ (by simp)]; simp [cell_new]
  clear hc2 hf2 hb2 a0 b0 a1 b1 a2 b2 a3 b3 a4 b4 a5 b5 a6 b6
  go_wp2_with fail
  have a0 : (w2.alloc (.cells #[.int .i64 x0, .int .i64 x1, .int .i64 x2, .int .i64 x3, .int .i64 x4, .int .i64 x5, .int .i64 x6] 25)).cell? ⟨w.heap.size, 0, none⟩ = some (.int .i64 bc) := by rw [cell_alloc_lt _ _ _ _ (by omega)]; exact a'0
  have a1 : (w2.alloc (.cells #[.int .i64 x0, .int .i64 x1, .int .i64 x2, .int .i64 x3, .int .i64 x4, .int .i64 x5, .int .i64 x6] 25)).cell? ⟨w.heap.size, 1, none⟩ = some (.int .i64 bn) := by rw [cell_alloc_lt _ _ _ _ (by omega)]; exact a'1
  have a2 : (w2.alloc (.cells #[.int .i64 x0, .int .i64 x1, .int .i64 x2, .int .i64 x3, .int .i64 x4, .int .i64 x5, .int .i64 x6] 25)).cell? ⟨w.heap.size, 2, none⟩ = some (.int .i64 ic) := by rw [cell_alloc_lt _ _ _ _ (by omega)]; exact a'2
  have a3 : (w2.alloc (.cells #[.int .i64 x0, .int .i64 x1, .int .i64 x2, .int .i64 x3, .int .i64 x4, .int .i64 x5, .int .i64 x6] 25)).cell? ⟨w.heap.size, 3, none⟩ = some (.int .i64 ix) := by rw [cell_alloc_lt _ _ _ _ (by omega)]; exact a'3
  have a4 : (w2.alloc (.cells #[.int .i64 x0, .int .i64 x1, .int .i64 x2, .int .i64 x3, .int .i64 x4, .int .i64 x5, .int .i64 x6] 25)).cell? ⟨w.heap.size, 4, none⟩ = some (.int .i64 s) := by rw [cell_alloc_lt _ _ _ _ (by omega)]; exact a'4
  have a5 : (w2.alloc (.cells #[.int .i64 x0, .int .i64 x1, .int .i64 x2, .int .i64 x3, .int .i64 x4, .int .i64 x5, .int .i64 x6] 25)).cell? ⟨w.heap.size, 5, none⟩ = some (.int .i64 d) := by rw [cell_alloc_lt _ _ _ _ (by omega)]; exact a'5
  have a6 : (w2.alloc (.cells #[.int .i64 x0, .int .i64 x1, .int .i64 x2, .int .i64 x3, .int .i64 x4, .int .i64 x5, .int .i64 x6] 25)).cell? ⟨w.heap.size, 6, none⟩ = some (.int .i64 z) := by rw [cell_alloc_lt _ _ _ _ (by omega)]; exact a'6
  have b0 : (w2.alloc (.cells #[.int .i64 x0, .int .i64 x1, .int .i64 x2, .int .i64 x3, .int .i64 x4, .int .i64 x5, .int .i64 x6] 25)).cell? ⟨w.heap.size + 1, 0, none⟩ = some (.int .i64 bc') := by rw [cell_alloc_lt _ _ _ _ (by omega)]; exact b'0
  have b1 : (w2.alloc (.cells #[.int .i64 x0, .int .i64 x1, .int .i64 x2, .int .i64 x3, .int .i64 x4, .int .i64 x5, .int .i64 x6] 25)).cell? ⟨w.heap.size + 1, 1, none⟩ = some (.int .i64 bn') := by rw [cell_alloc_lt _ _ _ _ (by omega)]; exact b'1
  have b2 : (w2.alloc (.cells #[.int .i64 x0, .int .i64 x1, .int .i64 x2, .int .i64 x3, .int .i64 x4, .int .i64 x5, .int .i64 x6] 25)).cell? ⟨w.heap.size + 1, 2, none⟩ = some (.int .i64 ic') := by rw [cell_alloc_lt _ _ _ _ (by omega)]; exact b'2
  have b3 : (w2.alloc (.cells #[.int .i64 x0, .int .i64 x1, .int .i64 x2, .int .i64 x3, .int .i64 x4, .int .i64 x5, .int .i64 x6] 25)).cell? ⟨w.heap.size + 1, 3, none⟩ = some (.int .i64 ix') := by rw [cell_alloc_lt _ _ _ _ (by omega)]; exact b'3
  have b4 : (w2.alloc (.cells #[.int .i64 x0, .int .i64 x1, .int .i64 x2, .int .i64 x3, .int .i64 x4, .int .i64 x5, .int .i64 x6] 25)).cell? ⟨w.heap.size + 1, 4, none⟩ = some (.int .i64 s') := by rw [cell_alloc_lt _ _ _ _ (by omega)]; exact b'4
  have b5 : (w2.alloc (.cells #[.int .i64 x0, .int .i64 x1, .int .i64 x2, .int .i64 x3, .int .i64 x4, .int .i64 x5, .int .i64 x6] 25)).cell? ⟨w.heap.size + 1, 5, none⟩ = some (.int .i64 d') := by rw [cell_alloc_lt _ _ _ _ (by omega)]; exact b'5
  have b6 : (w2.alloc (.cells #[.int .i64 x0, .int .i64 x1, .int .i64 x2, .int .i64 x3, .int .i64 x4, .int .i64 x5, .int .i64 x6] 25)).cell? ⟨w.heap.size + 1, 6, none⟩ = some (.int .i64 z') := by rw [cell_alloc_lt _ _ _ _ (by omega)]; exact b'6
  have c0 : (w2.alloc (.cells #[.int .i64 x0, .int .i64 x1, .int .i64 x2, .int .i64 x3, .int .i64 x4, .int .i64 x5, .int .i64 x6] 25)).cell? ⟨w1.heap.size, 0, none⟩ = some (.int .i64 x0) := by rw [cell_alloc_lt _ _ _ _ (hz2)]; exact c'0
  have c1 : (w2.alloc (.cells #[.int .i64 x0, .int .i64 x1, .int .i64 x2, .int .i64 x3, .int .i64 x4, .int .i64 x5, .int .i64 x6] 25)).cell? ⟨w1.heap.size, 1, none⟩ = some (.int .i64 x1) := by rw [cell_alloc_lt _ _ _ _ (hz2)]; exact c'1
  have c2 : (w2.alloc (.cells #[.int .i64 x0, .int .i64 x1, .int .i64 x2, .int .i64 x3, .int .i64 x4, .int .i64 x5, .int .i64 x6] 25)).cell? ⟨w1.heap.size, 2, none⟩ = some (.int .i64 x2) := by rw [cell_alloc_lt _ _ _ _ (hz2)]; exact c'2
  have c3 : (w2.alloc (.cells #[.int .i64 x0, .int .i64 x1, .int .i64 x2, .int .i64 x3, .int .i64 x4, .int .i64 x5, .int .i64 x6] 25)).cell? ⟨w1.heap.size, 3, none⟩ = some (.int .i64 x3) := by rw [cell_alloc_lt _ _ _ _ (hz2)]; exact c'3
  have c4 : (w2.alloc (.cells #[.int .i64 x0, .int .i64 x1, .int .i64 x2, .int .i64 x3, .int .i64 x4, .int .i64 x5, .int .i64 x6] 25)).cell? ⟨w1.heap.size, 4, none⟩ = some (.int .i64 x4) := by rw [cell_alloc_lt _ _ _ _ (hz2)]; exact c'4
  have c5 : (w2.alloc (.cells #[.int .i64 x0, .int .i64 x1, .int .i64 x2, .int .i64 x3, .int .i64 x4, .int .i64 x5, .int .i64 x6] 25)).cell? ⟨w1.heap.size, 5, none⟩ = some (.int .i64 x5) := by rw [cell_alloc_lt _ _ _ _ (hz2)]; exact c'5
  have c6 : (w2.alloc (.cells #[.int .i64 x0, .int .i64 x1, .int .i64 x2, .int .i64 x3, .int .i64 x4, .int .i64 x5, .int .i64 x6] 25)).cell? ⟨w1.heap.size, 6, none⟩ = some (.int .i64 x6) := by rw [cell_alloc_lt _ _ _ _ (hz2)]; exact c'6
  have d0 : (w2.alloc (.cells #[.int .i64 x0, .int .i64 x1, .int .i64 x2, .int .i64 x3, .int .i64 x4, .int .i64 x5, .int .i64 x6] 25)).cell? ⟨w2.heap.size, 0, none⟩ = some (.int .i64 x0) := by simp [cell_new]
  have d1 : (w2.alloc (.cells #[.int .i64 x0, .int .i64 x1, .int .i64 x2, .int .i64 x3, .int .i64 x4, .int .i64 x5, .int .i64 x6] 25)).cell? ⟨w2.heap.size, 1, none⟩ = some (.int .i64 x1) := by simp [cell_new]
  have d2 : (w2.alloc (.cells #[.int .i64 x0, .int .i64 x1, .int .i64 x2, .int .i64 x3, .int .i64 x4, .int .i64 x5, .int .i64 x6] 25)).cell? ⟨w2.heap.size, 2, none⟩ = some (.int .i64 x2) := by simp [cell_new]
  have d3 : (w2.alloc (.cells #[.int .i64 x0, .int .i64 x1, .int .i64 x2, .int .i64 x3, .int .i64 x4, .int .i64 x5, .int .i64 x6] 25)).cell? ⟨w2.heap.size, 3, none⟩ = some (.int .i64 x3) := by simp [cell_new]
  have d4 : (w2.alloc (.cells #[.int .i64 x0, .int .i64 x1, .int .i64 x2, .int .i64 x3, .int .i64 x4, .int .i64 x5, .int .i64 x6] 25)).cell? ⟨w2.heap.size, 4, none⟩ = some (.int .i64 x4) := by simp [cell_new]
  have d5 : (w2.alloc (.cells #[.int .i64 x0, .int .i64 x1, .int .i64 x2, .int .i64 x3, .int .i64 x4, .int .i64 x5, .int .i64 x6] 25)).cell? ⟨w2.heap.size, 5, none⟩ = some (.int .i64 x5) := by simp [cell_new]
  have d6 : (w2.alloc (.cells #[.int .i64 x0, .int .i64 x1, .int .i64 x2, .int .i64 x3, .int .i64 x4, .int .i64 x5, .int .i64 x6] 25)).cell? ⟨w2.heap.size, 6, none⟩ = some (.int .i64 x6) := by simp [cell_new]
  clear a'0 b'0 c'0 a'1 b'1 c'1 a'2 b'2 c'2 a'3 b'3 c'3 a'4 b'4 c'4 a'5 b'5 c'5 a'6 b'6 c'6
  have q0 : w.heap.size < (w2.alloc (.cells #[.int .i64 x0, .int .i64 x1, .int .i64 x2, .int .i64 x3, .int .i64 x4, .int .i64 x5, .int .i64 x6] 25)).heap.size := by simp; omega
  have q1 : w.heap.size + 1 < (w2.alloc (.cells #[.int .i64 x0, .int .i64 x1, .int .i64 x2, .int .i64 x3, .int .i64 x4, .int .i64 x5, .int .i64 x6] 25)).heap.size := by simp; omega
  have q2 : w1.heap.size < (w2.alloc (.cells #[.int .i64 x0, .int .i64 x1, .int .i64 x2, .int .i64 x3, .int .i64 x4, .int .i64 x5, .int .i64 x6] 25)).heap.size := by simp; omega
  have q3 : w2.heap.size < (w2.alloc (.cells #[.int .i64 x0, .int .i64 x1, .int .i64 x2, .int .i64 x3, .int .i64 x4, .int .i64 x5, .int .i64 x6] 25)).heap.size := by simp
  have HB := hid (HB2.out.alloc HB2.out.size (.cells #[.int .i64 x0, .int .i64 x1, .int .i64 x2, .int .i64 x3, .int .i64 x4, .int .i64 x5, .int .i64 x6] 25))
  generalize w2.alloc (.cells #[.int .i64 x0, .int .i64 x1, .int .i64 x2, .int .i64 x3, .int .i64 x4, .int .i64 x5, .int .i64 x6] 25) = W at *
  clear hz0 hz1 hz2 HB1 HB2
  generalize hg1 : w1.heap.size = g1 at *
  generalize hg2 : w2.heap.size = g2 at *
  clear hg1 hg2
  have hS := Old.of (Below.refl W.heap.size W)
  go_region_held3 (fun w' => Below W.heap.size W w' ∧ ∀ b o, b < W.heap.size → w'.cell? ⟨b, o, none⟩ = W.cell? ⟨b, o, none⟩) (first | assumption | exact old_drew ‹_› | (refine old_kept ?_ (by assumption); assumption)) (first | (go_at_call 10; refine (check_of HK.out HS.out _).mono ?_; rintro e w2 ⟨rfl, hbel⟩) | (go_at_call 11; refine (rcheck_of HK.out _).mono ?_; rintro e w2 ⟨rfl, hbel⟩) | (go_at_call 12; refine (same_of HE.out HS.out HT.out _).mono ?_; rintro e w2 ⟨rfl, hbel⟩) | (go_at_call 13; refine (rsame_of HE.out _).mono ?_; rintro e w2 ⟨rfl, hbel⟩) | (go_at_call 14; refine (awake_any _).mono ?_; rintro e w2 ⟨rfl, hbel⟩))
  have hk := (‹Below W.heap.size W w2 ∧ _›).1
  go_wp2
  go_ret
  exact ⟨rfl, HB.out.trans (hk.mono HB.out.size)⟩
end Go.Proofs.Ytdononofdnclfaa
