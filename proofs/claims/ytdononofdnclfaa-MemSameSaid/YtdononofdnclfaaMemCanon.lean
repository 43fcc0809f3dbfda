/-
  The walk of MemCanon.
-/
import Derived.Test.YtdononofdnclfaaCanonFacts
import Derived.Test.YtdononofdnclfaaMemKnown
namespace Go.Proofs.Ytdononofdnclfaa
open Go.RowKit

theorem Old.refl (W : World) : Old W W := Old.of (Below.refl W.heap.size W)
theorem Old.kept {W w' w'' : World} (h : Old W w') (hb : Below w'.heap.size w' w'') : Old W w'' := Old.of (h.1.trans (hb.mono h.1.size))
theorem Old.cells {W w' : World} (h : Old W w') : ∀ b o, b < W.heap.size → w'.cell? ⟨b, o, none⟩ = W.cell? ⟨b, o, none⟩ := h.2
theorem Old.below {W w' : World} (h : Old W w') : Below W.heap.size W w' := h.1
theorem Old.ints {W w' : World} {A : Option Addr} {xs : List Int} (hS : Old W w') (h : Ints W W.heap.size A xs) : Ints w' w'.heap.size A xs := (h.below hS.1).mono hS.1.size
set_option maxHeartbeats 2000000 in
theorem canon_law_long (bc bn ic ix s d z : Int) (A : Option Addr) (cap : Nat) (xs : List Int) (next : Int) (w : World) (k : Int) (HS : Hid (I64 s)) (HI : Hid (Ints w w.heap.size A xs)) (_el : (xs.length : Int) ≤ 9223372036854775807) (hl : 20 < (xs.length : Int)) (x0 x1 x2 x3 x4 x5 x6 : Int) (HX : Hid (outF ⟨bc, bn, ic, ix, s, d, z⟩ = ⟨x0, x1, x2, x3, x4, x5, x6⟩)) (HK : Hid (checkF ⟨bc, bn, ic, ix, s, d, z⟩ = k)) :
    Calls Try.prog 6 #[.agg #[.int .i64 bc, .int .i64 bn, .int .i64 ic, .int .i64 ix, .int .i64 s, .int .i64 d, .int .i64 z], .slice A xs.length cap, .int .i64 next] w fun e w' => e = .returned (.bool true) ∧ Below w.heap.size w w' := by
  go_enter Try.func6, Try.ntmps6
  go_wp2_with fail
  refine (known_law _).mono ?_
  rintro e w1 ⟨rfl, hb1⟩
  obtain ⟨hc1, hf1⟩ := bcell hb1
  have HB1 := hid (show Below w.heap.size w w1 from ((Below.refl _ _).alloc (Nat.le_refl _) _).trans (hb1.mono (by simp)))
  have hz0 : w.heap.size < w1.heap.size := by have := hb1.size; simp at this; omega
  have a0 : w1.cell? ⟨w.heap.size, 0, none⟩ = some (.int .i64 bc) := by rw [hc1 _ _ (by simp)]; simp [cell_new]
  have a1 : w1.cell? ⟨w.heap.size, 1, none⟩ = some (.int .i64 bn) := by rw [hc1 _ _ (by simp)]; simp [cell_new]
  have a2 : w1.cell? ⟨w.heap.size, 2, none⟩ = some (.int .i64 ic) := by rw [hc1 _ _ (by simp)]; simp [cell_new]
  have a3 : w1.cell? ⟨w.heap.size, 3, none⟩ = some (.int .i64 ix) := by rw [hc1 _ _ (by simp)]; simp [cell_new]
  have a4 : w1.cell? ⟨w.heap.size, 4, none⟩ = some (.int .i64 s) := by rw [hc1 _ _ (by simp)]; simp [cell_new]
  have a5 : w1.cell? ⟨w.heap.size, 5, none⟩ = some (.int .i64 d) := by rw [hc1 _ _ (by simp)]; simp [cell_new]
  have a6 : w1.cell? ⟨w.heap.size, 6, none⟩ = some (.int .i64 z) := by rw [hc1 _ _ (by simp)]; simp [cell_new]
  clear hc1 hf1 hb1
  go_wp2_with fail
  refine (canon_of HX.out HK.out HS.out _).mono ?_
  rintro e w2 ⟨rfl, hb2⟩
  obtain ⟨hc2, hf2⟩ := bcell hb2
  have HB2 := hid (HB1.out.trans (hb2.mono HB1.out.size))
  have hz1 : w.heap.size < w2.heap.size := by have := hb2.size; omega
  have a'0 : w2.cell? ⟨w.heap.size, 0, none⟩ = some (.int .i64 bc) := by rw [hc2 _ _ hz0]; exact a0
  have a'1 : w2.cell? ⟨w.heap.size, 1, none⟩ = some (.int .i64 bn) := by rw [hc2 _ _ hz0]; exact a1
  have a'2 : w2.cell? ⟨w.heap.size, 2, none⟩ = some (.int .i64 ic) := by rw [hc2 _ _ hz0]; exact a2
  have a'3 : w2.cell? ⟨w.heap.size, 3, none⟩ = some (.int .i64 ix) := by rw [hc2 _ _ hz0]; exact a3
  have a'4 : w2.cell? ⟨w.heap.size, 4, none⟩ = some (.int .i64 s) := by rw [hc2 _ _ hz0]; exact a4
  have a'5 : w2.cell? ⟨w.heap.size, 5, none⟩ = some (.int .i64 d) := by rw [hc2 _ _ hz0]; exact a5
  have a'6 : w2.cell? ⟨w.heap.size, 6, none⟩ = some (.int .i64 z) := by rw [hc2 _ _ hz0]; exact a6
  clear hc2 hf2 hb2 a0 a1 a2 a3 a4 a5 a6
  go_wp2_with fail
  have a0 : (w2.alloc (.cells #[.int .i64 x0, .int .i64 x1, .int .i64 x2, .int .i64 x3, .int .i64 x4, .int .i64 x5, .int .i64 x6] 25)).cell? ⟨w.heap.size, 0, none⟩ = some (.int .i64 bc) := by rw [cell_alloc_lt _ _ _ _ hz1]; exact a'0
  have a1 : (w2.alloc (.cells #[.int .i64 x0, .int .i64 x1, .int .i64 x2, .int .i64 x3, .int .i64 x4, .int .i64 x5, .int .i64 x6] 25)).cell? ⟨w.heap.size, 1, none⟩ = some (.int .i64 bn) := by rw [cell_alloc_lt _ _ _ _ hz1]; exact a'1
  have a2 : (w2.alloc (.cells #[.int .i64 x0, .int .i64 x1, .int .i64 x2, .int .i64 x3, .int .i64 x4, .int .i64 x5, .int .i64 x6] 25)).cell? ⟨w.heap.size, 2, none⟩ = some (.int .i64 ic) := by rw [cell_alloc_lt _ _ _ _ hz1]; exact a'2
  have a3 : (w2.alloc (.cells #[.int .i64 x0, .int .i64 x1, .int .i64 x2, .int .i64 x3, .int .i64 x4, .int .i64 x5, .int .i64 x6] 25)).cell? ⟨w.heap.size, 3, none⟩ = some (.int .i64 ix) := by rw [cell_alloc_lt _ _ _ _ hz1]; exact a'3
  have a4 : (w2.alloc (.cells #[.int .i64 x0, .int .i64 x1, .int .i64 x2, .int .i64 x3, .int .i64 x4, .int .i64 x5, .int .i64 x6] 25)).cell? ⟨w.heap.size, 4, none⟩ = some (.int .i64 s) := by rw [cell_alloc_lt _ _ _ _ hz1]; exact a'4
  have a5 : (w2.alloc (.cells #[.int .i64 x0, .int .i64 x1, .int .i64 x2, .int .i64 x3, .int .i64 x4, .int .i64 x5, .int .i64 x6] 25)).cell? ⟨w.heap.size, 5, none⟩ = some (.int .i64 d) := by rw [cell_alloc_lt _ _ _ _ hz1]; exact a'5
  have a6 : (w2.alloc (.cells #[.int .i64 x0, .int .i64 x1, .int .i64 x2, .int .i64 x3, .int .i64 x4, .int .i64 x5, .int .i64 x6] 25)).cell? ⟨w.heap.size, 6, none⟩ = some (.int .i64 z) := by rw [cell_alloc_lt _ _ _ _ hz1]; exact a'6
  have d0 : (w2.alloc (.cells #[.int .i64 x0, .int .i64 x1, .int .i64 x2, .int .i64 x3, .int .i64 x4, .int .i64 x5, .int .i64 x6] 25)).cell? ⟨w2.heap.size, 0, none⟩ = some (.int .i64 x0) := by simp [cell_new]
  have d1 : (w2.alloc (.cells #[.int .i64 x0, .int .i64 x1, .int .i64 x2, .int .i64 x3, .int .i64 x4, .int .i64 x5, .int .i64 x6] 25)).cell? ⟨w2.heap.size, 1, none⟩ = some (.int .i64 x1) := by simp [cell_new]
  have d2 : (w2.alloc (.cells #[.int .i64 x0, .int .i64 x1, .int .i64 x2, .int .i64 x3, .int .i64 x4, .int .i64 x5, .int .i64 x6] 25)).cell? ⟨w2.heap.size, 2, none⟩ = some (.int .i64 x2) := by simp [cell_new]
  have d3 : (w2.alloc (.cells #[.int .i64 x0, .int .i64 x1, .int .i64 x2, .int .i64 x3, .int .i64 x4, .int .i64 x5, .int .i64 x6] 25)).cell? ⟨w2.heap.size, 3, none⟩ = some (.int .i64 x3) := by simp [cell_new]
  have d4 : (w2.alloc (.cells #[.int .i64 x0, .int .i64 x1, .int .i64 x2, .int .i64 x3, .int .i64 x4, .int .i64 x5, .int .i64 x6] 25)).cell? ⟨w2.heap.size, 4, none⟩ = some (.int .i64 x4) := by simp [cell_new]
  have d5 : (w2.alloc (.cells #[.int .i64 x0, .int .i64 x1, .int .i64 x2, .int .i64 x3, .int .i64 x4, .int .i64 x5, .int .i64 x6] 25)).cell? ⟨w2.heap.size, 5, none⟩ = some (.int .i64 x5) := by simp [cell_new]
  have d6 : (w2.alloc (.cells #[.int .i64 x0, .int .i64 x1, .int .i64 x2, .int .i64 x3, .int .i64 x4, .int .i64 x5, .int .i64 x6] 25)).cell? ⟨w2.heap.size, 6, none⟩ = some (.int .i64 x6) := by simp [cell_new]
  clear a'0 a'1 a'2 a'3 a'4 a'5 a'6
  have q0 : w.heap.size < (w2.alloc (.cells #[.int .i64 x0, .int .i64 x1, .int .i64 x2, .int .i64 x3, .int .i64 x4, .int .i64 x5, .int .i64 x6] 25)).heap.size := by simp; omega
  have q1 : w2.heap.size < (w2.alloc (.cells #[.int .i64 x0, .int .i64 x1, .int .i64 x2, .int .i64 x3, .int .i64 x4, .int .i64 x5, .int .i64 x6] 25)).heap.size := by simp
  have HB := hid (HB2.out.alloc HB2.out.size (.cells #[.int .i64 x0, .int .i64 x1, .int .i64 x2, .int .i64 x3, .int .i64 x4, .int .i64 x5, .int .i64 x6] 25))
  generalize w2.alloc (.cells #[.int .i64 x0, .int .i64 x1, .int .i64 x2, .int .i64 x3, .int .i64 x4, .int .i64 x5, .int .i64 x6] 25) = W at *
  clear hz0 hz1 HB1 HB2
  generalize w2.heap.size = g2 at *
  have HIW := hid ((HI.out.below HB.out).mono HB.out.size)
  have HO : Old W W := Old.refl W
  go_wp2_with (go_at_call 10; with_reducible refine (check_of (s := s) HK.out HS.out _).mono ?_; rintro e w1 ⟨rfl, hb1⟩; have HO : Old W w1 := HO.kept hb1; have hc1 := HO.cells; clear hb1)
  go_returns
  exact ⟨by trivial, HB.out.trans (HO.below.mono HB.out.size)⟩
set_option maxHeartbeats 2000000 in
theorem canon_law_not (bc bn ic ix s d z : Int) (A : Option Addr) (cap : Nat) (xs : List Int) (next : Int) (w : World) (k : Int) (h0 : ¬ k = 0) (HS : Hid (I64 s)) (HI : Hid (Ints w w.heap.size A xs)) (_hl : (xs.length : Int) ≤ 20) (HX : Hid (outF ⟨bc, bn, ic, ix, s, d, z⟩ = ⟨0, 0, 0, 0, 0, 0, 0⟩)) (HK : Hid (checkF ⟨bc, bn, ic, ix, s, d, z⟩ = k)) :
    Calls Try.prog 6 #[.agg #[.int .i64 bc, .int .i64 bn, .int .i64 ic, .int .i64 ix, .int .i64 s, .int .i64 d, .int .i64 z], .slice A xs.length cap, .int .i64 next] w fun e w' => e = .returned (.bool true) ∧ Below w.heap.size w w' := by
  go_enter Try.func6, Try.ntmps6
  go_wp2_with fail
  refine (known_law _).mono ?_
  rintro e w1 ⟨rfl, hb1⟩
  obtain ⟨hc1, hf1⟩ := bcell hb1
  have HB1 := hid (show Below w.heap.size w w1 from ((Below.refl _ _).alloc (Nat.le_refl _) _).trans (hb1.mono (by simp)))
  have hz0 : w.heap.size < w1.heap.size := by have := hb1.size; simp at this; omega
  have a0 : w1.cell? ⟨w.heap.size, 0, none⟩ = some (.int .i64 bc) := by rw [hc1 _ _ (by simp)]; simp [cell_new]
  have a1 : w1.cell? ⟨w.heap.size, 1, none⟩ = some (.int .i64 bn) := by rw [hc1 _ _ (by simp)]; simp [cell_new]
  have a2 : w1.cell? ⟨w.heap.size, 2, none⟩ = some (.int .i64 ic) := by rw [hc1 _ _ (by simp)]; simp [cell_new]
  have a3 : w1.cell? ⟨w.heap.size, 3, none⟩ = some (.int .i64 ix) := by rw [hc1 _ _ (by simp)]; simp [cell_new]
  have a4 : w1.cell? ⟨w.heap.size, 4, none⟩ = some (.int .i64 s) := by rw [hc1 _ _ (by simp)]; simp [cell_new]
  have a5 : w1.cell? ⟨w.heap.size, 5, none⟩ = some (.int .i64 d) := by rw [hc1 _ _ (by simp)]; simp [cell_new]
  have a6 : w1.cell? ⟨w.heap.size, 6, none⟩ = some (.int .i64 z) := by rw [hc1 _ _ (by simp)]; simp [cell_new]
  clear hc1 hf1 hb1
  go_wp2_with fail
  refine (canon_of HX.out HK.out HS.out _).mono ?_
  rintro e w2 ⟨rfl, hb2⟩
  obtain ⟨hc2, hf2⟩ := bcell hb2
  have HB2 := hid (HB1.out.trans (hb2.mono HB1.out.size))
  have hz1 : w.heap.size < w2.heap.size := by have := hb2.size; omega
  have a'0 : w2.cell? ⟨w.heap.size, 0, none⟩ = some (.int .i64 bc) := by rw [hc2 _ _ hz0]; exact a0
  have a'1 : w2.cell? ⟨w.heap.size, 1, none⟩ = some (.int .i64 bn) := by rw [hc2 _ _ hz0]; exact a1
  have a'2 : w2.cell? ⟨w.heap.size, 2, none⟩ = some (.int .i64 ic) := by rw [hc2 _ _ hz0]; exact a2
  have a'3 : w2.cell? ⟨w.heap.size, 3, none⟩ = some (.int .i64 ix) := by rw [hc2 _ _ hz0]; exact a3
  have a'4 : w2.cell? ⟨w.heap.size, 4, none⟩ = some (.int .i64 s) := by rw [hc2 _ _ hz0]; exact a4
  have a'5 : w2.cell? ⟨w.heap.size, 5, none⟩ = some (.int .i64 d) := by rw [hc2 _ _ hz0]; exact a5
  have a'6 : w2.cell? ⟨w.heap.size, 6, none⟩ = some (.int .i64 z) := by rw [hc2 _ _ hz0]; exact a6
  clear hc2 hf2 hb2 a0 a1 a2 a3 a4 a5 a6
  go_wp2_with fail
  have a0 : (w2.alloc (.cells #[.int .i64 0, .int .i64 0, .int .i64 0, .int .i64 0, .int .i64 0, .int .i64 0, .int .i64 0] 25)).cell? ⟨w.heap.size, 0, none⟩ = some (.int .i64 bc) := by rw [cell_alloc_lt _ _ _ _ hz1]; exact a'0
  have a1 : (w2.alloc (.cells #[.int .i64 0, .int .i64 0, .int .i64 0, .int .i64 0, .int .i64 0, .int .i64 0, .int .i64 0] 25)).cell? ⟨w.heap.size, 1, none⟩ = some (.int .i64 bn) := by rw [cell_alloc_lt _ _ _ _ hz1]; exact a'1
  have a2 : (w2.alloc (.cells #[.int .i64 0, .int .i64 0, .int .i64 0, .int .i64 0, .int .i64 0, .int .i64 0, .int .i64 0] 25)).cell? ⟨w.heap.size, 2, none⟩ = some (.int .i64 ic) := by rw [cell_alloc_lt _ _ _ _ hz1]; exact a'2
  have a3 : (w2.alloc (.cells #[.int .i64 0, .int .i64 0, .int .i64 0, .int .i64 0, .int .i64 0, .int .i64 0, .int .i64 0] 25)).cell? ⟨w.heap.size, 3, none⟩ = some (.int .i64 ix) := by rw [cell_alloc_lt _ _ _ _ hz1]; exact a'3
  have a4 : (w2.alloc (.cells #[.int .i64 0, .int .i64 0, .int .i64 0, .int .i64 0, .int .i64 0, .int .i64 0, .int .i64 0] 25)).cell? ⟨w.heap.size, 4, none⟩ = some (.int .i64 s) := by rw [cell_alloc_lt _ _ _ _ hz1]; exact a'4
  have a5 : (w2.alloc (.cells #[.int .i64 0, .int .i64 0, .int .i64 0, .int .i64 0, .int .i64 0, .int .i64 0, .int .i64 0] 25)).cell? ⟨w.heap.size, 5, none⟩ = some (.int .i64 d) := by rw [cell_alloc_lt _ _ _ _ hz1]; exact a'5
  have a6 : (w2.alloc (.cells #[.int .i64 0, .int .i64 0, .int .i64 0, .int .i64 0, .int .i64 0, .int .i64 0, .int .i64 0] 25)).cell? ⟨w.heap.size, 6, none⟩ = some (.int .i64 z) := by rw [cell_alloc_lt _ _ _ _ hz1]; exact a'6
  have d0 : (w2.alloc (.cells #[.int .i64 0, .int .i64 0, .int .i64 0, .int .i64 0, .int .i64 0, .int .i64 0, .int .i64 0] 25)).cell? ⟨w2.heap.size, 0, none⟩ = some (.int .i64 0) := by simp [cell_new]
  have d1 : (w2.alloc (.cells #[.int .i64 0, .int .i64 0, .int .i64 0, .int .i64 0, .int .i64 0, .int .i64 0, .int .i64 0] 25)).cell? ⟨w2.heap.size, 1, none⟩ = some (.int .i64 0) := by simp [cell_new]
  have d2 : (w2.alloc (.cells #[.int .i64 0, .int .i64 0, .int .i64 0, .int .i64 0, .int .i64 0, .int .i64 0, .int .i64 0] 25)).cell? ⟨w2.heap.size, 2, none⟩ = some (.int .i64 0) := by simp [cell_new]
  have d3 : (w2.alloc (.cells #[.int .i64 0, .int .i64 0, .int .i64 0, .int .i64 0, .int .i64 0, .int .i64 0, .int .i64 0] 25)).cell? ⟨w2.heap.size, 3, none⟩ = some (.int .i64 0) := by simp [cell_new]
  have d4 : (w2.alloc (.cells #[.int .i64 0, .int .i64 0, .int .i64 0, .int .i64 0, .int .i64 0, .int .i64 0, .int .i64 0] 25)).cell? ⟨w2.heap.size, 4, none⟩ = some (.int .i64 0) := by simp [cell_new]
  have d5 : (w2.alloc (.cells #[.int .i64 0, .int .i64 0, .int .i64 0, .int .i64 0, .int .i64 0, .int .i64 0, .int .i64 0] 25)).cell? ⟨w2.heap.size, 5, none⟩ = some (.int .i64 0) := by simp [cell_new]
  have d6 : (w2.alloc (.cells #[.int .i64 0, .int .i64 0, .int .i64 0, .int .i64 0, .int .i64 0, .int .i64 0, .int .i64 0] 25)).cell? ⟨w2.heap.size, 6, none⟩ = some (.int .i64 0) := by simp [cell_new]
  clear a'0 a'1 a'2 a'3 a'4 a'5 a'6
  have q0 : w.heap.size < (w2.alloc (.cells #[.int .i64 0, .int .i64 0, .int .i64 0, .int .i64 0, .int .i64 0, .int .i64 0, .int .i64 0] 25)).heap.size := by simp; omega
  have q1 : w2.heap.size < (w2.alloc (.cells #[.int .i64 0, .int .i64 0, .int .i64 0, .int .i64 0, .int .i64 0, .int .i64 0, .int .i64 0] 25)).heap.size := by simp
  have HB := hid (HB2.out.alloc HB2.out.size (.cells #[.int .i64 0, .int .i64 0, .int .i64 0, .int .i64 0, .int .i64 0, .int .i64 0, .int .i64 0] 25))
  generalize w2.alloc (.cells #[.int .i64 0, .int .i64 0, .int .i64 0, .int .i64 0, .int .i64 0, .int .i64 0, .int .i64 0] 25) = W at *
  clear hz0 hz1 HB1 HB2
  generalize w2.heap.size = g2 at *
  have HIW := hid ((HI.out.below HB.out).mono HB.out.size)
  have HO : Old W W := Old.refl W
  go_wp2_with (go_at_call 10; with_reducible refine (check_of (s := s) HK.out HS.out _).mono ?_; rintro e w1 ⟨rfl, hb1⟩; have HO : Old W w1 := HO.kept hb1; have hc1 := HO.cells; clear hb1)
  go_returns
  exact ⟨by trivial, HB.out.trans (HO.below.mono HB.out.size)⟩
set_option maxHeartbeats 4000000 in
theorem canon_law_in (bc bn ic ix s d z : Int) (A : Option Addr) (cap : Nat) (xs : List Int) (next : Int) (w : World) (HS : Hid (I64 s)) (HI : Hid (Ints w w.heap.size A xs)) (_hl : (xs.length : Int) ≤ 20) (h16 : (xs.length : Int) = 16) (x0 x1 x2 x3 x4 v : Int) (HX : Hid (outF ⟨bc, bn, ic, ix, s, d, z⟩ = ⟨x0, x1, x2, x3, x4, d, z⟩)) (HK : Hid (checkF ⟨bc, bn, ic, ix, s, d, z⟩ = 0)) (HS4 : Hid (I64 x4))
    (HC1 : Hid (checkF ⟨x0, x1, x2, x3, x4, d, z⟩ = 0)) (HC2 : Hid ((checkF ⟨x0, x1, x2, x3, x4, d, z⟩ == 0 && eqP (outF ⟨x0, x1, x2, x3, x4, d, z⟩) ⟨x0, x1, x2, x3, x4, d, z⟩) = true)) (HC3 : Hid (sameF ⟨bc, bn, ic, ix, s, d, z⟩ ⟨x0, x1, x2, x3, x4, d, z⟩ = true)) (HC4 : Hid (sameF ⟨x0, x1, x2, x3, x4, d, z⟩ ⟨bc, bn, ic, ix, s, d, z⟩ = true)) (HV : Hid (addrOut ⟨bc, bn, ic, ix, s, d, z⟩ xs next = v)) (HVX : Hid (addrOut ⟨x0, x1, x2, x3, x4, d, z⟩ xs next = v)) (HE : Hid (addrErr ⟨bc, bn, ic, ix, s, d, z⟩ xs.length = 0)) (HEX : Hid (addrErr ⟨x0, x1, x2, x3, x4, d, z⟩ xs.length = 0)) :
    Calls Try.prog 6 #[.agg #[.int .i64 bc, .int .i64 bn, .int .i64 ic, .int .i64 ix, .int .i64 s, .int .i64 d, .int .i64 z], .slice A xs.length cap, .int .i64 next] w fun e w' => e = .returned (.bool true) ∧ Below w.heap.size w w' := by
  go_enter Try.func6, Try.ntmps6
  go_wp2_with fail
  refine (known_law _).mono ?_
  rintro e w1 ⟨rfl, hb1⟩
  obtain ⟨hc1, hf1⟩ := bcell hb1
  have HB1 := hid (show Below w.heap.size w w1 from ((Below.refl _ _).alloc (Nat.le_refl _) _).trans (hb1.mono (by simp)))
  have hz0 : w.heap.size < w1.heap.size := by have := hb1.size; simp at this; omega
  have a0 : w1.cell? ⟨w.heap.size, 0, none⟩ = some (.int .i64 bc) := by rw [hc1 _ _ (by simp)]; simp [cell_new]
  have a1 : w1.cell? ⟨w.heap.size, 1, none⟩ = some (.int .i64 bn) := by rw [hc1 _ _ (by simp)]; simp [cell_new]
  have a2 : w1.cell? ⟨w.heap.size, 2, none⟩ = some (.int .i64 ic) := by rw [hc1 _ _ (by simp)]; simp [cell_new]
  have a3 : w1.cell? ⟨w.heap.size, 3, none⟩ = some (.int .i64 ix) := by rw [hc1 _ _ (by simp)]; simp [cell_new]
  have a4 : w1.cell? ⟨w.heap.size, 4, none⟩ = some (.int .i64 s) := by rw [hc1 _ _ (by simp)]; simp [cell_new]
  have a5 : w1.cell? ⟨w.heap.size, 5, none⟩ = some (.int .i64 d) := by rw [hc1 _ _ (by simp)]; simp [cell_new]
  have a6 : w1.cell? ⟨w.heap.size, 6, none⟩ = some (.int .i64 z) := by rw [hc1 _ _ (by simp)]; simp [cell_new]
  clear hc1 hf1 hb1
  go_wp2_with fail
  refine (canon_of HX.out HK.out HS.out _).mono ?_
  rintro e w2 ⟨rfl, hb2⟩
  obtain ⟨hc2, hf2⟩ := bcell hb2
  have HB2 := hid (HB1.out.trans (hb2.mono HB1.out.size))
  have hz1 : w.heap.size < w2.heap.size := by have := hb2.size; omega
  have a'0 : w2.cell? ⟨w.heap.size, 0, none⟩ = some (.int .i64 bc) := by rw [hc2 _ _ hz0]; exact a0
  have a'1 : w2.cell? ⟨w.heap.size, 1, none⟩ = some (.int .i64 bn) := by rw [hc2 _ _ hz0]; exact a1
  have a'2 : w2.cell? ⟨w.heap.size, 2, none⟩ = some (.int .i64 ic) := by rw [hc2 _ _ hz0]; exact a2
  have a'3 : w2.cell? ⟨w.heap.size, 3, none⟩ = some (.int .i64 ix) := by rw [hc2 _ _ hz0]; exact a3
  have a'4 : w2.cell? ⟨w.heap.size, 4, none⟩ = some (.int .i64 s) := by rw [hc2 _ _ hz0]; exact a4
  have a'5 : w2.cell? ⟨w.heap.size, 5, none⟩ = some (.int .i64 d) := by rw [hc2 _ _ hz0]; exact a5
  have a'6 : w2.cell? ⟨w.heap.size, 6, none⟩ = some (.int .i64 z) := by rw [hc2 _ _ hz0]; exact a6
  clear hc2 hf2 hb2 a0 a1 a2 a3 a4 a5 a6
  go_wp2_with fail
  have a0 : (w2.alloc (.cells #[.int .i64 x0, .int .i64 x1, .int .i64 x2, .int .i64 x3, .int .i64 x4, .int .i64 d, .int .i64 z] 25)).cell? ⟨w.heap.size, 0, none⟩ = some (.int .i64 bc) := by rw [cell_alloc_lt _ _ _ _ hz1]; exact a'0
  have a1 : (w2.alloc (.cells #[.int .i64 x0, .int .i64 x1, .int .i64 x2, .int .i64 x3, .int .i64 x4, .int .i64 d, .int .i64 z] 25)).cell? ⟨w.heap.size, 1, none⟩ = some (.int .i64 bn) := by rw [cell_alloc_lt _ _ _ _ hz1]; exact a'1
  have a2 : (w2.alloc (.cells #[.int .i64 x0, .int .i64 x1, .int .i64 x2, .int .i64 x3, .int .i64 x4, .int .i64 d, .int .i64 z] 25)).cell? ⟨w.heap.size, 2, none⟩ = some (.int .i64 ic) := by rw [cell_alloc_lt _ _ _ _ hz1]; exact a'2
  have a3 : (w2.alloc (.cells #[.int .i64 x0, .int .i64 x1, .int .i64 x2, .int .i64 x3, .int .i64 x4, .int .i64 d, .int .i64 z] 25)).cell? ⟨w.heap.size, 3, none⟩ = some (.int .i64 ix) := by rw [cell_alloc_lt _ _ _ _ hz1]; exact a'3
  have a4 : (w2.alloc (.cells #[.int .i64 x0, .int .i64 x1, .int .i64 x2, .int .i64 x3, .int .i64 x4, .int .i64 d, .int .i64 z] 25)).cell? ⟨w.heap.size, 4, none⟩ = some (.int .i64 s) := by rw [cell_alloc_lt _ _ _ _ hz1]; exact a'4
  have a5 : (w2.alloc (.cells #[.int .i64 x0, .int .i64 x1, .int .i64 x2, .int .i64 x3, .int .i64 x4, .int .i64 d, .int .i64 z] 25)).cell? ⟨w.heap.size, 5, none⟩ = some (.int .i64 d) := by rw [cell_alloc_lt _ _ _ _ hz1]; exact a'5
  have a6 : (w2.alloc (.cells #[.int .i64 x0, .int .i64 x1, .int .i64 x2, .int .i64 x3, .int .i64 x4, .int .i64 d, .int .i64 z] 25)).cell? ⟨w.heap.size, 6, none⟩ = some (.int .i64 z) := by rw [cell_alloc_lt _ _ _ _ hz1]; exact a'6
  have d0 : (w2.alloc (.cells #[.int .i64 x0, .int .i64 x1, .int .i64 x2, .int .i64 x3, .int .i64 x4, .int .i64 d, .int .i64 z] 25)).cell? ⟨w2.heap.size, 0, none⟩ = some (.int .i64 x0) := by simp [cell_new]
  have d1 : (w2.alloc (.cells #[.int .i64 x0, .int .i64 x1, .int .i64 x2, .int .i64 x3, .int .i64 x4, .int .i64 d, .int .i64 z] 25)).cell? ⟨w2.heap.size, 1, none⟩ = some (.int .i64 x1) := by simp [cell_new]
  have d2 : (w2.alloc (.cells #[.int .i64 x0, .int .i64 x1, .int .i64 x2, .int .i64 x3, .int .i64 x4, .int .i64 d, .int .i64 z] 25)).cell? ⟨w2.heap.size, 2, none⟩ = some (.int .i64 x2) := by simp [cell_new]
  have d3 : (w2.alloc (.cells #[.int .i64 x0, .int .i64 x1, .int .i64 x2, .int .i64 x3, .int .i64 x4, .int .i64 d, .int .i64 z] 25)).cell? ⟨w2.heap.size, 3, none⟩ = some (.int .i64 x3) := by simp [cell_new]
  have d4 : (w2.alloc (.cells #[.int .i64 x0, .int .i64 x1, .int .i64 x2, .int .i64 x3, .int .i64 x4, .int .i64 d, .int .i64 z] 25)).cell? ⟨w2.heap.size, 4, none⟩ = some (.int .i64 x4) := by simp [cell_new]
  have d5 : (w2.alloc (.cells #[.int .i64 x0, .int .i64 x1, .int .i64 x2, .int .i64 x3, .int .i64 x4, .int .i64 d, .int .i64 z] 25)).cell? ⟨w2.heap.size, 5, none⟩ = some (.int .i64 d) := by simp [cell_new]
  have d6 : (w2.alloc (.cells #[.int .i64 x0, .int .i64 x1, .int .i64 x2, .int .i64 x3, .int .i64 x4, .int .i64 d, .int .i64 z] 25)).cell? ⟨w2.heap.size, 6, none⟩ = some (.int .i64 z) := by simp [cell_new]
  clear a'0 a'1 a'2 a'3 a'4 a'5 a'6
  have q0 : w.heap.size < (w2.alloc (.cells #[.int .i64 x0, .int .i64 x1, .int .i64 x2, .int .i64 x3, .int .i64 x4, .int .i64 d, .int .i64 z] 25)).heap.size := by simp; omega
  have q1 : w2.heap.size < (w2.alloc (.cells #[.int .i64 x0, .int .i64 x1, .int .i64 x2, .int .i64 x3, .int .i64 x4, .int .i64 d, .int .i64 z] 25)).heap.size := by simp
  have HB := hid (HB2.out.alloc HB2.out.size (.cells #[.int .i64 x0, .int .i64 x1, .int .i64 x2, .int .i64 x3, .int .i64 x4, .int .i64 d, .int .i64 z] 25))
  generalize w2.alloc (.cells #[.int .i64 x0, .int .i64 x1, .int .i64 x2, .int .i64 x3, .int .i64 x4, .int .i64 d, .int .i64 z] 25) = W at *
  clear hz0 hz1 HB1 HB2
  generalize w2.heap.size = g2 at *
  have HIW := hid ((HI.out.below HB.out).mono HB.out.size)
  have HO : Old W W := Old.refl W
  go_wp2_with (first | (go_at_call 10; with_reducible refine (check_of (s := s) HK.out HS.out _).mono ?_; rintro e w1 ⟨rfl, hb1⟩; have HO : Old W w1 := HO.kept hb1; have hc1 := HO.cells; clear hb1) | (go_at_call 10; with_reducible refine (check_of (s := x4) HC1.out HS4.out _).mono ?_; rintro e w1 ⟨rfl, hb1⟩; have HO : Old W w1 := HO.kept hb1; have hc1 := HO.cells; clear hb1) | (go_at_call 16; with_reducible refine (address_of (s := s) HV.out HE.out HS.out _ (HO.ints HIW.out)).mono ?_; rintro e w1 ⟨rfl, hb1⟩; have HO : Old W w1 := HO.kept hb1; have hc1 := HO.cells; clear hb1) | (go_at_call 16; with_reducible refine (address_of (s := x4) HVX.out HEX.out HS4.out _ (HO.ints HIW.out)).mono ?_; rintro e w1 ⟨rfl, hb1⟩; have HO : Old W w1 := HO.kept hb1; have hc1 := HO.cells; clear hb1) | (go_at_call 19; refine (lcanon_of HC2.out HS4.out _).mono ?_; rintro e w1 ⟨rfl, hb1⟩; have HO : Old W w1 := HO.kept hb1; have hc1 := HO.cells; clear hb1) | (go_at_call 12; with_reducible refine (same_of (s := s) (s' := x4) HC3.out HS.out HS4.out _).mono ?_; rintro e w1 ⟨rfl, hb1⟩; have HO : Old W w1 := HO.kept hb1; have hc1 := HO.cells; clear hb1) | (go_at_call 12; with_reducible refine (same_of (s := x4) (s' := s) HC4.out HS4.out HS.out _).mono ?_; rintro e w1 ⟨rfl, hb1⟩; have HO : Old W w1 := HO.kept hb1; have hc1 := HO.cells; clear hb1))
  go_returns
  exact ⟨by trivial, HB.out.trans (HO.below.mono HB.out.size)⟩
set_option maxHeartbeats 4000000 in
theorem canon_law_out (bc bn ic ix s d z : Int) (A : Option Addr) (cap : Nat) (xs : List Int) (next : Int) (w : World) (HS : Hid (I64 s)) (HI : Hid (Ints w w.heap.size A xs)) (hl : (xs.length : Int) ≤ 20) (h16 : ¬ (xs.length : Int) = 16) (x0 x1 x2 x3 x4 v : Int) (HX : Hid (outF ⟨bc, bn, ic, ix, s, d, z⟩ = ⟨x0, x1, x2, x3, x4, d, z⟩)) (HK : Hid (checkF ⟨bc, bn, ic, ix, s, d, z⟩ = 0)) (HS4 : Hid (I64 x4))
    (HC1 : Hid (checkF ⟨x0, x1, x2, x3, x4, d, z⟩ = 0)) (HC2 : Hid ((checkF ⟨x0, x1, x2, x3, x4, d, z⟩ == 0 && eqP (outF ⟨x0, x1, x2, x3, x4, d, z⟩) ⟨x0, x1, x2, x3, x4, d, z⟩) = true)) (HC3 : Hid (sameF ⟨bc, bn, ic, ix, s, d, z⟩ ⟨x0, x1, x2, x3, x4, d, z⟩ = true)) (HC4 : Hid (sameF ⟨x0, x1, x2, x3, x4, d, z⟩ ⟨bc, bn, ic, ix, s, d, z⟩ = true)) (HV : Hid (addrOut ⟨bc, bn, ic, ix, s, d, z⟩ xs next = v)) (HVX : Hid (addrOut ⟨x0, x1, x2, x3, x4, d, z⟩ xs next = v)) (HE : Hid (addrErr ⟨bc, bn, ic, ix, s, d, z⟩ xs.length = 2)) (HEX : Hid (addrErr ⟨x0, x1, x2, x3, x4, d, z⟩ xs.length = 2)) :
    Calls Try.prog 6 #[.agg #[.int .i64 bc, .int .i64 bn, .int .i64 ic, .int .i64 ix, .int .i64 s, .int .i64 d, .int .i64 z], .slice A xs.length cap, .int .i64 next] w fun e w' => e = .returned (.bool true) ∧ Below w.heap.size w w' := by
  go_enter Try.func6, Try.ntmps6
  go_wp2_with fail
  refine (known_law _).mono ?_
  rintro e w1 ⟨rfl, hb1⟩
  obtain ⟨hc1, hf1⟩ := bcell hb1
  have HB1 := hid (show Below w.heap.size w w1 from ((Below.refl _ _).alloc (Nat.le_refl _) _).trans (hb1.mono (by simp)))
  have hz0 : w.heap.size < w1.heap.size := by have := hb1.size; simp at this; omega
  have a0 : w1.cell? ⟨w.heap.size, 0, none⟩ = some (.int .i64 bc) := by rw [hc1 _ _ (by simp)]; simp [cell_new]
  have a1 : w1.cell? ⟨w.heap.size, 1, none⟩ = some (.int .i64 bn) := by rw [hc1 _ _ (by simp)]; simp [cell_new]
  have a2 : w1.cell? ⟨w.heap.size, 2, none⟩ = some (.int .i64 ic) := by rw [hc1 _ _ (by simp)]; simp [cell_new]
  have a3 : w1.cell? ⟨w.heap.size, 3, none⟩ = some (.int .i64 ix) := by rw [hc1 _ _ (by simp)]; simp [cell_new]
  have a4 : w1.cell? ⟨w.heap.size, 4, none⟩ = some (.int .i64 s) := by rw [hc1 _ _ (by simp)]; simp [cell_new]
  have a5 : w1.cell? ⟨w.heap.size, 5, none⟩ = some (.int .i64 d) := by rw [hc1 _ _ (by simp)]; simp [cell_new]
  have a6 : w1.cell? ⟨w.heap.size, 6, none⟩ = some (.int .i64 z) := by rw [hc1 _ _ (by simp)]; simp [cell_new]
  clear hc1 hf1 hb1
  go_wp2_with fail
  refine (canon_of HX.out HK.out HS.out _).mono ?_
  rintro e w2 ⟨rfl, hb2⟩
  obtain ⟨hc2, hf2⟩ := bcell hb2
  have HB2 := hid (HB1.out.trans (hb2.mono HB1.out.size))
  have hz1 : w.heap.size < w2.heap.size := by have := hb2.size; omega
  have a'0 : w2.cell? ⟨w.heap.size, 0, none⟩ = some (.int .i64 bc) := by rw [hc2 _ _ hz0]; exact a0
  have a'1 : w2.cell? ⟨w.heap.size, 1, none⟩ = some (.int .i64 bn) := by rw [hc2 _ _ hz0]; exact a1
  have a'2 : w2.cell? ⟨w.heap.size, 2, none⟩ = some (.int .i64 ic) := by rw [hc2 _ _ hz0]; exact a2
  have a'3 : w2.cell? ⟨w.heap.size, 3, none⟩ = some (.int .i64 ix) := by rw [hc2 _ _ hz0]; exact a3
  have a'4 : w2.cell? ⟨w.heap.size, 4, none⟩ = some (.int .i64 s) := by rw [hc2 _ _ hz0]; exact a4
  have a'5 : w2.cell? ⟨w.heap.size, 5, none⟩ = some (.int .i64 d) := by rw [hc2 _ _ hz0]; exact a5
  have a'6 : w2.cell? ⟨w.heap.size, 6, none⟩ = some (.int .i64 z) := by rw [hc2 _ _ hz0]; exact a6
  clear hc2 hf2 hb2 a0 a1 a2 a3 a4 a5 a6
  go_wp2_with fail
  have a0 : (w2.alloc (.cells #[.int .i64 x0, .int .i64 x1, .int .i64 x2, .int .i64 x3, .int .i64 x4, .int .i64 d, .int .i64 z] 25)).cell? ⟨w.heap.size, 0, none⟩ = some (.int .i64 bc) := by rw [cell_alloc_lt _ _ _ _ hz1]; exact a'0
  have a1 : (w2.alloc (.cells #[.int .i64 x0, .int .i64 x1, .int .i64 x2, .int .i64 x3, .int .i64 x4, .int .i64 d, .int .i64 z] 25)).cell? ⟨w.heap.size, 1, none⟩ = some (.int .i64 bn) := by rw [cell_alloc_lt _ _ _ _ hz1]; exact a'1
  have a2 : (w2.alloc (.cells #[.int .i64 x0, .int .i64 x1, .int .i64 x2, .int .i64 x3, .int .i64 x4, .int .i64 d, .int .i64 z] 25)).cell? ⟨w.heap.size, 2, none⟩ = some (.int .i64 ic) := by rw [cell_alloc_lt _ _ _ _ hz1]; exact a'2
  have a3 : (w2.alloc (.cells #[.int .i64 x0, .int .i64 x1, .int .i64 x2, .int .i64 x3, .int .i64 x4, .int .i64 d, .int .i64 z] 25)).cell? ⟨w.heap.size, 3, none⟩ = some (.int .i64 ix) := by rw [cell_alloc_lt _ _ _ _ hz1]; exact a'3
  have a4 : (w2.alloc (.cells #[.int .i64 x0, .int .i64 x1, .int .i64 x2, .int .i64 x3, .int .i64 x4, .int .i64 d, .int .i64 z] 25)).cell? ⟨w.heap.size, 4, none⟩ = some (.int .i64 s) := by rw [cell_alloc_lt _ _ _ _ hz1]; exact a'4
  have a5 : (w2.alloc (.cells #[.int .i64 x0, .int .i64 x1, .int .i64 x2, .int .i64 x3, .int .i64 x4, .int .i64 d, .int .i64 z] 25)).cell? ⟨w.heap.size, 5, none⟩ = some (.int .i64 d) := by rw [cell_alloc_lt _ _ _ _ hz1]; exact a'5
  have a6 : (w2.alloc (.cells #[.int .i64 x0, .int .i64 x1, .int .i64 x2, .int .i64 x3, .int .i64 x4, .int .i64 d, .int .i64 z] 25)).cell? ⟨w.heap.size, 6, none⟩ = some (.int .i64 z) := by rw [cell_alloc_lt _ _ _ _ hz1]; exact a'6
  have d0 : (w2.alloc (.cells #[.int .i64 x0, .int .i64 x1, .int .i64 x2, .int .i64 x3, .int .i64 x4, .int .i64 d, .int .i64 z] 25)).cell? ⟨w2.heap.size, 0, none⟩ = some (.int .i64 x0) := by simp [cell_new]
  have d1 : (w2.alloc (.cells #[.int .i64 x0, .int .i64 x1, .int .i64 x2, .int .i64 x3, .int .i64 x4, .int .i64 d, .int .i64 z] 25)).cell? ⟨w2.heap.size, 1, none⟩ = some (.int .i64 x1) := by simp [cell_new]
  have d2 : (w2.alloc (.cells #[.int .i64 x0, .int .i64 x1, .int .i64 x2, .int .i64 x3, .int .i64 x4, .int .i64 d, .int .i64 z] 25)).cell? ⟨w2.heap.size, 2, none⟩ = some (.int .i64 x2) := by simp [cell_new]
  have d3 : (w2.alloc (.cells #[.int .i64 x0, .int .i64 x1, .int .i64 x2, .int .i64 x3, .int .i64 x4, .int .i64 d, .int .i64 z] 25)).cell? ⟨w2.heap.size, 3, none⟩ = some (.int .i64 x3) := by simp [cell_new]
  have d4 : (w2.alloc (.cells #[.int .i64 x0, .int .i64 x1, .int .i64 x2, .int .i64 x3, .int .i64 x4, .int .i64 d, .int .i64 z] 25)).cell? ⟨w2.heap.size, 4, none⟩ = some (.int .i64 x4) := by simp [cell_new]
  have d5 : (w2.alloc (.cells #[.int .i64 x0, .int .i64 x1, .int .i64 x2, .int .i64 x3, .int .i64 x4, .int .i64 d, .int .i64 z] 25)).cell? ⟨w2.heap.size, 5, none⟩ = some (.int .i64 d) := by simp [cell_new]
  have d6 : (w2.alloc (.cells #[.int .i64 x0, .int .i64 x1, .int .i64 x2, .int .i64 x3, .int .i64 x4, .int .i64 d, .int .i64 z] 25)).cell? ⟨w2.heap.size, 6, none⟩ = some (.int .i64 z) := by simp [cell_new]
  clear a'0 a'1 a'2 a'3 a'4 a'5 a'6
  have q0 : w.heap.size < (w2.alloc (.cells #[.int .i64 x0, .int .i64 x1, .int .i64 x2, .int .i64 x3, .int .i64 x4, .int .i64 d, .int .i64 z] 25)).heap.size := by simp; omega
  have q1 : w2.heap.size < (w2.alloc (.cells #[.int .i64 x0, .int .i64 x1, .int .i64 x2, .int .i64 x3, .int .i64 x4, .int .i64 d, .int .i64 z] 25)).heap.size := by simp
  have HB := hid (HB2.out.alloc HB2.out.size (.cells #[.int .i64 x0, .int .i64 x1, .int .i64 x2, .int .i64 x3, .int .i64 x4, .int .i64 d, .int .i64 z] 25))
  generalize w2.alloc (.cells #[.int .i64 x0, .int .i64 x1, .int .i64 x2, .int .i64 x3, .int .i64 x4, .int .i64 d, .int .i64 z] 25) = W at *
  clear hz0 hz1 HB1 HB2
  generalize w2.heap.size = g2 at *
  have HIW := hid ((HI.out.below HB.out).mono HB.out.size)
  have HO : Old W W := Old.refl W
  go_wp2_with (first | (go_at_call 10; with_reducible refine (check_of (s := s) HK.out HS.out _).mono ?_; rintro e w1 ⟨rfl, hb1⟩; have HO : Old W w1 := HO.kept hb1; have hc1 := HO.cells; clear hb1) | (go_at_call 10; with_reducible refine (check_of (s := x4) HC1.out HS4.out _).mono ?_; rintro e w1 ⟨rfl, hb1⟩; have HO : Old W w1 := HO.kept hb1; have hc1 := HO.cells; clear hb1) | (go_at_call 16; with_reducible refine (address_of (s := s) HV.out HE.out HS.out _ (HO.ints HIW.out)).mono ?_; rintro e w1 ⟨rfl, hb1⟩; have HO : Old W w1 := HO.kept hb1; have hc1 := HO.cells; clear hb1) | (go_at_call 16; with_reducible refine (address_of (s := x4) HVX.out HEX.out HS4.out _ (HO.ints HIW.out)).mono ?_; rintro e w1 ⟨rfl, hb1⟩; have HO : Old W w1 := HO.kept hb1; have hc1 := HO.cells; clear hb1) | (go_at_call 19; refine (lcanon_of HC2.out HS4.out _).mono ?_; rintro e w1 ⟨rfl, hb1⟩; have HO : Old W w1 := HO.kept hb1; have hc1 := HO.cells; clear hb1) | (go_at_call 12; with_reducible refine (same_of (s := s) (s' := x4) HC3.out HS.out HS4.out _).mono ?_; rintro e w1 ⟨rfl, hb1⟩; have HO : Old W w1 := HO.kept hb1; have hc1 := HO.cells; clear hb1) | (go_at_call 12; with_reducible refine (same_of (s := x4) (s' := s) HC4.out HS4.out HS.out _).mono ?_; rintro e w1 ⟨rfl, hb1⟩; have HO : Old W w1 := HO.kept hb1; have hc1 := HO.cells; clear hb1))
  go_returns
  exact ⟨by simp [h16], HB.out.trans (HO.below.mono HB.out.size)⟩
theorem canon_law (bc bn ic ix s d z : Int) (A : Option Addr) (cap : Nat) (xs : List Int) (next : Int) (w : World) (hs : I64 s) (hI : Ints w w.heap.size A xs) (hlc : xs.length ≤ cap) (hcap : cap ≤ 9223372036854775807) (_hn : I64 next) :
    Calls Try.prog 6 #[.agg #[.int .i64 bc, .int .i64 bn, .int .i64 ic, .int .i64 ix, .int .i64 s, .int .i64 d, .int .i64 z], .slice A xs.length cap, .int .i64 next] w fun e w' => e = .returned (.bool true) ∧ Below w.heap.size w w' := by
  by_cases hl : xs.length ≤ 20
  · obtain ⟨k, hk⟩ : ∃ k, checkF ⟨bc, bn, ic, ix, s, d, z⟩ = k := ⟨_, rfl⟩
    by_cases h0 : k = 0
    · subst h0
      obtain ⟨h1, _, _, h4, h5⟩ := canon_facts hk
      have hS4 := canon_scale (p := ⟨bc, bn, ic, ix, s, d, z⟩) hs
      have c2 := canon_own hk
      have c3 := canon_same hk
      have c4 := (sameF_comm _ _).trans c3
      have cv := canon_out hk xs next
      have ce := canon_err hk xs.length
      have ho := outF_ok hk
      generalize canonF ⟨bc, bn, ic, ix, s, d, z⟩ = X at *
      obtain ⟨x0, x1, x2, x3, x4, x5, x6⟩ := X
      simp only [] at h4 h5 hS4
      replace h4 := h4.symm
      replace h5 := h5.symm
      subst h4 h5
      by_cases h16 : xs.length = 16
      · have he : addrErr ⟨bc, bn, ic, ix, s, d, z⟩ xs.length = 0 := by unfold addrErr; rw [if_pos hk, if_pos h16]
        exact canon_law_in _ _ _ _ _ _ _ A cap xs next w (hid hs) (hid hI) (by omega) (by omega) x0 x1 x2 x3 x4 _ (hid ho) (hid hk) (hid hS4) (hid h1) (hid c2) (hid c3) (hid c4) (hid rfl) (hid cv) (hid he) (hid (ce.trans he))
      · have he : addrErr ⟨bc, bn, ic, ix, s, d, z⟩ xs.length = 2 := by unfold addrErr; rw [if_pos hk, if_neg h16]
        exact canon_law_out _ _ _ _ _ _ _ A cap xs next w (hid hs) (hid hI) (by omega) (by omega) x0 x1 x2 x3 x4 _ (hid ho) (hid hk) (hid hS4) (hid h1) (hid c2) (hid c3) (hid c4) (hid rfl) (hid cv) (hid he) (hid (ce.trans he))
    · exact canon_law_not _ _ _ _ _ _ _ A cap xs next w k h0 (hid hs) (hid hI) (by omega) (hid (if_neg (by rw [hk]; exact h0))) (hid hk)
  · obtain ⟨⟨x0, x1, x2, x3, x4, x5, x6⟩, hx⟩ : ∃ x, outF ⟨bc, bn, ic, ix, s, d, z⟩ = x := ⟨_, rfl⟩
    exact canon_law_long _ _ _ _ _ _ _ A cap xs next w _ (hid hs) (hid hI) (by omega) (by omega) x0 x1 x2 x3 x4 x5 x6 (hid hx) (hid rfl)
end Go.Proofs.Ytdononofdnclfaa
