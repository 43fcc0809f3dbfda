/-
  The document's Canon, case by case (1).
  The document's Canon, case by case (2).
  The document's Canon, case by case (3).
  The canonical form of a place, whatever the place: the program's and the document's.
-/
import Derived.Test.YtiiepdgpnnjpiaaDoorCanons
import Derived.Deep.DeepCutAuto
section
namespace Go.Proofs.YtiiepdgpnnjpiaaDoor
open Go.RowKit

set_option maxHeartbeats 2000000 in
theorem rcanon_not (bc bn ic ix s d z : Int) (k : Int) (h : ¬ k = 0) (HK : Hid (checkF ⟨bc, bn, ic, ix, s, d, z⟩ = k)) (w : World) :
    Calls Tryd.prog 31 #[.agg #[.int .i64 bc, .int .i64 bn, .int .i64 ic, .int .i64 ix, .int .i64 s, .int .i64 d, .int .i64 z]] w fun e w' => e = .returned (.tuple #[.agg #[.int .i64 0, .int .i64 0, .int .i64 0, .int .i64 0, .int .i64 0, .int .i64 0, .int .i64 0], .int .i64 k]) ∧ Below w.heap.size w w' := by
  go_enter Tryd.func31, Tryd.ntmps31
  go_wp2_with (go_at_call 52; refine (rcheck_of HK.out _).mono ?_; rintro e w1 ⟨rfl, hb1⟩; obtain ⟨hc1, hf1⟩ := bcell hb1; have hz1 : w.heap.size < w1.heap.size := (by have := hb1.size; (try simp at this); omega); have hz2 : w.heap.size + 1 < w1.heap.size := (by have := hb1.size; (try simp at this); omega); have k0_0 : w1.cell? ⟨w.heap.size, 0, none⟩ = some (.int .i64 bc) := (by rw [hc1 _ _ (by first | assumption | (simp; done) | (simp; omega))]; first | assumption | simp [cell_alloc_lt, cell_new]); have k0_1 : w1.cell? ⟨w.heap.size, 1, none⟩ = some (.int .i64 bn) := (by rw [hc1 _ _ (by first | assumption | (simp; done) | (simp; omega))]; first | assumption | simp [cell_alloc_lt, cell_new]); have k0_2 : w1.cell? ⟨w.heap.size, 2, none⟩ = some (.int .i64 ic) := (by rw [hc1 _ _ (by first | assumption | (simp; done) | (simp; omega))]; first | assumption | simp [cell_alloc_lt, cell_new]); have k0_3 : w1.cell? ⟨w.heap.size, 3, none⟩ = some (.int .i64 ix) := (by rw [hc1 _ _ (by first | assumption | (simp; done) | (simp; omega))]; first | assumption | simp [cell_alloc_lt, cell_new]); have k0_4 : w1.cell? ⟨w.heap.size, 4, none⟩ = some (.int .i64 s) := (by rw [hc1 _ _ (by first | assumption | (simp; done) | (simp; omega))]; first | assumption | simp [cell_alloc_lt, cell_new]); have k0_5 : w1.cell? ⟨w.heap.size, 5, none⟩ = some (.int .i64 d) := (by rw [hc1 _ _ (by first | assumption | (simp; done) | (simp; omega))]; first | assumption | simp [cell_alloc_lt, cell_new]); have k0_6 : w1.cell? ⟨w.heap.size, 6, none⟩ = some (.int .i64 z) := (by rw [hc1 _ _ (by first | assumption | (simp; done) | (simp; omega))]; first | assumption | simp [cell_alloc_lt, cell_new]); have k1_0 : w1.cell? ⟨w.heap.size + 1, 0, none⟩ = some (.int .i64 0) := (by rw [hc1 _ _ (by first | assumption | (simp; done) | (simp; omega))]; first | assumption | simp [cell_new]); have k1_1 : w1.cell? ⟨w.heap.size + 1, 1, none⟩ = some (.int .i64 0) := (by rw [hc1 _ _ (by first | assumption | (simp; done) | (simp; omega))]; first | assumption | simp [cell_new]); have k1_2 : w1.cell? ⟨w.heap.size + 1, 2, none⟩ = some (.int .i64 0) := (by rw [hc1 _ _ (by first | assumption | (simp; done) | (simp; omega))]; first | assumption | simp [cell_new]); have k1_3 : w1.cell? ⟨w.heap.size + 1, 3, none⟩ = some (.int .i64 0) := (by rw [hc1 _ _ (by first | assumption | (simp; done) | (simp; omega))]; first | assumption | simp [cell_new]); have k1_4 : w1.cell? ⟨w.heap.size + 1, 4, none⟩ = some (.int .i64 0) := (by rw [hc1 _ _ (by first | assumption | (simp; done) | (simp; omega))]; first | assumption | simp [cell_new]); have k1_5 : w1.cell? ⟨w.heap.size + 1, 5, none⟩ = some (.int .i64 0) := (by rw [hc1 _ _ (by first | assumption | (simp; done) | (simp; omega))]; first | assumption | simp [cell_new]); have k1_6 : w1.cell? ⟨w.heap.size + 1, 6, none⟩ = some (.int .i64 0) := (by rw [hc1 _ _ (by first | assumption | (simp; done) | (simp; omega))]; first | assumption | simp [cell_new]); have f0_0 : w1.frozen? ⟨w.heap.size, 0, none⟩ = false := (by rw [hf1 _ _ (by first | assumption | (simp; done) | (simp; omega))]; first | assumption | simp); have f0_1 : w1.frozen? ⟨w.heap.size, 1, none⟩ = false := (by rw [hf1 _ _ (by first | assumption | (simp; done) | (simp; omega))]; first | assumption | simp); have f0_2 : w1.frozen? ⟨w.heap.size, 2, none⟩ = false := (by rw [hf1 _ _ (by first | assumption | (simp; done) | (simp; omega))]; first | assumption | simp); have f0_3 : w1.frozen? ⟨w.heap.size, 3, none⟩ = false := (by rw [hf1 _ _ (by first | assumption | (simp; done) | (simp; omega))]; first | assumption | simp); have f0_4 : w1.frozen? ⟨w.heap.size, 4, none⟩ = false := (by rw [hf1 _ _ (by first | assumption | (simp; done) | (simp; omega))]; first | assumption | simp); have f0_5 : w1.frozen? ⟨w.heap.size, 5, none⟩ = false := (by rw [hf1 _ _ (by first | assumption | (simp; done) | (simp; omega))]; first | assumption | simp); have f0_6 : w1.frozen? ⟨w.heap.size, 6, none⟩ = false := (by rw [hf1 _ _ (by first | assumption | (simp; done) | (simp; omega))]; first | assumption | simp); have f1_0 : w1.frozen? ⟨w.heap.size + 1, 0, none⟩ = false := (by rw [hf1 _ _ (by first | assumption | (simp; done) | (simp; omega))]; first | assumption | simp); have f1_1 : w1.frozen? ⟨w.heap.size + 1, 1, none⟩ = false := (by rw [hf1 _ _ (by first | assumption | (simp; done) | (simp; omega))]; first | assumption | simp); have f1_2 : w1.frozen? ⟨w.heap.size + 1, 2, none⟩ = false := (by rw [hf1 _ _ (by first | assumption | (simp; done) | (simp; omega))]; first | assumption | simp); have f1_3 : w1.frozen? ⟨w.heap.size + 1, 3, none⟩ = false := (by rw [hf1 _ _ (by first | assumption | (simp; done) | (simp; omega))]; first | assumption | simp); have f1_4 : w1.frozen? ⟨w.heap.size + 1, 4, none⟩ = false := (by rw [hf1 _ _ (by first | assumption | (simp; done) | (simp; omega))]; first | assumption | simp); have f1_5 : w1.frozen? ⟨w.heap.size + 1, 5, none⟩ = false := (by rw [hf1 _ _ (by first | assumption | (simp; done) | (simp; omega))]; first | assumption | simp); have f1_6 : w1.frozen? ⟨w.heap.size + 1, 6, none⟩ = false := (by rw [hf1 _ _ (by first | assumption | (simp; done) | (simp; omega))]; first | assumption | simp); clear hc1 hf1; have HB := hid (show Below w.heap.size w w1 by first | exact HB.out.trans (hb1.mono HB.out.size) | exact ((Below.refl _ _).alloc (Nat.le_refl _) _).trans (hb1.mono (by simp)) | (refine Below.trans ?_ (hb1.mono (by simp; try omega)); go_grown)); clear hb1)
  refine bodyPost_ret (v := .tuple #[.agg #[.int .i64 0, .int .i64 0, .int .i64 0, .int .i64 0, .int .i64 0, .int .i64 0, .int .i64 0], .int .i64 k]) (by simp [results, Tryd.results31, go_sem, *]) rfl ⟨rfl, ?_⟩
  (repeat (first | with_reducible refine Below.setCell ?_ (by simp) _ | with_reducible refine Below.alloc ?_ HB.out.size _ | with_reducible refine Below.alloc ?_ (by simpa using HB.out.size) _))
  exact HB.out
set_option maxHeartbeats 2000000 in
theorem rcanon_plain (bc bn ic ix s d z : Int) (HK : Hid (checkF ⟨bc, bn, ic, ix, s, d, z⟩ = 0)) (h : ¬ s = 1) (w : World) :
    Calls Tryd.prog 31 #[.agg #[.int .i64 bc, .int .i64 bn, .int .i64 ic, .int .i64 ix, .int .i64 s, .int .i64 d, .int .i64 z]] w fun e w' => e = .returned (.tuple #[.agg #[.int .i64 bc, .int .i64 bn, .int .i64 ic, .int .i64 ix, .int .i64 s, .int .i64 d, .int .i64 z], .int .i64 0]) ∧ Below w.heap.size w w' := by
  go_enter Tryd.func31, Tryd.ntmps31
  go_wp2_with (go_at_call 52; refine (rcheck_of HK.out _).mono ?_; rintro e w1 ⟨rfl, hb1⟩; obtain ⟨hc1, hf1⟩ := bcell hb1; have hz1 : w.heap.size < w1.heap.size := (by have := hb1.size; (try simp at this); omega); have hz2 : w.heap.size + 1 < w1.heap.size := (by have := hb1.size; (try simp at this); omega); have k0_0 : w1.cell? ⟨w.heap.size, 0, none⟩ = some (.int .i64 bc) := (by rw [hc1 _ _ (by first | assumption | (simp; done) | (simp; omega))]; first | assumption | simp [cell_alloc_lt, cell_new]); have k0_1 : w1.cell? ⟨w.heap.size, 1, none⟩ = some (.int .i64 bn) := (by rw [hc1 _ _ (by first | assumption | (simp; done) | (simp; omega))]; first | assumption | simp [cell_alloc_lt, cell_new]); have k0_2 : w1.cell? ⟨w.heap.size, 2, none⟩ = some (.int .i64 ic) := (by rw [hc1 _ _ (by first | assumption | (simp; done) | (simp; omega))]; first | assumption | simp [cell_alloc_lt, cell_new]); have k0_3 : w1.cell? ⟨w.heap.size, 3, none⟩ = some (.int .i64 ix) := (by rw [hc1 _ _ (by first | assumption | (simp; done) | (simp; omega))]; first | assumption | simp [cell_alloc_lt, cell_new]); have k0_4 : w1.cell? ⟨w.heap.size, 4, none⟩ = some (.int .i64 s) := (by rw [hc1 _ _ (by first | assumption | (simp; done) | (simp; omega))]; first | assumption | simp [cell_alloc_lt, cell_new]); have k0_5 : w1.cell? ⟨w.heap.size, 5, none⟩ = some (.int .i64 d) := (by rw [hc1 _ _ (by first | assumption | (simp; done) | (simp; omega))]; first | assumption | simp [cell_alloc_lt, cell_new]); have k0_6 : w1.cell? ⟨w.heap.size, 6, none⟩ = some (.int .i64 z) := (by rw [hc1 _ _ (by first | assumption | (simp; done) | (simp; omega))]; first | assumption | simp [cell_alloc_lt, cell_new]); have k1_0 : w1.cell? ⟨w.heap.size + 1, 0, none⟩ = some (.int .i64 0) := (by rw [hc1 _ _ (by first | assumption | (simp; done) | (simp; omega))]; first | assumption | simp [cell_new]); have k1_1 : w1.cell? ⟨w.heap.size + 1, 1, none⟩ = some (.int .i64 0) := (by rw [hc1 _ _ (by first | assumption | (simp; done) | (simp; omega))]; first | assumption | simp [cell_new]); have k1_2 : w1.cell? ⟨w.heap.size + 1, 2, none⟩ = some (.int .i64 0) := (by rw [hc1 _ _ (by first | assumption | (simp; done) | (simp; omega))]; first | assumption | simp [cell_new]); have k1_3 : w1.cell? ⟨w.heap.size + 1, 3, none⟩ = some (.int .i64 0) := (by rw [hc1 _ _ (by first | assumption | (simp; done) | (simp; omega))]; first | assumption | simp [cell_new]); have k1_4 : w1.cell? ⟨w.heap.size + 1, 4, none⟩ = some (.int .i64 0) := (by rw [hc1 _ _ (by first | assumption | (simp; done) | (simp; omega))]; first | assumption | simp [cell_new]); have k1_5 : w1.cell? ⟨w.heap.size + 1, 5, none⟩ = some (.int .i64 0) := (by rw [hc1 _ _ (by first | assumption | (simp; done) | (simp; omega))]; first | assumption | simp [cell_new]); have k1_6 : w1.cell? ⟨w.heap.size + 1, 6, none⟩ = some (.int .i64 0) := (by rw [hc1 _ _ (by first | assumption | (simp; done) | (simp; omega))]; first | assumption | simp [cell_new]); have f0_0 : w1.frozen? ⟨w.heap.size, 0, none⟩ = false := (by rw [hf1 _ _ (by first | assumption | (simp; done) | (simp; omega))]; first | assumption | simp); have f0_1 : w1.frozen? ⟨w.heap.size, 1, none⟩ = false := (by rw [hf1 _ _ (by first | assumption | (simp; done) | (simp; omega))]; first | assumption | simp); have f0_2 : w1.frozen? ⟨w.heap.size, 2, none⟩ = false := (by rw [hf1 _ _ (by first | assumption | (simp; done) | (simp; omega))]; first | assumption | simp); have f0_3 : w1.frozen? ⟨w.heap.size, 3, none⟩ = false := (by rw [hf1 _ _ (by first | assumption | (simp; done) | (simp; omega))]; first | assumption | simp); have f0_4 : w1.frozen? ⟨w.heap.size, 4, none⟩ = false := (by rw [hf1 _ _ (by first | assumption | (simp; done) | (simp; omega))]; first | assumption | simp); have f0_5 : w1.frozen? ⟨w.heap.size, 5, none⟩ = false := (by rw [hf1 _ _ (by first | assumption | (simp; done) | (simp; omega))]; first | assumption | simp); have f0_6 : w1.frozen? ⟨w.heap.size, 6, none⟩ = false := (by rw [hf1 _ _ (by first | assumption | (simp; done) | (simp; omega))]; first | assumption | simp); have f1_0 : w1.frozen? ⟨w.heap.size + 1, 0, none⟩ = false := (by rw [hf1 _ _ (by first | assumption | (simp; done) | (simp; omega))]; first | assumption | simp); have f1_1 : w1.frozen? ⟨w.heap.size + 1, 1, none⟩ = false := (by rw [hf1 _ _ (by first | assumption | (simp; done) | (simp; omega))]; first | assumption | simp); have f1_2 : w1.frozen? ⟨w.heap.size + 1, 2, none⟩ = false := (by rw [hf1 _ _ (by first | assumption | (simp; done) | (simp; omega))]; first | assumption | simp); have f1_3 : w1.frozen? ⟨w.heap.size + 1, 3, none⟩ = false := (by rw [hf1 _ _ (by first | assumption | (simp; done) | (simp; omega))]; first | assumption | simp); have f1_4 : w1.frozen? ⟨w.heap.size + 1, 4, none⟩ = false := (by rw [hf1 _ _ (by first | assumption | (simp; done) | (simp; omega))]; first | assumption | simp); have f1_5 : w1.frozen? ⟨w.heap.size + 1, 5, none⟩ = false := (by rw [hf1 _ _ (by first | assumption | (simp; done) | (simp; omega))]; first | assumption | simp); have f1_6 : w1.frozen? ⟨w.heap.size + 1, 6, none⟩ = false := (by rw [hf1 _ _ (by first | assumption | (simp; done) | (simp; omega))]; first | assumption | simp); clear hc1 hf1; have HB := hid (show Below w.heap.size w w1 by first | exact HB.out.trans (hb1.mono HB.out.size) | exact ((Below.refl _ _).alloc (Nat.le_refl _) _).trans (hb1.mono (by simp)) | (refine Below.trans ?_ (hb1.mono (by simp; try omega)); go_grown)); clear hb1)
  refine bodyPost_ret (v := .tuple #[.agg #[.int .i64 bc, .int .i64 bn, .int .i64 ic, .int .i64 ix, .int .i64 s, .int .i64 d, .int .i64 z], .int .i64 0]) (by simp [results, Tryd.results31, go_sem, *]) rfl ⟨rfl, ?_⟩
  (repeat (first | with_reducible refine Below.setCell ?_ (by simp) _ | with_reducible refine Below.alloc ?_ HB.out.size _ | with_reducible refine Below.alloc ?_ (by simpa using HB.out.size) _))
  exact HB.out
set_option maxHeartbeats 2000000 in
theorem rcanon_one (bc bn ic ix d z : Int) (HK : Hid (checkF ⟨bc, bn, ic, ix, 1, d, z⟩ = 0)) (HN : Hid (noneF bc bn = false)) (h : ¬ ix = 4) (w : World) :
    Calls Tryd.prog 31 #[.agg #[.int .i64 bc, .int .i64 bn, .int .i64 ic, .int .i64 ix, .int .i64 1, .int .i64 d, .int .i64 z]] w fun e w' => e = .returned (.tuple #[.agg #[.int .i64 bc, .int .i64 bn, .int .i64 ic, .int .i64 ix, .int .i64 1, .int .i64 d, .int .i64 z], .int .i64 0]) ∧ Below w.heap.size w w' := by
  go_enter Tryd.func31, Tryd.ntmps31
  go_wp2_with (first | (go_at_call 52; refine (rcheck_of HK.out _).mono ?_; rintro e w1 ⟨rfl, hb1⟩; obtain ⟨hc1, hf1⟩ := bcell hb1; have hz1 : w.heap.size < w1.heap.size := (by have := hb1.size; (try simp at this); omega); have hz2 : w.heap.size + 1 < w1.heap.size := (by have := hb1.size; (try simp at this); omega); have k0_0 : w1.cell? ⟨w.heap.size, 0, none⟩ = some (.int .i64 bc) := (by rw [hc1 _ _ (by first | assumption | (simp; done) | (simp; omega))]; first | assumption | simp [cell_alloc_lt, cell_new]); have k0_1 : w1.cell? ⟨w.heap.size, 1, none⟩ = some (.int .i64 bn) := (by rw [hc1 _ _ (by first | assumption | (simp; done) | (simp; omega))]; first | assumption | simp [cell_alloc_lt, cell_new]); have k0_2 : w1.cell? ⟨w.heap.size, 2, none⟩ = some (.int .i64 ic) := (by rw [hc1 _ _ (by first | assumption | (simp; done) | (simp; omega))]; first | assumption | simp [cell_alloc_lt, cell_new]); have k0_3 : w1.cell? ⟨w.heap.size, 3, none⟩ = some (.int .i64 ix) := (by rw [hc1 _ _ (by first | assumption | (simp; done) | (simp; omega))]; first | assumption | simp [cell_alloc_lt, cell_new]); have k0_4 : w1.cell? ⟨w.heap.size, 4, none⟩ = some (.int .i64 1) := (by rw [hc1 _ _ (by first | assumption | (simp; done) | (simp; omega))]; first | assumption | simp [cell_alloc_lt, cell_new]); have k0_5 : w1.cell? ⟨w.heap.size, 5, none⟩ = some (.int .i64 d) := (by rw [hc1 _ _ (by first | assumption | (simp; done) | (simp; omega))]; first | assumption | simp [cell_alloc_lt, cell_new]); have k0_6 : w1.cell? ⟨w.heap.size, 6, none⟩ = some (.int .i64 z) := (by rw [hc1 _ _ (by first | assumption | (simp; done) | (simp; omega))]; first | assumption | simp [cell_alloc_lt, cell_new]); have k1_0 : w1.cell? ⟨w.heap.size + 1, 0, none⟩ = some (.int .i64 0) := (by rw [hc1 _ _ (by first | assumption | (simp; done) | (simp; omega))]; first | assumption | simp [cell_new]); have k1_1 : w1.cell? ⟨w.heap.size + 1, 1, none⟩ = some (.int .i64 0) := (by rw [hc1 _ _ (by first | assumption | (simp; done) | (simp; omega))]; first | assumption | simp [cell_new]); have k1_2 : w1.cell? ⟨w.heap.size + 1, 2, none⟩ = some (.int .i64 0) := (by rw [hc1 _ _ (by first | assumption | (simp; done) | (simp; omega))]; first | assumption | simp [cell_new]); have k1_3 : w1.cell? ⟨w.heap.size + 1, 3, none⟩ = some (.int .i64 0) := (by rw [hc1 _ _ (by first | assumption | (simp; done) | (simp; omega))]; first | assumption | simp [cell_new]); have k1_4 : w1.cell? ⟨w.heap.size + 1, 4, none⟩ = some (.int .i64 0) := (by rw [hc1 _ _ (by first | assumption | (simp; done) | (simp; omega))]; first | assumption | simp [cell_new]); have k1_5 : w1.cell? ⟨w.heap.size + 1, 5, none⟩ = some (.int .i64 0) := (by rw [hc1 _ _ (by first | assumption | (simp; done) | (simp; omega))]; first | assumption | simp [cell_new]); have k1_6 : w1.cell? ⟨w.heap.size + 1, 6, none⟩ = some (.int .i64 0) := (by rw [hc1 _ _ (by first | assumption | (simp; done) | (simp; omega))]; first | assumption | simp [cell_new]); have f0_0 : w1.frozen? ⟨w.heap.size, 0, none⟩ = false := (by rw [hf1 _ _ (by first | assumption | (simp; done) | (simp; omega))]; first | assumption | simp); have f0_1 : w1.frozen? ⟨w.heap.size, 1, none⟩ = false := (by rw [hf1 _ _ (by first | assumption | (simp; done) | (simp; omega))]; first | assumption | simp); have f0_2 : w1.frozen? ⟨w.heap.size, 2, none⟩ = false := (by rw [hf1 _ _ (by first | assumption | (simp; done) | (simp; omega))]; first | assumption | simp); have f0_3 : w1.frozen? ⟨w.heap.size, 3, none⟩ = false := (by rw [hf1 _ _ (by first | assumption | (simp; done) | (simp; omega))]; first | assumption | simp); have f0_4 : w1.frozen? ⟨w.heap.size, 4, none⟩ = false := (by rw [hf1 _ _ (by first | assumption | (simp; done) | (simp; omega))]; first | assumption | simp); have f0_5 : w1.frozen? ⟨w.heap.size, 5, none⟩ = false := (by rw [hf1 _ _ (by first | assumption | (simp; done) | (simp; omega))]; first | assumption | simp); have f0_6 : w1.frozen? ⟨w.heap.size, 6, none⟩ = false := (by rw [hf1 _ _ (by first | assumption | (simp; done) | (simp; omega))]; first | assumption | simp); have f1_0 : w1.frozen? ⟨w.heap.size + 1, 0, none⟩ = false := (by rw [hf1 _ _ (by first | assumption | (simp; done) | (simp; omega))]; first | assumption | simp); have f1_1 : w1.frozen? ⟨w.heap.size + 1, 1, none⟩ = false := (by rw [hf1 _ _ (by first | assumption | (simp; done) | (simp; omega))]; first | assumption | simp); have f1_2 : w1.frozen? ⟨w.heap.size + 1, 2, none⟩ = false := (by rw [hf1 _ _ (by first | assumption | (simp; done) | (simp; omega))]; first | assumption | simp); have f1_3 : w1.frozen? ⟨w.heap.size + 1, 3, none⟩ = false := (by rw [hf1 _ _ (by first | assumption | (simp; done) | (simp; omega))]; first | assumption | simp); have f1_4 : w1.frozen? ⟨w.heap.size + 1, 4, none⟩ = false := (by rw [hf1 _ _ (by first | assumption | (simp; done) | (simp; omega))]; first | assumption | simp); have f1_5 : w1.frozen? ⟨w.heap.size + 1, 5, none⟩ = false := (by rw [hf1 _ _ (by first | assumption | (simp; done) | (simp; omega))]; first | assumption | simp); have f1_6 : w1.frozen? ⟨w.heap.size + 1, 6, none⟩ = false := (by rw [hf1 _ _ (by first | assumption | (simp; done) | (simp; omega))]; first | assumption | simp); clear hc1 hf1; have HB := hid (show Below w.heap.size w w1 by first | exact HB.out.trans (hb1.mono HB.out.size) | exact ((Below.refl _ _).alloc (Nat.le_refl _) _).trans (hb1.mono (by simp)) | (refine Below.trans ?_ (hb1.mono (by simp; try omega)); go_grown)); clear hb1) | (go_at_call 53; refine (rnone_of HN.out _).mono ?_; rintro e w1 ⟨rfl, hb1⟩; obtain ⟨hc1, hf1⟩ := bcell hb1; have hz1 : w.heap.size < w1.heap.size := (by have := hb1.size; (try simp at this); omega); have hz2 : w.heap.size + 1 < w1.heap.size := (by have := hb1.size; (try simp at this); omega); have k0_0 : w1.cell? ⟨w.heap.size, 0, none⟩ = some (.int .i64 bc) := (by rw [hc1 _ _ (by first | assumption | (simp; done) | (simp; omega))]; first | assumption | simp [cell_alloc_lt, cell_new]); have k0_1 : w1.cell? ⟨w.heap.size, 1, none⟩ = some (.int .i64 bn) := (by rw [hc1 _ _ (by first | assumption | (simp; done) | (simp; omega))]; first | assumption | simp [cell_alloc_lt, cell_new]); have k0_2 : w1.cell? ⟨w.heap.size, 2, none⟩ = some (.int .i64 ic) := (by rw [hc1 _ _ (by first | assumption | (simp; done) | (simp; omega))]; first | assumption | simp [cell_alloc_lt, cell_new]); have k0_3 : w1.cell? ⟨w.heap.size, 3, none⟩ = some (.int .i64 ix) := (by rw [hc1 _ _ (by first | assumption | (simp; done) | (simp; omega))]; first | assumption | simp [cell_alloc_lt, cell_new]); have k0_4 : w1.cell? ⟨w.heap.size, 4, none⟩ = some (.int .i64 1) := (by rw [hc1 _ _ (by first | assumption | (simp; done) | (simp; omega))]; first | assumption | simp [cell_alloc_lt, cell_new]); have k0_5 : w1.cell? ⟨w.heap.size, 5, none⟩ = some (.int .i64 d) := (by rw [hc1 _ _ (by first | assumption | (simp; done) | (simp; omega))]; first | assumption | simp [cell_alloc_lt, cell_new]); have k0_6 : w1.cell? ⟨w.heap.size, 6, none⟩ = some (.int .i64 z) := (by rw [hc1 _ _ (by first | assumption | (simp; done) | (simp; omega))]; first | assumption | simp [cell_alloc_lt, cell_new]); have k1_0 : w1.cell? ⟨w.heap.size + 1, 0, none⟩ = some (.int .i64 0) := (by rw [hc1 _ _ (by first | assumption | (simp; done) | (simp; omega))]; first | assumption | simp [cell_new]); have k1_1 : w1.cell? ⟨w.heap.size + 1, 1, none⟩ = some (.int .i64 0) := (by rw [hc1 _ _ (by first | assumption | (simp; done) | (simp; omega))]; first | assumption | simp [cell_new]); have k1_2 : w1.cell? ⟨w.heap.size + 1, 2, none⟩ = some (.int .i64 0) := (by rw [hc1 _ _ (by first | assumption | (simp; done) | (simp; omega))]; first | assumption | simp [cell_new]); have k1_3 : w1.cell? ⟨w.heap.size + 1, 3, none⟩ = some (.int .i64 0) := (by rw [hc1 _ _ (by first | assumption | (simp; done) | (simp; omega))]; first | assumption | simp [cell_new]); have k1_4 : w1.cell? ⟨w.heap.size + 1, 4, none⟩ = some (.int .i64 0) := (by rw [hc1 _ _ (by first | assumption | (simp; done) | (simp; omega))]; first | assumption | simp [cell_new]); have k1_5 : w1.cell? ⟨w.heap.size + 1, 5, none⟩ = some (.int .i64 0) := (by rw [hc1 _ _ (by first | assumption | (simp; done) | (simp; omega))]; first | assumption | simp [cell_new]); have k1_6 : w1.cell? ⟨w.heap.size + 1, 6, none⟩ = some (.int .i64 0) := (by rw [hc1 _ _ (by first | assumption | (simp; done) | (simp; omega))]; first | assumption | simp [cell_new]); have f0_0 : w1.frozen? ⟨w.heap.size, 0, none⟩ = false := (by rw [hf1 _ _ (by first | assumption | (simp; done) | (simp; omega))]; first | assumption | simp); have f0_1 : w1.frozen? ⟨w.heap.size, 1, none⟩ = false := (by rw [hf1 _ _ (by first | assumption | (simp; done) | (simp; omega))]; first | assumption | simp); have f0_2 : w1.frozen? ⟨w.heap.size, 2, none⟩ = false := (by rw [hf1 _ _ (by first | assumption | (simp; done) | (simp; omega))]; first | assumption | simp); have f0_3 : w1.frozen? ⟨w.heap.size, 3, none⟩ = false := (by rw [hf1 _ _ (by first | assumption | (simp; done) | (simp; omega))]; first | assumption | simp); have f0_4 : w1.frozen? ⟨w.heap.size, 4, none⟩ = false := (by rw [hf1 _ _ (by first | assumption | (simp; done) | (simp; omega))]; first | assumption | simp); have f0_5 : w1.frozen? ⟨w.heap.size, 5, none⟩ = false := (by rw [hf1 _ _ (by first | assumption | (simp; done) | (simp; omega))]; first | assumption | simp); have f0_6 : w1.frozen? ⟨w.heap.size, 6, none⟩ = false := (by rw [hf1 _ _ (by first | assumption | (simp; done) | (simp; omega))]; first | assumption | simp); have f1_0 : w1.frozen? ⟨w.heap.size + 1, 0, none⟩ = false := (by rw [hf1 _ _ (by first | assumption | (simp; done) | (simp; omega))]; first | assumption | simp); have f1_1 : w1.frozen? ⟨w.heap.size + 1, 1, none⟩ = false := (by rw [hf1 _ _ (by first | assumption | (simp; done) | (simp; omega))]; first | assumption | simp); have f1_2 : w1.frozen? ⟨w.heap.size + 1, 2, none⟩ = false := (by rw [hf1 _ _ (by first | assumption | (simp; done) | (simp; omega))]; first | assumption | simp); have f1_3 : w1.frozen? ⟨w.heap.size + 1, 3, none⟩ = false := (by rw [hf1 _ _ (by first | assumption | (simp; done) | (simp; omega))]; first | assumption | simp); have f1_4 : w1.frozen? ⟨w.heap.size + 1, 4, none⟩ = false := (by rw [hf1 _ _ (by first | assumption | (simp; done) | (simp; omega))]; first | assumption | simp); have f1_5 : w1.frozen? ⟨w.heap.size + 1, 5, none⟩ = false := (by rw [hf1 _ _ (by first | assumption | (simp; done) | (simp; omega))]; first | assumption | simp); have f1_6 : w1.frozen? ⟨w.heap.size + 1, 6, none⟩ = false := (by rw [hf1 _ _ (by first | assumption | (simp; done) | (simp; omega))]; first | assumption | simp); clear hc1 hf1; have HB := hid (show Below w.heap.size w w1 by first | exact HB.out.trans (hb1.mono HB.out.size) | exact ((Below.refl _ _).alloc (Nat.le_refl _) _).trans (hb1.mono (by simp)) | (refine Below.trans ?_ (hb1.mono (by simp; try omega)); go_grown)); clear hb1))
  refine bodyPost_ret (v := .tuple #[.agg #[.int .i64 bc, .int .i64 bn, .int .i64 ic, .int .i64 ix, .int .i64 1, .int .i64 d, .int .i64 z], .int .i64 0]) (by simp [results, Tryd.results31, go_sem, *]) rfl ⟨rfl, ?_⟩
  (repeat (first | with_reducible refine Below.setCell ?_ (by simp) _ | with_reducible refine Below.alloc ?_ HB.out.size _ | with_reducible refine Below.alloc ?_ (by simpa using HB.out.size) _))
  exact HB.out
end Go.Proofs.YtiiepdgpnnjpiaaDoor
end
section
namespace Go.Proofs.YtiiepdgpnnjpiaaDoor
open Go.RowKit

set_option maxHeartbeats 1000000 in
theorem rcanon_base (bc bn ic ix d z : Int) (HK : Hid (checkF ⟨bc, bn, ic, ix, 1, d, z⟩ = 0)) (HN : Hid (noneF bc bn = true)) (w : World) :
    Calls Tryd.prog 31 #[.agg #[.int .i64 bc, .int .i64 bn, .int .i64 ic, .int .i64 ix, .int .i64 1, .int .i64 d, .int .i64 z]] w fun e w' => e = .returned (.tuple #[.agg #[.int .i64 ic, .int .i64 ix, .int .i64 0, .int .i64 0, .int .i64 0, .int .i64 d, .int .i64 z], .int .i64 0]) ∧ Below w.heap.size w w' := by
  go_enter Tryd.func31, Tryd.ntmps31
  go_upto_if 19 with (first | (go_at_call 52; refine (rcheck_of HK.out _).mono ?_; rintro e w1 ⟨rfl, hb1⟩; have HT := hid (Two.below (Two.start w ⟨bc, bn, ic, ix, 1, d, z⟩ ⟨0, 0, 0, 0, 0, 0, 0⟩) hb1); clear hb1; obtain ⟨⟨c0, c1, c2, c3, c4, c5, c6⟩, ⟨r0, r1, r2, r3, r4, r5, r6⟩, f0, f1⟩ := HT.out.cells; have hz1 := HT.out.lt; have hz0 : w.heap.size < w1.heap.size := by omega) | (go_at_call 53; refine (rnone_of HN.out _).mono ?_; rintro e w1 ⟨rfl, hb1⟩; have HT := hid (HT.out.below hb1); clear hb1; obtain ⟨⟨c0, c1, c2, c3, c4, c5, c6⟩, ⟨r0, r1, r2, r3, r4, r5, r6⟩, f0, f1⟩ := HT.out.cells; have hz1 := HT.out.lt; have hz0 : w.heap.size < w1.heap.size := by omega))
  go_cut [20] (fun _ wx => Hid (Two w ⟨ic, ix, 0, 0, 0, d, z⟩ ⟨0, 0, 0, 0, 0, 0, 0⟩ wx))
  case first =>
    go_wp2_with fail
    go_meet
    exact hid ((((((HT.out).set (p' := ⟨ic, bn, ic, ix, 1, d, z⟩) 0 (.int .i64 ic) rfl).set (p' := ⟨ic, ix, ic, ix, 1, d, z⟩) 1 (.int .i64 ix) rfl).set (p' := ⟨ic, ix, 0, ix, 1, d, z⟩) 2 (.int .i64 0) rfl).set (p' := ⟨ic, ix, 0, 0, 1, d, z⟩) 3 (.int .i64 0) rfl).set (p' := ⟨ic, ix, 0, 0, 0, d, z⟩) 4 (.int .i64 0) rfl)
  case rest =>
    clear HT c0 c1 c2 c3 c4 c5 c6 r0 r1 r2 r3 r4 r5 r6 f0 f1 hz0 hz1
    have HT := hcut
    clear hcut
    obtain ⟨⟨c0, c1, c2, c3, c4, c5, c6⟩, ⟨r0, r1, r2, r3, r4, r5, r6⟩, f0, f1⟩ := HT.out.cells
    have hz1 := HT.out.lt
    have hz0 : w.heap.size < wc.heap.size := by omega
    go_wp2_with fail
    refine bodyPost_ret (v := .tuple #[.agg #[.int .i64 ic, .int .i64 ix, .int .i64 0, .int .i64 0, .int .i64 0, .int .i64 d, .int .i64 z], .int .i64 0]) (by simp [results, Tryd.results31, go_sem, *]) rfl ⟨rfl, ?_⟩
    (repeat with_reducible refine Below.setCell ?_ (by simp) _)
    exact HT.out.1
end Go.Proofs.YtiiepdgpnnjpiaaDoor
end
section
namespace Go.Proofs.YtiiepdgpnnjpiaaDoor
open Go.RowKit

set_option maxHeartbeats 1000000 in
theorem rcanon_swap (bc bn ic d z : Int) (HK : Hid (checkF ⟨bc, bn, ic, 4, 1, d, z⟩ = 0)) (HN : Hid (noneF bc bn = false)) (w : World) :
    Calls Tryd.prog 31 #[.agg #[.int .i64 bc, .int .i64 bn, .int .i64 ic, .int .i64 4, .int .i64 1, .int .i64 d, .int .i64 z]] w fun e w' => e = .returned (.tuple #[.agg #[.int .i64 ic, .int .i64 4, .int .i64 bc, .int .i64 bn, .int .i64 1, .int .i64 d, .int .i64 z], .int .i64 0]) ∧ Below w.heap.size w w' := by
  go_enter Tryd.func31, Tryd.ntmps31
  go_upto_if 34 with (first | (go_at_call 52; refine (rcheck_of HK.out _).mono ?_; rintro e w1 ⟨rfl, hb1⟩; have HT := hid (Two.below (Two.start w ⟨bc, bn, ic, 4, 1, d, z⟩ ⟨0, 0, 0, 0, 0, 0, 0⟩) hb1); clear hb1; obtain ⟨⟨c0, c1, c2, c3, c4, c5, c6⟩, ⟨r0, r1, r2, r3, r4, r5, r6⟩, f0, f1⟩ := HT.out.cells; have hz1 := HT.out.lt; have hz0 : w.heap.size < w1.heap.size := by omega) | (go_at_call 53; refine (rnone_of HN.out _).mono ?_; rintro e w1 ⟨rfl, hb1⟩; have HT := hid (HT.out.below hb1); clear hb1; obtain ⟨⟨c0, c1, c2, c3, c4, c5, c6⟩, ⟨r0, r1, r2, r3, r4, r5, r6⟩, f0, f1⟩ := HT.out.cells; have hz1 := HT.out.lt; have hz0 : w.heap.size < w1.heap.size := by omega))
  go_cut [20] (fun _ wx => Hid (Two w ⟨ic, 4, bc, bn, 1, d, z⟩ ⟨0, 0, 0, 0, 0, 0, 0⟩ wx))
  case first =>
    go_wp2_with fail
    go_meet
    exact hid ((((((HT.out).set (p' := ⟨ic, bn, ic, 4, 1, d, z⟩) 0 (.int .i64 ic) rfl).set (p' := ⟨ic, 4, ic, 4, 1, d, z⟩) 1 (.int .i64 4) rfl).set (p' := ⟨ic, 4, bc, 4, 1, d, z⟩) 2 (.int .i64 bc) rfl).set (p' := ⟨ic, 4, bc, bn, 1, d, z⟩) 3 (.int .i64 bn) rfl).alloc _)
  case rest =>
    clear HT c0 c1 c2 c3 c4 c5 c6 r0 r1 r2 r3 r4 r5 r6 f0 f1 hz0 hz1
    have HT := hcut
    clear hcut
    obtain ⟨⟨c0, c1, c2, c3, c4, c5, c6⟩, ⟨r0, r1, r2, r3, r4, r5, r6⟩, f0, f1⟩ := HT.out.cells
    have hz1 := HT.out.lt
    have hz0 : w.heap.size < wc.heap.size := by omega
    go_wp2_with fail
    refine bodyPost_ret (v := .tuple #[.agg #[.int .i64 ic, .int .i64 4, .int .i64 bc, .int .i64 bn, .int .i64 1, .int .i64 d, .int .i64 z], .int .i64 0]) (by simp [results, Tryd.results31, go_sem, *]) rfl ⟨rfl, ?_⟩
    (repeat with_reducible refine Below.setCell ?_ (by simp) _)
    exact HT.out.1
end Go.Proofs.YtiiepdgpnnjpiaaDoor
end
section
namespace Go.Proofs.YtiiepdgpnnjpiaaDoor
open Go.RowKit

theorem ok_parts {p : Pl} (h : checkF p = 0) : (¬ (p.d < -2147483648 ∨ 2147483647 < p.d)) ∧ sizedF p.z = true ∧ basedF p.bc p.bn = true ∧ indexedF p = true := by
  unfold checkF at h
  split at h
  · cases h
  · rename_i h1
    split at h
    · rename_i h2
      simp at h2
      exact ⟨h1, h2.1.1, h2.1.2, h2.2⟩
    · cases h
theorem one_wide {p : Pl} (h : checkF p = 0) (hs : p.s = 1) : p.ic = 5 ∧ 0 ≤ p.ix ∧ p.ix < 16 := by
  have := (ok_parts h).2.2.2
  unfold indexedF at this
  rw [hs] at this
  split at this
  · cases this
  · split at this
    · cases this
    · rename_i h2
      simp [wideF] at h2
      omega
theorem rsp_one {p : Pl} (h : checkF p = 0) (ht : stackF p.ic p.ix = true) : p.s = 1 := by
  have hp : p.ic = 5 ∧ p.ix = 4 := by simpa [stackF] using ht
  have := (ok_parts h).2.2.2
  unfold indexedF at this
  rw [ht, hp.1, hp.2] at this
  simp [noneF] at this
  exact this.2.1
theorem canon_any (bc bn ic ix s d z : Int) (hs : I64 s) (w : World) :
    Calls Tryd.prog 42 #[.agg #[.int .i64 bc, .int .i64 bn, .int .i64 ic, .int .i64 ix, .int .i64 s, .int .i64 d, .int .i64 z]] w fun e w' => e = .returned (.tuple #[MV (outF ⟨bc, bn, ic, ix, s, d, z⟩), .int .i64 (checkF ⟨bc, bn, ic, ix, s, d, z⟩)]) ∧ Below w.heap.size w w' := by
  obtain ⟨k, hk⟩ : ∃ k, checkF ⟨bc, bn, ic, ix, s, d, z⟩ = k := ⟨_, rfl⟩
  by_cases h0 : k = 0
  · subst h0
    have hout : outF ⟨bc, bn, ic, ix, s, d, z⟩ = canonF ⟨bc, bn, ic, ix, s, d, z⟩ := by unfold outF; rw [if_pos hk]
    rw [hout, hk]
    by_cases h1 : s = 1
    · subst h1
      cases hn : noneF bc bn
      · cases ht : stackF ic ix
        · rw [show canonF _ = ⟨bc, bn, ic, ix, 1, d, z⟩ by simp [canonF, hn, ht]]
          exact canon_plain1 _ _ _ _ _ _ (hid hs) (hid hk) (hid hn) (hid ht) w
        · rw [show canonF _ = ⟨ic, ix, bc, bn, 1, d, z⟩ by simp [canonF, hn, ht]]
          exact canon_swap1 _ _ _ _ _ _ (hid hs) (hid hk) (hid hn) (hid ht) w
      · rw [show canonF _ = ⟨ic, ix, 0, 0, 0, d, z⟩ by simp [canonF, hn]]
        exact canon_base _ _ _ _ _ _ (hid hs) (hid hk) (hid hn) w
    · cases ht : stackF ic ix
      · rw [show canonF _ = ⟨bc, bn, ic, ix, s, d, z⟩ by simp [canonF, h1, ht]]
        exact canon_plain _ _ _ _ _ _ _ (hid hs) (hid hk) h1 (hid ht) w
      · rw [show canonF _ = ⟨ic, ix, bc, bn, s, d, z⟩ by simp [canonF, h1, ht]]
        exact canon_swap _ _ _ _ _ _ _ (hid hs) (hid hk) h1 (hid ht) w
  · have hout : outF ⟨bc, bn, ic, ix, s, d, z⟩ = ⟨0, 0, 0, 0, 0, 0, 0⟩ := by unfold outF; rw [if_neg (by rw [hk]; exact h0)]
    rw [hout, hk]
    exact canon_not _ _ _ _ _ _ _ k h0 (hid hs) (hid hk) w
theorem rcanon_any (bc bn ic ix s d z : Int) (w : World) :
    Calls Tryd.prog 31 #[.agg #[.int .i64 bc, .int .i64 bn, .int .i64 ic, .int .i64 ix, .int .i64 s, .int .i64 d, .int .i64 z]] w fun e w' => e = .returned (.tuple #[MV (outF ⟨bc, bn, ic, ix, s, d, z⟩), .int .i64 (checkF ⟨bc, bn, ic, ix, s, d, z⟩)]) ∧ Below w.heap.size w w' := by
  obtain ⟨k, hk⟩ : ∃ k, checkF ⟨bc, bn, ic, ix, s, d, z⟩ = k := ⟨_, rfl⟩
  by_cases h0 : k = 0
  · subst h0
    have hout : outF ⟨bc, bn, ic, ix, s, d, z⟩ = canonF ⟨bc, bn, ic, ix, s, d, z⟩ := by unfold outF; rw [if_pos hk]
    rw [hout, hk]
    by_cases h1 : s = 1
    · subst h1
      cases hn : noneF bc bn
      · obtain rfl : ic = 5 := (one_wide hk rfl).1
        by_cases h4 : ix = 4
        · subst h4
          rw [show canonF _ = ⟨5, 4, bc, bn, 1, d, z⟩ by simp [canonF, hn, stackF]]
          exact rcanon_swap _ _ _ _ _ (hid hk) (hid hn) w
        · rw [show canonF _ = ⟨bc, bn, 5, ix, 1, d, z⟩ by simp [canonF, hn, stackF, h4]]
          exact rcanon_one _ _ _ _ _ _ (hid hk) (hid hn) h4 w
      · rw [show canonF _ = ⟨ic, ix, 0, 0, 0, d, z⟩ by simp [canonF, hn]]
        exact rcanon_base _ _ _ _ _ _ (hid hk) (hid hn) w
    · have ht : stackF ic ix = false := Bool.eq_false_iff.2 fun ht => h1 (rsp_one hk ht)
      rw [show canonF _ = ⟨bc, bn, ic, ix, s, d, z⟩ by simp [canonF, h1, ht]]
      exact rcanon_plain _ _ _ _ _ _ _ (hid hk) h1 w
  · have hout : outF ⟨bc, bn, ic, ix, s, d, z⟩ = ⟨0, 0, 0, 0, 0, 0, 0⟩ := by unfold outF; rw [if_neg (by rw [hk]; exact h0)]
    rw [hout, hk]
    exact rcanon_not _ _ _ _ _ _ _ k h0 (hid hk) w
end Go.Proofs.YtiiepdgpnnjpiaaDoor
end
