/-
  The walk of MemSame.
-/
import Derived.Test.YtdononofdnclfaaMemCanon
namespace Go.Proofs.Ytdononofdnclfaa
open Go.RowKit

set_option maxHeartbeats 4000000 in
theorem same_law_t (bc bn ic ix s d z bc' bn' ic' ix' s' : Int) (A : Option Addr) (cap : Nat) (xs : List Int) (next : Int) (w : World) (HS1 : Hid (I64 s)) (HS2 : Hid (I64 s')) (HI : Hid (Ints w w.heap.size A xs)) (HK : Hid (checkF ⟨bc, bn, ic, ix, s, d, z⟩ = 0)) (HE1 : Hid (sameF ⟨bc, bn, ic, ix, s, d, z⟩ ⟨bc', bn', ic', ix', s', d, z⟩ = true)) (HE2 : Hid (sameF ⟨bc', bn', ic', ix', s', d, z⟩ ⟨bc, bn, ic, ix, s, d, z⟩ = true)) (HE3 : Hid (sameF ⟨bc, bn, ic, ix, s, d, z⟩ ⟨bc, bn, ic, ix, s, d, z⟩ = true)) (hl : (xs.length : Int) ≤ 20) (x e : Int) (HK2 : Hid (checkF ⟨bc', bn', ic', ix', s', d, z⟩ = 0)) (HV1 : Hid (addrOut ⟨bc, bn, ic, ix, s, d, z⟩ xs next = x)) (HV2 : Hid (addrOut ⟨bc', bn', ic', ix', s', d, z⟩ xs next = x)) (HR1 : Hid (addrErr ⟨bc, bn, ic, ix, s, d, z⟩ xs.length = e)) (HR2 : Hid (addrErr ⟨bc', bn', ic', ix', s', d, z⟩ xs.length = e)) :
    Calls Try.prog 7 #[.agg #[.int .i64 bc, .int .i64 bn, .int .i64 ic, .int .i64 ix, .int .i64 s, .int .i64 d, .int .i64 z], .agg #[.int .i64 bc', .int .i64 bn', .int .i64 ic', .int .i64 ix', .int .i64 s', .int .i64 d, .int .i64 z], .slice A xs.length cap, .int .i64 next] w fun e w' => e = .returned (.bool true) ∧ Below w.heap.size w w' := by
  go_enter Try.func7, Try.ntmps7
  go_wp2_with fail
  refine (awake_any _).mono ?_
  rintro e w1 ⟨rfl, hb1⟩
  obtain ⟨hc1, hf1⟩ := bcell hb1
  have HB1 := hid (show Below w.heap.size w w1 from (((Below.refl _ _).alloc (Nat.le_refl _) _).alloc (by simp) _).trans (hb1.mono (by simp; omega)))
  have hz1 : w.heap.size + 1 < w1.heap.size := by have := hb1.size; simp at this; omega
  have hz0 : w.heap.size < w1.heap.size := by omega
  have a0 : w1.cell? ⟨w.heap.size, 0, none⟩ = some (.int .i64 bc) := by rw [hc1 _ _ (by simp; omega)]; simp [cell_alloc_lt, cell_new]
  have a1 : w1.cell? ⟨w.heap.size, 1, none⟩ = some (.int .i64 bn) := by rw [hc1 _ _ (by simp; omega)]; simp [cell_alloc_lt, cell_new]
  have a2 : w1.cell? ⟨w.heap.size, 2, none⟩ = some (.int .i64 ic) := by rw [hc1 _ _ (by simp; omega)]; simp [cell_alloc_lt, cell_new]
  have a3 : w1.cell? ⟨w.heap.size, 3, none⟩ = some (.int .i64 ix) := by rw [hc1 _ _ (by simp; omega)]; simp [cell_alloc_lt, cell_new]
  have a4 : w1.cell? ⟨w.heap.size, 4, none⟩ = some (.int .i64 s) := by rw [hc1 _ _ (by simp; omega)]; simp [cell_alloc_lt, cell_new]
  have a5 : w1.cell? ⟨w.heap.size, 5, none⟩ = some (.int .i64 d) := by rw [hc1 _ _ (by simp; omega)]; simp [cell_alloc_lt, cell_new]
  have a6 : w1.cell? ⟨w.heap.size, 6, none⟩ = some (.int .i64 z) := by rw [hc1 _ _ (by simp; omega)]; simp [cell_alloc_lt, cell_new]
  have b0 : w1.cell? ⟨w.heap.size + 1, 0, none⟩ = some (.int .i64 bc') := by rw [hc1 _ _ (by simp)]; simp [cell_new]
  have b1 : w1.cell? ⟨w.heap.size + 1, 1, none⟩ = some (.int .i64 bn') := by rw [hc1 _ _ (by simp)]; simp [cell_new]
  have b2 : w1.cell? ⟨w.heap.size + 1, 2, none⟩ = some (.int .i64 ic') := by rw [hc1 _ _ (by simp)]; simp [cell_new]
  have b3 : w1.cell? ⟨w.heap.size + 1, 3, none⟩ = some (.int .i64 ix') := by rw [hc1 _ _ (by simp)]; simp [cell_new]
  have b4 : w1.cell? ⟨w.heap.size + 1, 4, none⟩ = some (.int .i64 s') := by rw [hc1 _ _ (by simp)]; simp [cell_new]
  have b5 : w1.cell? ⟨w.heap.size + 1, 5, none⟩ = some (.int .i64 d) := by rw [hc1 _ _ (by simp)]; simp [cell_new]
  have b6 : w1.cell? ⟨w.heap.size + 1, 6, none⟩ = some (.int .i64 z) := by rw [hc1 _ _ (by simp)]; simp [cell_new]
  clear hc1 hf1 hb1
  go_wp2_with fail
  refine (same_of HE1.out HS1.out HS2.out _).mono ?_
  rintro e w2 ⟨rfl, hb2⟩
  obtain ⟨hc2, hf2⟩ := bcell hb2
  have HB := hid (HB1.out.trans (hb2.mono HB1.out.size))
  have hz2 : w.heap.size + 1 < w2.heap.size := by have := hb2.size; omega
  have hz3 : w.heap.size < w2.heap.size := by omega
  have a'0 : w2.cell? ⟨w.heap.size, 0, none⟩ = some (.int .i64 bc) := by rw [hc2 _ _ hz0]; exact a0
  have a'1 : w2.cell? ⟨w.heap.size, 1, none⟩ = some (.int .i64 bn) := by rw [hc2 _ _ hz0]; exact a1
  have a'2 : w2.cell? ⟨w.heap.size, 2, none⟩ = some (.int .i64 ic) := by rw [hc2 _ _ hz0]; exact a2
  have a'3 : w2.cell? ⟨w.heap.size, 3, none⟩ = some (.int .i64 ix) := by rw [hc2 _ _ hz0]; exact a3
  have a'4 : w2.cell? ⟨w.heap.size, 4, none⟩ = some (.int .i64 s) := by rw [hc2 _ _ hz0]; exact a4
  have a'5 : w2.cell? ⟨w.heap.size, 5, none⟩ = some (.int .i64 d) := by rw [hc2 _ _ hz0]; exact a5
  have a'6 : w2.cell? ⟨w.heap.size, 6, none⟩ = some (.int .i64 z) := by rw [hc2 _ _ hz0]; exact a6
  have b'0 : w2.cell? ⟨w.heap.size + 1, 0, none⟩ = some (.int .i64 bc') := by rw [hc2 _ _ hz1]; exact b0
  have b'1 : w2.cell? ⟨w.heap.size + 1, 1, none⟩ = some (.int .i64 bn') := by rw [hc2 _ _ hz1]; exact b1
  have b'2 : w2.cell? ⟨w.heap.size + 1, 2, none⟩ = some (.int .i64 ic') := by rw [hc2 _ _ hz1]; exact b2
  have b'3 : w2.cell? ⟨w.heap.size + 1, 3, none⟩ = some (.int .i64 ix') := by rw [hc2 _ _ hz1]; exact b3
  have b'4 : w2.cell? ⟨w.heap.size + 1, 4, none⟩ = some (.int .i64 s') := by rw [hc2 _ _ hz1]; exact b4
  have b'5 : w2.cell? ⟨w.heap.size + 1, 5, none⟩ = some (.int .i64 d) := by rw [hc2 _ _ hz1]; exact b5
  have b'6 : w2.cell? ⟨w.heap.size + 1, 6, none⟩ = some (.int .i64 z) := by rw [hc2 _ _ hz1]; exact b6
  clear hc2 hf2 hb2 hz0 hz1 HB1 a0 b0 a1 b1 a2 b2 a3 b3 a4 b4 a5 b5 a6 b6
  go_wp2_with fail
  have HIW := hid ((HI.out.below HB.out).mono HB.out.size)
  have hS := Old.of (Below.refl w2.heap.size w2)
  go_region_held3 (fun w' => Below w2.heap.size w2 w' ∧ ∀ b o, b < w2.heap.size → w'.cell? ⟨b, o, none⟩ = w2.cell? ⟨b, o, none⟩) (first | assumption | exact old_drew ‹_› | (refine old_kept ?_ (by assumption); assumption)) (first | (go_at_call 12; with_reducible refine (same_of HE2.out HS2.out HS1.out _).mono ?_; rintro e w3 ⟨rfl, hbel⟩) | (go_at_call 12; with_reducible refine (same_of HE3.out HS1.out HS1.out _).mono ?_; rintro e w3 ⟨rfl, hbel⟩) | (go_at_call 10; with_reducible refine (check_of HK.out HS1.out _).mono ?_; rintro e w3 ⟨rfl, hbel⟩))
  have HO : Old w2 w3 := ‹Below w2.heap.size w2 w3 ∧ _›
  have hc1 := HO.cells
  go_wp2_with (first | (go_at_call 16; with_reducible refine (address_of HV1.out HR1.out HS1.out _ (HO.ints HIW.out)).mono ?_; rintro e w1 ⟨rfl, hb1⟩; have HO : Old w2 w1 := HO.kept hb1; have hc1 := HO.cells; clear hb1) | (go_at_call 16; with_reducible refine (address_of HV2.out HR2.out HS2.out _ (HO.ints HIW.out)).mono ?_; rintro e w1 ⟨rfl, hb1⟩; have HO : Old w2 w1 := HO.kept hb1; have hc1 := HO.cells; clear hb1) | (go_at_call 10; with_reducible refine (check_of HK.out HS1.out _).mono ?_; rintro e w1 ⟨rfl, hb1⟩; have HO : Old w2 w1 := HO.kept hb1; have hc1 := HO.cells; clear hb1) | (go_at_call 10; with_reducible refine (check_of HK2.out HS2.out _).mono ?_; rintro e w1 ⟨rfl, hb1⟩; have HO : Old w2 w1 := HO.kept hb1; have hc1 := HO.cells; clear hb1))
  go_returns
  exact ⟨by trivial, HB.out.trans (HO.below.mono HB.out.size)⟩
set_option maxHeartbeats 4000000 in
theorem same_law_u (bc bn ic ix s d z bc' bn' ic' ix' s' d' z' : Int) (A : Option Addr) (cap : Nat) (xs : List Int) (next : Int) (w : World) (HS1 : Hid (I64 s)) (HS2 : Hid (I64 s')) (HI : Hid (Ints w w.heap.size A xs)) (HK : Hid (checkF ⟨bc, bn, ic, ix, s, d, z⟩ = 0)) (HE1 : Hid (sameF ⟨bc, bn, ic, ix, s, d, z⟩ ⟨bc', bn', ic', ix', s', d', z'⟩ = false)) (HE2 : Hid (sameF ⟨bc', bn', ic', ix', s', d', z'⟩ ⟨bc, bn, ic, ix, s, d, z⟩ = false)) (HE3 : Hid (sameF ⟨bc, bn, ic, ix, s, d, z⟩ ⟨bc, bn, ic, ix, s, d, z⟩ = true)) (hl : (xs.length : Int) ≤ 20) (x y e e' : Int) (HV1 : Hid (addrOut ⟨bc, bn, ic, ix, s, d, z⟩ xs next = x)) (HV2 : Hid (addrOut ⟨bc', bn', ic', ix', s', d', z'⟩ xs next = y)) (HR1 : Hid (addrErr ⟨bc, bn, ic, ix, s, d, z⟩ xs.length = e)) (HR2 : Hid (addrErr ⟨bc', bn', ic', ix', s', d', z'⟩ xs.length = e')) :
    Calls Try.prog 7 #[.agg #[.int .i64 bc, .int .i64 bn, .int .i64 ic, .int .i64 ix, .int .i64 s, .int .i64 d, .int .i64 z], .agg #[.int .i64 bc', .int .i64 bn', .int .i64 ic', .int .i64 ix', .int .i64 s', .int .i64 d', .int .i64 z'], .slice A xs.length cap, .int .i64 next] w fun e w' => e = .returned (.bool true) ∧ Below w.heap.size w w' := by
  go_enter Try.func7, Try.ntmps7
  go_wp2_with fail
  refine (awake_any _).mono ?_
  rintro e w1 ⟨rfl, hb1⟩
  obtain ⟨hc1, hf1⟩ := bcell hb1
  have HB1 := hid (show Below w.heap.size w w1 from (((Below.refl _ _).alloc (Nat.le_refl _) _).alloc (by simp) _).trans (hb1.mono (by simp; omega)))
  have hz1 : w.heap.size + 1 < w1.heap.size := by have := hb1.size; simp at this; omega
  have hz0 : w.heap.size < w1.heap.size := by omega
  have a0 : w1.cell? ⟨w.heap.size, 0, none⟩ = some (.int .i64 bc) := by rw [hc1 _ _ (by simp; omega)]; simp [cell_alloc_lt, cell_new]
  have a1 : w1.cell? ⟨w.heap.size, 1, none⟩ = some (.int .i64 bn) := by rw [hc1 _ _ (by simp; omega)]; simp [cell_alloc_lt, cell_new]
  have a2 : w1.cell? ⟨w.heap.size, 2, none⟩ = some (.int .i64 ic) := by rw [hc1 _ _ (by simp; omega)]; simp [cell_alloc_lt, cell_new]
  have a3 : w1.cell? ⟨w.heap.size, 3, none⟩ = some (.int .i64 ix) := by rw [hc1 _ _ (by simp; omega)]; simp [cell_alloc_lt, cell_new]
  have a4 : w1.cell? ⟨w.heap.size, 4, none⟩ = some (.int .i64 s) := by rw [hc1 _ _ (by simp; omega)]; simp [cell_alloc_lt, cell_new]
  have a5 : w1.cell? ⟨w.heap.size, 5, none⟩ = some (.int .i64 d) := by rw [hc1 _ _ (by simp; omega)]; simp [cell_alloc_lt, cell_new]
  have a6 : w1.cell? ⟨w.heap.size, 6, none⟩ = some (.int .i64 z) := by rw [hc1 _ _ (by simp; omega)]; simp [cell_alloc_lt, cell_new]
  have b0 : w1.cell? ⟨w.heap.size + 1, 0, none⟩ = some (.int .i64 bc') := by rw [hc1 _ _ (by simp)]; simp [cell_new]
  have b1 : w1.cell? ⟨w.heap.size + 1, 1, none⟩ = some (.int .i64 bn') := by rw [hc1 _ _ (by simp)]; simp [cell_new]
  have b2 : w1.cell? ⟨w.heap.size + 1, 2, none⟩ = some (.int .i64 ic') := by rw [hc1 _ _ (by simp)]; simp [cell_new]
  have b3 : w1.cell? ⟨w.heap.size + 1, 3, none⟩ = some (.int .i64 ix') := by rw [hc1 _ _ (by simp)]; simp [cell_new]
  have b4 : w1.cell? ⟨w.heap.size + 1, 4, none⟩ = some (.int .i64 s') := by rw [hc1 _ _ (by simp)]; simp [cell_new]
  have b5 : w1.cell? ⟨w.heap.size + 1, 5, none⟩ = some (.int .i64 d') := by rw [hc1 _ _ (by simp)]; simp [cell_new]
  have b6 : w1.cell? ⟨w.heap.size + 1, 6, none⟩ = some (.int .i64 z') := by rw [hc1 _ _ (by simp)]; simp [cell_new]
  clear hc1 hf1 hb1
  go_wp2_with fail
  refine (same_of HE1.out HS1.out HS2.out _).mono ?_
  rintro e w2 ⟨rfl, hb2⟩
  obtain ⟨hc2, hf2⟩ := bcell hb2
  have HB := hid (HB1.out.trans (hb2.mono HB1.out.size))
  have hz2 : w.heap.size + 1 < w2.heap.size := by have := hb2.size; omega
  have hz3 : w.heap.size < w2.heap.size := by omega
  have a'0 : w2.cell? ⟨w.heap.size, 0, none⟩ = some (.int .i64 bc) := by rw [hc2 _ _ hz0]; exact a0
  have a'1 : w2.cell? ⟨w.heap.size, 1, none⟩ = some (.int .i64 bn) := by rw [hc2 _ _ hz0]; exact a1
  have a'2 : w2.cell? ⟨w.heap.size, 2, none⟩ = some (.int .i64 ic) := by rw [hc2 _ _ hz0]; exact a2
  have a'3 : w2.cell? ⟨w.heap.size, 3, none⟩ = some (.int .i64 ix) := by rw [hc2 _ _ hz0]; exact a3
  have a'4 : w2.cell? ⟨w.heap.size, 4, none⟩ = some (.int .i64 s) := by rw [hc2 _ _ hz0]; exact a4
  have a'5 : w2.cell? ⟨w.heap.size, 5, none⟩ = some (.int .i64 d) := by rw [hc2 _ _ hz0]; exact a5
  have a'6 : w2.cell? ⟨w.heap.size, 6, none⟩ = some (.int .i64 z) := by rw [hc2 _ _ hz0]; exact a6
  have b'0 : w2.cell? ⟨w.heap.size + 1, 0, none⟩ = some (.int .i64 bc') := by rw [hc2 _ _ hz1]; exact b0
  have b'1 : w2.cell? ⟨w.heap.size + 1, 1, none⟩ = some (.int .i64 bn') := by rw [hc2 _ _ hz1]; exact b1
  have b'2 : w2.cell? ⟨w.heap.size + 1, 2, none⟩ = some (.int .i64 ic') := by rw [hc2 _ _ hz1]; exact b2
  have b'3 : w2.cell? ⟨w.heap.size + 1, 3, none⟩ = some (.int .i64 ix') := by rw [hc2 _ _ hz1]; exact b3
  have b'4 : w2.cell? ⟨w.heap.size + 1, 4, none⟩ = some (.int .i64 s') := by rw [hc2 _ _ hz1]; exact b4
  have b'5 : w2.cell? ⟨w.heap.size + 1, 5, none⟩ = some (.int .i64 d') := by rw [hc2 _ _ hz1]; exact b5
  have b'6 : w2.cell? ⟨w.heap.size + 1, 6, none⟩ = some (.int .i64 z') := by rw [hc2 _ _ hz1]; exact b6
  clear hc2 hf2 hb2 hz0 hz1 HB1 a0 b0 a1 b1 a2 b2 a3 b3 a4 b4 a5 b5 a6 b6
  go_wp2_with fail
  have HIW := hid ((HI.out.below HB.out).mono HB.out.size)
  have hS := Old.of (Below.refl w2.heap.size w2)
  go_region_held3 (fun w' => Below w2.heap.size w2 w' ∧ ∀ b o, b < w2.heap.size → w'.cell? ⟨b, o, none⟩ = w2.cell? ⟨b, o, none⟩) (first | assumption | exact old_drew ‹_› | (refine old_kept ?_ (by assumption); assumption)) (first | (go_at_call 12; with_reducible refine (same_of HE2.out HS2.out HS1.out _).mono ?_; rintro e w3 ⟨rfl, hbel⟩) | (go_at_call 12; with_reducible refine (same_of HE3.out HS1.out HS1.out _).mono ?_; rintro e w3 ⟨rfl, hbel⟩) | (go_at_call 10; with_reducible refine (check_of HK.out HS1.out _).mono ?_; rintro e w3 ⟨rfl, hbel⟩))
  have HO : Old w2 w3 := ‹Below w2.heap.size w2 w3 ∧ _›
  have hc1 := HO.cells
  go_wp2_with (first | (go_at_call 16; with_reducible refine (address_of HV1.out HR1.out HS1.out _ (HO.ints HIW.out)).mono ?_; rintro e w1 ⟨rfl, hb1⟩; have HO : Old w2 w1 := HO.kept hb1; have hc1 := HO.cells; clear hb1) | (go_at_call 16; with_reducible refine (address_of HV2.out HR2.out HS2.out _ (HO.ints HIW.out)).mono ?_; rintro e w1 ⟨rfl, hb1⟩; have HO : Old w2 w1 := HO.kept hb1; have hc1 := HO.cells; clear hb1))
  go_returns
  exact ⟨by trivial, HB.out.trans (HO.below.mono HB.out.size)⟩
set_option maxHeartbeats 4000000 in
theorem same_law_v (bc bn ic ix s d z bc' bn' ic' ix' s' d' z' : Int) (A : Option Addr) (cap : Nat) (xs : List Int) (next : Int) (w : World) (HS1 : Hid (I64 s)) (HS2 : Hid (I64 s')) (HI : Hid (Ints w w.heap.size A xs)) (k : Int) (h0 : ¬ k = 0) (HK : Hid (checkF ⟨bc, bn, ic, ix, s, d, z⟩ = k)) (HE1 : Hid (sameF ⟨bc, bn, ic, ix, s, d, z⟩ ⟨bc', bn', ic', ix', s', d', z'⟩ = false)) (HE2 : Hid (sameF ⟨bc', bn', ic', ix', s', d', z'⟩ ⟨bc, bn, ic, ix, s, d, z⟩ = false)) (HE3 : Hid (sameF ⟨bc, bn, ic, ix, s, d, z⟩ ⟨bc, bn, ic, ix, s, d, z⟩ = false)) (hl : (xs.length : Int) ≤ 20) (x y e e' : Int) (HV1 : Hid (addrOut ⟨bc, bn, ic, ix, s, d, z⟩ xs next = x)) (HV2 : Hid (addrOut ⟨bc', bn', ic', ix', s', d', z'⟩ xs next = y)) (HR1 : Hid (addrErr ⟨bc, bn, ic, ix, s, d, z⟩ xs.length = e)) (HR2 : Hid (addrErr ⟨bc', bn', ic', ix', s', d', z'⟩ xs.length = e')) :
    Calls Try.prog 7 #[.agg #[.int .i64 bc, .int .i64 bn, .int .i64 ic, .int .i64 ix, .int .i64 s, .int .i64 d, .int .i64 z], .agg #[.int .i64 bc', .int .i64 bn', .int .i64 ic', .int .i64 ix', .int .i64 s', .int .i64 d', .int .i64 z'], .slice A xs.length cap, .int .i64 next] w fun e w' => e = .returned (.bool true) ∧ Below w.heap.size w w' := by
  have k1 : (k == 0) = false := by simp [h0]
  have k2 : decide (k = 0) = false := by simp [h0]
  go_enter Try.func7, Try.ntmps7
  go_wp2_with fail
  refine (awake_any _).mono ?_
  rintro e w1 ⟨rfl, hb1⟩
  obtain ⟨hc1, hf1⟩ := bcell hb1
  have HB1 := hid (show Below w.heap.size w w1 from (((Below.refl _ _).alloc (Nat.le_refl _) _).alloc (by simp) _).trans (hb1.mono (by simp; omega)))
  have hz1 : w.heap.size + 1 < w1.heap.size := by have := hb1.size; simp at this; omega
  have hz0 : w.heap.size < w1.heap.size := by omega
  have a0 : w1.cell? ⟨w.heap.size, 0, none⟩ = some (.int .i64 bc) := by rw [hc1 _ _ (by simp; omega)]; simp [cell_alloc_lt, cell_new]
  have a1 : w1.cell? ⟨w.heap.size, 1, none⟩ = some (.int .i64 bn) := by rw [hc1 _ _ (by simp; omega)]; simp [cell_alloc_lt, cell_new]
  have a2 : w1.cell? ⟨w.heap.size, 2, none⟩ = some (.int .i64 ic) := by rw [hc1 _ _ (by simp; omega)]; simp [cell_alloc_lt, cell_new]
  have a3 : w1.cell? ⟨w.heap.size, 3, none⟩ = some (.int .i64 ix) := by rw [hc1 _ _ (by simp; omega)]; simp [cell_alloc_lt, cell_new]
  have a4 : w1.cell? ⟨w.heap.size, 4, none⟩ = some (.int .i64 s) := by rw [hc1 _ _ (by simp; omega)]; simp [cell_alloc_lt, cell_new]
  have a5 : w1.cell? ⟨w.heap.size, 5, none⟩ = some (.int .i64 d) := by rw [hc1 _ _ (by simp; omega)]; simp [cell_alloc_lt, cell_new]
  have a6 : w1.cell? ⟨w.heap.size, 6, none⟩ = some (.int .i64 z) := by rw [hc1 _ _ (by simp; omega)]; simp [cell_alloc_lt, cell_new]
  have b0 : w1.cell? ⟨w.heap.size + 1, 0, none⟩ = some (.int .i64 bc') := by rw [hc1 _ _ (by simp)]; simp [cell_new]
  have b1 : w1.cell? ⟨w.heap.size + 1, 1, none⟩ = some (.int .i64 bn') := by rw [hc1 _ _ (by simp)]; simp [cell_new]
  have b2 : w1.cell? ⟨w.heap.size + 1, 2, none⟩ = some (.int .i64 ic') := by rw [hc1 _ _ (by simp)]; simp [cell_new]
  have b3 : w1.cell? ⟨w.heap.size + 1, 3, none⟩ = some (.int .i64 ix') := by rw [hc1 _ _ (by simp)]; simp [cell_new]
  have b4 : w1.cell? ⟨w.heap.size + 1, 4, none⟩ = some (.int .i64 s') := by rw [hc1 _ _ (by simp)]; simp [cell_new]
  have b5 : w1.cell? ⟨w.heap.size + 1, 5, none⟩ = some (.int .i64 d') := by rw [hc1 _ _ (by simp)]; simp [cell_new]
  have b6 : w1.cell? ⟨w.heap.size + 1, 6, none⟩ = some (.int .i64 z') := by rw [hc1 _ _ (by simp)]; simp [cell_new]
  clear hc1 hf1 hb1
  go_wp2_with fail
  refine (same_of HE1.out HS1.out HS2.out _).mono ?_
  rintro e w2 ⟨rfl, hb2⟩
  obtain ⟨hc2, hf2⟩ := bcell hb2
  have HB := hid (HB1.out.trans (hb2.mono HB1.out.size))
  have hz2 : w.heap.size + 1 < w2.heap.size := by have := hb2.size; omega
  have hz3 : w.heap.size < w2.heap.size := by omega
  have a'0 : w2.cell? ⟨w.heap.size, 0, none⟩ = some (.int .i64 bc) := by rw [hc2 _ _ hz0]; exact a0
  have a'1 : w2.cell? ⟨w.heap.size, 1, none⟩ = some (.int .i64 bn) := by rw [hc2 _ _ hz0]; exact a1
  have a'2 : w2.cell? ⟨w.heap.size, 2, none⟩ = some (.int .i64 ic) := by rw [hc2 _ _ hz0]; exact a2
  have a'3 : w2.cell? ⟨w.heap.size, 3, none⟩ = some (.int .i64 ix) := by rw [hc2 _ _ hz0]; exact a3
  have a'4 : w2.cell? ⟨w.heap.size, 4, none⟩ = some (.int .i64 s) := by rw [hc2 _ _ hz0]; exact a4
  have a'5 : w2.cell? ⟨w.heap.size, 5, none⟩ = some (.int .i64 d) := by rw [hc2 _ _ hz0]; exact a5
  have a'6 : w2.cell? ⟨w.heap.size, 6, none⟩ = some (.int .i64 z) := by rw [hc2 _ _ hz0]; exact a6
  have b'0 : w2.cell? ⟨w.heap.size + 1, 0, none⟩ = some (.int .i64 bc') := by rw [hc2 _ _ hz1]; exact b0
  have b'1 : w2.cell? ⟨w.heap.size + 1, 1, none⟩ = some (.int .i64 bn') := by rw [hc2 _ _ hz1]; exact b1
  have b'2 : w2.cell? ⟨w.heap.size + 1, 2, none⟩ = some (.int .i64 ic') := by rw [hc2 _ _ hz1]; exact b2
  have b'3 : w2.cell? ⟨w.heap.size + 1, 3, none⟩ = some (.int .i64 ix') := by rw [hc2 _ _ hz1]; exact b3
  have b'4 : w2.cell? ⟨w.heap.size + 1, 4, none⟩ = some (.int .i64 s') := by rw [hc2 _ _ hz1]; exact b4
  have b'5 : w2.cell? ⟨w.heap.size + 1, 5, none⟩ = some (.int .i64 d') := by rw [hc2 _ _ hz1]; exact b5
  have b'6 : w2.cell? ⟨w.heap.size + 1, 6, none⟩ = some (.int .i64 z') := by rw [hc2 _ _ hz1]; exact b6
  clear hc2 hf2 hb2 hz0 hz1 HB1 a0 b0 a1 b1 a2 b2 a3 b3 a4 b4 a5 b5 a6 b6
  go_wp2_with fail
  have HIW := hid ((HI.out.below HB.out).mono HB.out.size)
  have hS := Old.of (Below.refl w2.heap.size w2)
  go_region_held3 (fun w' => Below w2.heap.size w2 w' ∧ ∀ b o, b < w2.heap.size → w'.cell? ⟨b, o, none⟩ = w2.cell? ⟨b, o, none⟩) (first | assumption | exact old_drew ‹_› | (refine old_kept ?_ (by assumption); assumption)) (first | (go_at_call 12; with_reducible refine (same_of HE2.out HS2.out HS1.out _).mono ?_; rintro e w3 ⟨rfl, hbel⟩) | (go_at_call 12; with_reducible refine (same_of HE3.out HS1.out HS1.out _).mono ?_; rintro e w3 ⟨rfl, hbel⟩) | (go_at_call 10; with_reducible refine (check_of HK.out HS1.out _).mono ?_; rintro e w3 ⟨rfl, hbel⟩))
  have HO : Old w2 w3 := ‹Below w2.heap.size w2 w3 ∧ _›
  have hc1 := HO.cells
  go_wp2_with (first | (go_at_call 16; with_reducible refine (address_of HV1.out HR1.out HS1.out _ (HO.ints HIW.out)).mono ?_; rintro e w1 ⟨rfl, hb1⟩; have HO : Old w2 w1 := HO.kept hb1; have hc1 := HO.cells; clear hb1) | (go_at_call 16; with_reducible refine (address_of HV2.out HR2.out HS2.out _ (HO.ints HIW.out)).mono ?_; rintro e w1 ⟨rfl, hb1⟩; have HO : Old w2 w1 := HO.kept hb1; have hc1 := HO.cells; clear hb1))
  go_returns
  exact ⟨by trivial, HB.out.trans (HO.below.mono HB.out.size)⟩
set_option maxHeartbeats 4000000 in
theorem same_law_T (bc bn ic ix s d z bc' bn' ic' ix' s' : Int) (A : Option Addr) (cap : Nat) (xs : List Int) (next : Int) (w : World) (HS1 : Hid (I64 s)) (HS2 : Hid (I64 s')) (HI : Hid (Ints w w.heap.size A xs)) (HK : Hid (checkF ⟨bc, bn, ic, ix, s, d, z⟩ = 0)) (HE1 : Hid (sameF ⟨bc, bn, ic, ix, s, d, z⟩ ⟨bc', bn', ic', ix', s', d, z⟩ = true)) (HE2 : Hid (sameF ⟨bc', bn', ic', ix', s', d, z⟩ ⟨bc, bn, ic, ix, s, d, z⟩ = true)) (HE3 : Hid (sameF ⟨bc, bn, ic, ix, s, d, z⟩ ⟨bc, bn, ic, ix, s, d, z⟩ = true)) (_el : (xs.length : Int) ≤ 9223372036854775807) (hl : 20 < (xs.length : Int)) :
    Calls Try.prog 7 #[.agg #[.int .i64 bc, .int .i64 bn, .int .i64 ic, .int .i64 ix, .int .i64 s, .int .i64 d, .int .i64 z], .agg #[.int .i64 bc', .int .i64 bn', .int .i64 ic', .int .i64 ix', .int .i64 s', .int .i64 d, .int .i64 z], .slice A xs.length cap, .int .i64 next] w fun e w' => e = .returned (.bool true) ∧ Below w.heap.size w w' := by
  go_enter Try.func7, Try.ntmps7
  go_wp2_with fail
  refine (awake_any _).mono ?_
  rintro e w1 ⟨rfl, hb1⟩
  obtain ⟨hc1, hf1⟩ := bcell hb1
  have HB1 := hid (show Below w.heap.size w w1 from (((Below.refl _ _).alloc (Nat.le_refl _) _).alloc (by simp) _).trans (hb1.mono (by simp; omega)))
  have hz1 : w.heap.size + 1 < w1.heap.size := by have := hb1.size; simp at this; omega
  have hz0 : w.heap.size < w1.heap.size := by omega
  have a0 : w1.cell? ⟨w.heap.size, 0, none⟩ = some (.int .i64 bc) := by rw [hc1 _ _ (by simp; omega)]; simp [cell_alloc_lt, cell_new]
  have a1 : w1.cell? ⟨w.heap.size, 1, none⟩ = some (.int .i64 bn) := by rw [hc1 _ _ (by simp; omega)]; simp [cell_alloc_lt, cell_new]
  have a2 : w1.cell? ⟨w.heap.size, 2, none⟩ = some (.int .i64 ic) := by rw [hc1 _ _ (by simp; omega)]; simp [cell_alloc_lt, cell_new]
  have a3 : w1.cell? ⟨w.heap.size, 3, none⟩ = some (.int .i64 ix) := by rw [hc1 _ _ (by simp; omega)]; simp [cell_alloc_lt, cell_new]
  have a4 : w1.cell? ⟨w.heap.size, 4, none⟩ = some (.int .i64 s) := by rw [hc1 _ _ (by simp; omega)]; simp [cell_alloc_lt, cell_new]
  have a5 : w1.cell? ⟨w.heap.size, 5, none⟩ = some (.int .i64 d) := by rw [hc1 _ _ (by simp; omega)]; simp [cell_alloc_lt, cell_new]
  have a6 : w1.cell? ⟨w.heap.size, 6, none⟩ = some (.int .i64 z) := by rw [hc1 _ _ (by simp; omega)]; simp [cell_alloc_lt, cell_new]
  have b0 : w1.cell? ⟨w.heap.size + 1, 0, none⟩ = some (.int .i64 bc') := by rw [hc1 _ _ (by simp)]; simp [cell_new]
  have b1 : w1.cell? ⟨w.heap.size + 1, 1, none⟩ = some (.int .i64 bn') := by rw [hc1 _ _ (by simp)]; simp [cell_new]
  have b2 : w1.cell? ⟨w.heap.size + 1, 2, none⟩ = some (.int .i64 ic') := by rw [hc1 _ _ (by simp)]; simp [cell_new]
  have b3 : w1.cell? ⟨w.heap.size + 1, 3, none⟩ = some (.int .i64 ix') := by rw [hc1 _ _ (by simp)]; simp [cell_new]
  have b4 : w1.cell? ⟨w.heap.size + 1, 4, none⟩ = some (.int .i64 s') := by rw [hc1 _ _ (by simp)]; simp [cell_new]
  have b5 : w1.cell? ⟨w.heap.size + 1, 5, none⟩ = some (.int .i64 d) := by rw [hc1 _ _ (by simp)]; simp [cell_new]
  have b6 : w1.cell? ⟨w.heap.size + 1, 6, none⟩ = some (.int .i64 z) := by rw [hc1 _ _ (by simp)]; simp [cell_new]
  clear hc1 hf1 hb1
  go_wp2_with fail
  refine (same_of HE1.out HS1.out HS2.out _).mono ?_
  rintro e w2 ⟨rfl, hb2⟩
  obtain ⟨hc2, hf2⟩ := bcell hb2
  have HB := hid (HB1.out.trans (hb2.mono HB1.out.size))
  have hz2 : w.heap.size + 1 < w2.heap.size := by have := hb2.size; omega
  have hz3 : w.heap.size < w2.heap.size := by omega
  have a'0 : w2.cell? ⟨w.heap.size, 0, none⟩ = some (.int .i64 bc) := by rw [hc2 _ _ hz0]; exact a0
  have a'1 : w2.cell? ⟨w.heap.size, 1, none⟩ = some (.int .i64 bn) := by rw [hc2 _ _ hz0]; exact a1
  have a'2 : w2.cell? ⟨w.heap.size, 2, none⟩ = some (.int .i64 ic) := by rw [hc2 _ _ hz0]; exact a2
  have a'3 : w2.cell? ⟨w.heap.size, 3, none⟩ = some (.int .i64 ix) := by rw [hc2 _ _ hz0]; exact a3
  have a'4 : w2.cell? ⟨w.heap.size, 4, none⟩ = some (.int .i64 s) := by rw [hc2 _ _ hz0]; exact a4
  have a'5 : w2.cell? ⟨w.heap.size, 5, none⟩ = some (.int .i64 d) := by rw [hc2 _ _ hz0]; exact a5
  have a'6 : w2.cell? ⟨w.heap.size, 6, none⟩ = some (.int .i64 z) := by rw [hc2 _ _ hz0]; exact a6
  have b'0 : w2.cell? ⟨w.heap.size + 1, 0, none⟩ = some (.int .i64 bc') := by rw [hc2 _ _ hz1]; exact b0
  have b'1 : w2.cell? ⟨w.heap.size + 1, 1, none⟩ = some (.int .i64 bn') := by rw [hc2 _ _ hz1]; exact b1
  have b'2 : w2.cell? ⟨w.heap.size + 1, 2, none⟩ = some (.int .i64 ic') := by rw [hc2 _ _ hz1]; exact b2
  have b'3 : w2.cell? ⟨w.heap.size + 1, 3, none⟩ = some (.int .i64 ix') := by rw [hc2 _ _ hz1]; exact b3
  have b'4 : w2.cell? ⟨w.heap.size + 1, 4, none⟩ = some (.int .i64 s') := by rw [hc2 _ _ hz1]; exact b4
  have b'5 : w2.cell? ⟨w.heap.size + 1, 5, none⟩ = some (.int .i64 d) := by rw [hc2 _ _ hz1]; exact b5
  have b'6 : w2.cell? ⟨w.heap.size + 1, 6, none⟩ = some (.int .i64 z) := by rw [hc2 _ _ hz1]; exact b6
  clear hc2 hf2 hb2 hz0 hz1 HB1 a0 b0 a1 b1 a2 b2 a3 b3 a4 b4 a5 b5 a6 b6
  go_wp2_with fail
  have HIW := hid ((HI.out.below HB.out).mono HB.out.size)
  have hS := Old.of (Below.refl w2.heap.size w2)
  go_region_held3 (fun w' => Below w2.heap.size w2 w' ∧ ∀ b o, b < w2.heap.size → w'.cell? ⟨b, o, none⟩ = w2.cell? ⟨b, o, none⟩) (first | assumption | exact old_drew ‹_› | (refine old_kept ?_ (by assumption); assumption)) (first | (go_at_call 12; with_reducible refine (same_of HE2.out HS2.out HS1.out _).mono ?_; rintro e w3 ⟨rfl, hbel⟩) | (go_at_call 12; with_reducible refine (same_of HE3.out HS1.out HS1.out _).mono ?_; rintro e w3 ⟨rfl, hbel⟩) | (go_at_call 10; with_reducible refine (check_of HK.out HS1.out _).mono ?_; rintro e w3 ⟨rfl, hbel⟩))
  have HO : Old w2 w3 := ‹Below w2.heap.size w2 w3 ∧ _›
  have hc1 := HO.cells
  go_wp2_with fail
  go_region_held3 (fun w' => Below w2.heap.size w2 w' ∧ ∀ b o, b < w2.heap.size → w'.cell? ⟨b, o, none⟩ = w2.cell? ⟨b, o, none⟩) (first | assumption | exact old_drew ‹_› | (refine old_kept ?_ (by assumption); assumption)) (first | (go_at_call 12; with_reducible refine (same_of HE2.out HS2.out HS1.out _).mono ?_; rintro e w3 ⟨rfl, hbel⟩) | (go_at_call 12; with_reducible refine (same_of HE3.out HS1.out HS1.out _).mono ?_; rintro e w3 ⟨rfl, hbel⟩) | (go_at_call 10; with_reducible refine (check_of HK.out HS1.out _).mono ?_; rintro e w3 ⟨rfl, hbel⟩))
  have hk := (‹Below w2.heap.size w2 w3 ∧ _›).1
  go_wp2
  go_ret
  exact ⟨rfl, HB.out.trans (hk.mono HB.out.size)⟩
set_option maxHeartbeats 4000000 in
theorem same_law_U (bc bn ic ix s d z bc' bn' ic' ix' s' d' z' : Int) (A : Option Addr) (cap : Nat) (xs : List Int) (next : Int) (w : World) (HS1 : Hid (I64 s)) (HS2 : Hid (I64 s')) (HI : Hid (Ints w w.heap.size A xs)) (HK : Hid (checkF ⟨bc, bn, ic, ix, s, d, z⟩ = 0)) (HE1 : Hid (sameF ⟨bc, bn, ic, ix, s, d, z⟩ ⟨bc', bn', ic', ix', s', d', z'⟩ = false)) (HE2 : Hid (sameF ⟨bc', bn', ic', ix', s', d', z'⟩ ⟨bc, bn, ic, ix, s, d, z⟩ = false)) (HE3 : Hid (sameF ⟨bc, bn, ic, ix, s, d, z⟩ ⟨bc, bn, ic, ix, s, d, z⟩ = true)) (_el : (xs.length : Int) ≤ 9223372036854775807) (hl : 20 < (xs.length : Int)) :
    Calls Try.prog 7 #[.agg #[.int .i64 bc, .int .i64 bn, .int .i64 ic, .int .i64 ix, .int .i64 s, .int .i64 d, .int .i64 z], .agg #[.int .i64 bc', .int .i64 bn', .int .i64 ic', .int .i64 ix', .int .i64 s', .int .i64 d', .int .i64 z'], .slice A xs.length cap, .int .i64 next] w fun e w' => e = .returned (.bool true) ∧ Below w.heap.size w w' := by
  go_enter Try.func7, Try.ntmps7
  go_wp2_with fail
  refine (awake_any _).mono ?_
  rintro e w1 ⟨rfl, hb1⟩
  obtain ⟨hc1, hf1⟩ := bcell hb1
  have HB1 := hid (show Below w.heap.size w w1 from (((Below.refl _ _).alloc (Nat.le_refl _) _).alloc (by simp) _).trans (hb1.mono (by simp; omega)))
  have hz1 : w.heap.size + 1 < w1.heap.size := by have := hb1.size; simp at this; omega
  have hz0 : w.heap.size < w1.heap.size := by omega
  have a0 : w1.cell? ⟨w.heap.size, 0, none⟩ = some (.int .i64 bc) := by rw [hc1 _ _ (by simp; omega)]; simp [cell_alloc_lt, cell_new]
  have a1 : w1.cell? ⟨w.heap.size, 1, none⟩ = some (.int .i64 bn) := by rw [hc1 _ _ (by simp; omega)]; simp [cell_alloc_lt, cell_new]
  have a2 : w1.cell? ⟨w.heap.size, 2, none⟩ = some (.int .i64 ic) := by rw [hc1 _ _ (by simp; omega)]; simp [cell_alloc_lt, cell_new]
  have a3 : w1.cell? ⟨w.heap.size, 3, none⟩ = some (.int .i64 ix) := by rw [hc1 _ _ (by simp; omega)]; simp [cell_alloc_lt, cell_new]
  have a4 : w1.cell? ⟨w.heap.size, 4, none⟩ = some (.int .i64 s) := by rw [hc1 _ _ (by simp; omega)]; simp [cell_alloc_lt, cell_new]
  have a5 : w1.cell? ⟨w.heap.size, 5, none⟩ = some (.int .i64 d) := by rw [hc1 _ _ (by simp; omega)]; simp [cell_alloc_lt, cell_new]
  have a6 : w1.cell? ⟨w.heap.size, 6, none⟩ = some (.int .i64 z) := by rw [hc1 _ _ (by simp; omega)]; simp [cell_alloc_lt, cell_new]
  have b0 : w1.cell? ⟨w.heap.size + 1, 0, none⟩ = some (.int .i64 bc') := by rw [hc1 _ _ (by simp)]; simp [cell_new]
  have b1 : w1.cell? ⟨w.heap.size + 1, 1, none⟩ = some (.int .i64 bn') := by rw [hc1 _ _ (by simp)]; simp [cell_new]
  have b2 : w1.cell? ⟨w.heap.size + 1, 2, none⟩ = some (.int .i64 ic') := by rw [hc1 _ _ (by simp)]; simp [cell_new]
  have b3 : w1.cell? ⟨w.heap.size + 1, 3, none⟩ = some (.int .i64 ix') := by rw [hc1 _ _ (by simp)]; simp [cell_new]
  have b4 : w1.cell? ⟨w.heap.size + 1, 4, none⟩ = some (.int .i64 s') := by rw [hc1 _ _ (by simp)]; simp [cell_new]
  have b5 : w1.cell? ⟨w.heap.size + 1, 5, none⟩ = some (.int .i64 d') := by rw [hc1 _ _ (by simp)]; simp [cell_new]
  have b6 : w1.cell? ⟨w.heap.size + 1, 6, none⟩ = some (.int .i64 z') := by rw [hc1 _ _ (by simp)]; simp [cell_new]
  clear hc1 hf1 hb1
  go_wp2_with fail
  refine (same_of HE1.out HS1.out HS2.out _).mono ?_
  rintro e w2 ⟨rfl, hb2⟩
  obtain ⟨hc2, hf2⟩ := bcell hb2
  have HB := hid (HB1.out.trans (hb2.mono HB1.out.size))
  have hz2 : w.heap.size + 1 < w2.heap.size := by have := hb2.size; omega
  have hz3 : w.heap.size < w2.heap.size := by omega
  have a'0 : w2.cell? ⟨w.heap.size, 0, none⟩ = some (.int .i64 bc) := by rw [hc2 _ _ hz0]; exact a0
  have a'1 : w2.cell? ⟨w.heap.size, 1, none⟩ = some (.int .i64 bn) := by rw [hc2 _ _ hz0]; exact a1
  have a'2 : w2.cell? ⟨w.heap.size, 2, none⟩ = some (.int .i64 ic) := by rw [hc2 _ _ hz0]; exact a2
  have a'3 : w2.cell? ⟨w.heap.size, 3, none⟩ = some (.int .i64 ix) := by rw [hc2 _ _ hz0]; exact a3
  have a'4 : w2.cell? ⟨w.heap.size, 4, none⟩ = some (.int .i64 s) := by rw [hc2 _ _ hz0]; exact a4
  have a'5 : w2.cell? ⟨w.heap.size, 5, none⟩ = some (.int .i64 d) := by rw [hc2 _ _ hz0]; exact a5
  have a'6 : w2.cell? ⟨w.heap.size, 6, none⟩ = some (.int .i64 z) := by rw [hc2 _ _ hz0]; exact a6
  have b'0 : w2.cell? ⟨w.heap.size + 1, 0, none⟩ = some (.int .i64 bc') := by rw [hc2 _ _ hz1]; exact b0
  have b'1 : w2.cell? ⟨w.heap.size + 1, 1, none⟩ = some (.int .i64 bn') := by rw [hc2 _ _ hz1]; exact b1
  have b'2 : w2.cell? ⟨w.heap.size + 1, 2, none⟩ = some (.int .i64 ic') := by rw [hc2 _ _ hz1]; exact b2
  have b'3 : w2.cell? ⟨w.heap.size + 1, 3, none⟩ = some (.int .i64 ix') := by rw [hc2 _ _ hz1]; exact b3
  have b'4 : w2.cell? ⟨w.heap.size + 1, 4, none⟩ = some (.int .i64 s') := by rw [hc2 _ _ hz1]; exact b4
  have b'5 : w2.cell? ⟨w.heap.size + 1, 5, none⟩ = some (.int .i64 d') := by rw [hc2 _ _ hz1]; exact b5
  have b'6 : w2.cell? ⟨w.heap.size + 1, 6, none⟩ = some (.int .i64 z') := by rw [hc2 _ _ hz1]; exact b6
  clear hc2 hf2 hb2 hz0 hz1 HB1 a0 b0 a1 b1 a2 b2 a3 b3 a4 b4 a5 b5 a6 b6
  go_wp2_with fail
  have HIW := hid ((HI.out.below HB.out).mono HB.out.size)
  have hS := Old.of (Below.refl w2.heap.size w2)
  go_region_held3 (fun w' => Below w2.heap.size w2 w' ∧ ∀ b o, b < w2.heap.size → w'.cell? ⟨b, o, none⟩ = w2.cell? ⟨b, o, none⟩) (first | assumption | exact old_drew ‹_› | (refine old_kept ?_ (by assumption); assumption)) (first | (go_at_call 12; with_reducible refine (same_of HE2.out HS2.out HS1.out _).mono ?_; rintro e w3 ⟨rfl, hbel⟩) | (go_at_call 12; with_reducible refine (same_of HE3.out HS1.out HS1.out _).mono ?_; rintro e w3 ⟨rfl, hbel⟩) | (go_at_call 10; with_reducible refine (check_of HK.out HS1.out _).mono ?_; rintro e w3 ⟨rfl, hbel⟩))
  have HO : Old w2 w3 := ‹Below w2.heap.size w2 w3 ∧ _›
  have hc1 := HO.cells
  go_wp2_with fail
  go_region_held3 (fun w' => Below w2.heap.size w2 w' ∧ ∀ b o, b < w2.heap.size → w'.cell? ⟨b, o, none⟩ = w2.cell? ⟨b, o, none⟩) (first | assumption | exact old_drew ‹_› | (refine old_kept ?_ (by assumption); assumption)) (first | (go_at_call 12; with_reducible refine (same_of HE2.out HS2.out HS1.out _).mono ?_; rintro e w3 ⟨rfl, hbel⟩) | (go_at_call 12; with_reducible refine (same_of HE3.out HS1.out HS1.out _).mono ?_; rintro e w3 ⟨rfl, hbel⟩) | (go_at_call 10; with_reducible refine (check_of HK.out HS1.out _).mono ?_; rintro e w3 ⟨rfl, hbel⟩))
  have hk := (‹Below w2.heap.size w2 w3 ∧ _›).1
  go_wp2
  go_ret
  exact ⟨rfl, HB.out.trans (hk.mono HB.out.size)⟩
set_option maxHeartbeats 4000000 in
theorem same_law_V (bc bn ic ix s d z bc' bn' ic' ix' s' d' z' : Int) (A : Option Addr) (cap : Nat) (xs : List Int) (next : Int) (w : World) (HS1 : Hid (I64 s)) (HS2 : Hid (I64 s')) (HI : Hid (Ints w w.heap.size A xs)) (k : Int) (h0 : ¬ k = 0) (HK : Hid (checkF ⟨bc, bn, ic, ix, s, d, z⟩ = k)) (HE1 : Hid (sameF ⟨bc, bn, ic, ix, s, d, z⟩ ⟨bc', bn', ic', ix', s', d', z'⟩ = false)) (HE2 : Hid (sameF ⟨bc', bn', ic', ix', s', d', z'⟩ ⟨bc, bn, ic, ix, s, d, z⟩ = false)) (HE3 : Hid (sameF ⟨bc, bn, ic, ix, s, d, z⟩ ⟨bc, bn, ic, ix, s, d, z⟩ = false)) (_el : (xs.length : Int) ≤ 9223372036854775807) (hl : 20 < (xs.length : Int)) :
    Calls Try.prog 7 #[.agg #[.int .i64 bc, .int .i64 bn, .int .i64 ic, .int .i64 ix, .int .i64 s, .int .i64 d, .int .i64 z], .agg #[.int .i64 bc', .int .i64 bn', .int .i64 ic', .int .i64 ix', .int .i64 s', .int .i64 d', .int .i64 z'], .slice A xs.length cap, .int .i64 next] w fun e w' => e = .returned (.bool true) ∧ Below w.heap.size w w' := by
  have k1 : (k == 0) = false := by simp [h0]
  have k2 : decide (k = 0) = false := by simp [h0]
  go_enter Try.func7, Try.ntmps7
  go_wp2_with fail
  refine (awake_any _).mono ?_
  rintro e w1 ⟨rfl, hb1⟩
  obtain ⟨hc1, hf1⟩ := bcell hb1
  have HB1 := hid (show Below w.heap.size w w1 from (((Below.refl _ _).alloc (Nat.le_refl _) _).alloc (by simp) _).trans (hb1.mono (by simp; omega)))
  have hz1 : w.heap.size + 1 < w1.heap.size := by have := hb1.size; simp at this; omega
  have hz0 : w.heap.size < w1.heap.size := by omega
  have a0 : w1.cell? ⟨w.heap.size, 0, none⟩ = some (.int .i64 bc) := by rw [hc1 _ _ (by simp; omega)]; simp [cell_alloc_lt, cell_new]
  have a1 : w1.cell? ⟨w.heap.size, 1, none⟩ = some (.int .i64 bn) := by rw [hc1 _ _ (by simp; omega)]; simp [cell_alloc_lt, cell_new]
  have a2 : w1.cell? ⟨w.heap.size, 2, none⟩ = some (.int .i64 ic) := by rw [hc1 _ _ (by simp; omega)]; simp [cell_alloc_lt, cell_new]
  have a3 : w1.cell? ⟨w.heap.size, 3, none⟩ = some (.int .i64 ix) := by rw [hc1 _ _ (by simp; omega)]; simp [cell_alloc_lt, cell_new]
  have a4 : w1.cell? ⟨w.heap.size, 4, none⟩ = some (.int .i64 s) := by rw [hc1 _ _ (by simp; omega)]; simp [cell_alloc_lt, cell_new]
  have a5 : w1.cell? ⟨w.heap.size, 5, none⟩ = some (.int .i64 d) := by rw [hc1 _ _ (by simp; omega)]; simp [cell_alloc_lt, cell_new]
  have a6 : w1.cell? ⟨w.heap.size, 6, none⟩ = some (.int .i64 z) := by rw [hc1 _ _ (by simp; omega)]; simp [cell_alloc_lt, cell_new]
  have b0 : w1.cell? ⟨w.heap.size + 1, 0, none⟩ = some (.int .i64 bc') := by rw [hc1 _ _ (by simp)]; simp [cell_new]
  have b1 : w1.cell? ⟨w.heap.size + 1, 1, none⟩ = some (.int .i64 bn') := by rw [hc1 _ _ (by simp)]; simp [cell_new]
  have b2 : w1.cell? ⟨w.heap.size + 1, 2, none⟩ = some (.int .i64 ic') := by rw [hc1 _ _ (by simp)]; simp [cell_new]
  have b3 : w1.cell? ⟨w.heap.size + 1, 3, none⟩ = some (.int .i64 ix') := by rw [hc1 _ _ (by simp)]; simp [cell_new]
  have b4 : w1.cell? ⟨w.heap.size + 1, 4, none⟩ = some (.int .i64 s') := by rw [hc1 _ _ (by simp)]; simp [cell_new]
  have b5 : w1.cell? ⟨w.heap.size + 1, 5, none⟩ = some (.int .i64 d') := by rw [hc1 _ _ (by simp)]; simp [cell_new]
  have b6 : w1.cell? ⟨w.heap.size + 1, 6, none⟩ = some (.int .i64 z') := by rw [hc1 _ _ (by simp)]; simp [cell_new]
  clear hc1 hf1 hb1
  go_wp2_with fail
  refine (same_of HE1.out HS1.out HS2.out _).mono ?_
  rintro e w2 ⟨rfl, hb2⟩
  obtain ⟨hc2, hf2⟩ := bcell hb2
  have HB := hid (HB1.out.trans (hb2.mono HB1.out.size))
  have hz2 : w.heap.size + 1 < w2.heap.size := by have := hb2.size; omega
  have hz3 : w.heap.size < w2.heap.size := by omega
  have a'0 : w2.cell? ⟨w.heap.size, 0, none⟩ = some (.int .i64 bc) := by rw [hc2 _ _ hz0]; exact a0
  have a'1 : w2.cell? ⟨w.heap.size, 1, none⟩ = some (.int .i64 bn) := by rw [hc2 _ _ hz0]; exact a1
  have a'2 : w2.cell? ⟨w.heap.size, 2, none⟩ = some (.int .i64 ic) := by rw [hc2 _ _ hz0]; exact a2
  have a'3 : w2.cell? ⟨w.heap.size, 3, none⟩ = some (.int .i64 ix) := by rw [hc2 _ _ hz0]; exact a3
  have a'4 : w2.cell? ⟨w.heap.size, 4, none⟩ = some (.int .i64 s) := by rw [hc2 _ _ hz0]; exact a4
  have a'5 : w2.cell? ⟨w.heap.size, 5, none⟩ = some (.int .i64 d) := by rw [hc2 _ _ hz0]; exact a5
  have a'6 : w2.cell? ⟨w.heap.size, 6, none⟩ = some (.int .i64 z) := by rw [hc2 _ _ hz0]; exact a6
  have b'0 : w2.cell? ⟨w.heap.size + 1, 0, none⟩ = some (.int .i64 bc') := by rw [hc2 _ _ hz1]; exact b0
  have b'1 : w2.cell? ⟨w.heap.size + 1, 1, none⟩ = some (.int .i64 bn') := by rw [hc2 _ _ hz1]; exact b1
  have b'2 : w2.cell? ⟨w.heap.size + 1, 2, none⟩ = some (.int .i64 ic') := by rw [hc2 _ _ hz1]; exact b2
  have b'3 : w2.cell? ⟨w.heap.size + 1, 3, none⟩ = some (.int .i64 ix') := by rw [hc2 _ _ hz1]; exact b3
  have b'4 : w2.cell? ⟨w.heap.size + 1, 4, none⟩ = some (.int .i64 s') := by rw [hc2 _ _ hz1]; exact b4
  have b'5 : w2.cell? ⟨w.heap.size + 1, 5, none⟩ = some (.int .i64 d') := by rw [hc2 _ _ hz1]; exact b5
  have b'6 : w2.cell? ⟨w.heap.size + 1, 6, none⟩ = some (.int .i64 z') := by rw [hc2 _ _ hz1]; exact b6
  clear hc2 hf2 hb2 hz0 hz1 HB1 a0 b0 a1 b1 a2 b2 a3 b3 a4 b4 a5 b5 a6 b6
  go_wp2_with fail
  have HIW := hid ((HI.out.below HB.out).mono HB.out.size)
  have hS := Old.of (Below.refl w2.heap.size w2)
  go_region_held3 (fun w' => Below w2.heap.size w2 w' ∧ ∀ b o, b < w2.heap.size → w'.cell? ⟨b, o, none⟩ = w2.cell? ⟨b, o, none⟩) (first | assumption | exact old_drew ‹_› | (refine old_kept ?_ (by assumption); assumption)) (first | (go_at_call 12; with_reducible refine (same_of HE2.out HS2.out HS1.out _).mono ?_; rintro e w3 ⟨rfl, hbel⟩) | (go_at_call 12; with_reducible refine (same_of HE3.out HS1.out HS1.out _).mono ?_; rintro e w3 ⟨rfl, hbel⟩) | (go_at_call 10; with_reducible refine (check_of HK.out HS1.out _).mono ?_; rintro e w3 ⟨rfl, hbel⟩))
  have HO : Old w2 w3 := ‹Below w2.heap.size w2 w3 ∧ _›
  have hc1 := HO.cells
  go_wp2_with fail
  go_region_held3 (fun w' => Below w2.heap.size w2 w' ∧ ∀ b o, b < w2.heap.size → w'.cell? ⟨b, o, none⟩ = w2.cell? ⟨b, o, none⟩) (first | assumption | exact old_drew ‹_› | (refine old_kept ?_ (by assumption); assumption)) (first | (go_at_call 12; with_reducible refine (same_of HE2.out HS2.out HS1.out _).mono ?_; rintro e w3 ⟨rfl, hbel⟩) | (go_at_call 12; with_reducible refine (same_of HE3.out HS1.out HS1.out _).mono ?_; rintro e w3 ⟨rfl, hbel⟩) | (go_at_call 10; with_reducible refine (check_of HK.out HS1.out _).mono ?_; rintro e w3 ⟨rfl, hbel⟩))
  have hk := (‹Below w2.heap.size w2 w3 ∧ _›).1
  go_wp2
  go_ret
  exact ⟨rfl, HB.out.trans (hk.mono HB.out.size)⟩
theorem same_law (bc bn ic ix s d z bc' bn' ic' ix' s' d' z' : Int) (A : Option Addr) (cap : Nat) (xs : List Int) (next : Int) (w : World) (hs : I64 s) (hs' : I64 s') (hI : Ints w w.heap.size A xs) (hlc : xs.length ≤ cap) (hcap : cap ≤ 9223372036854775807) (_hn : I64 next) :
    Calls Try.prog 7 #[.agg #[.int .i64 bc, .int .i64 bn, .int .i64 ic, .int .i64 ix, .int .i64 s, .int .i64 d, .int .i64 z], .agg #[.int .i64 bc', .int .i64 bn', .int .i64 ic', .int .i64 ix', .int .i64 s', .int .i64 d', .int .i64 z'], .slice A xs.length cap, .int .i64 next] w fun e w' => e = .returned (.bool true) ∧ Below w.heap.size w w' := by
  have h2 := sameF_comm ⟨bc, bn, ic, ix, s, d, z⟩ ⟨bc', bn', ic', ix', s', d', z'⟩
  have h3 := sameF_self ⟨bc, bn, ic, ix, s, d, z⟩
  cases hv : sameF ⟨bc, bn, ic, ix, s, d, z⟩ ⟨bc', bn', ic', ix', s', d', z'⟩
  · rw [hv] at h2
    by_cases hk : checkF ⟨bc, bn, ic, ix, s, d, z⟩ = 0
    · rw [hk] at h3
      by_cases hl : xs.length ≤ 20
      · exact same_law_u _ _ _ _ _ _ _ _ _ _ _ _ _ _ A cap xs next w (hid hs) (hid hs') (hid hI) (hid hk) (hid hv) (hid h2.symm) (hid h3) (by omega) _ _ _ _ (hid rfl) (hid rfl) (hid rfl) (hid rfl)
      · exact same_law_U _ _ _ _ _ _ _ _ _ _ _ _ _ _ A cap xs next w (hid hs) (hid hs') (hid hI) (hid hk) (hid hv) (hid h2.symm) (hid h3) (by omega) (by omega)
    · have h3' := h3.trans (show (checkF ⟨bc, bn, ic, ix, s, d, z⟩ == 0) = false by simp [hk])
      by_cases hl : xs.length ≤ 20
      · exact same_law_v _ _ _ _ _ _ _ _ _ _ _ _ _ _ A cap xs next w (hid hs) (hid hs') (hid hI) _ hk (hid rfl) (hid hv) (hid h2.symm) (hid h3') (by omega) _ _ _ _ (hid rfl) (hid rfl) (hid rfl) (hid rfl)
      · exact same_law_V _ _ _ _ _ _ _ _ _ _ _ _ _ _ A cap xs next w (hid hs) (hid hs') (hid hI) _ hk (hid rfl) (hid hv) (hid h2.symm) (hid h3') (by omega) (by omega)
  · rw [hv] at h2
    obtain ⟨hk, hk2, _⟩ := same_ok hv
    obtain ⟨f1, f2, f3, f4⟩ := same_facts hv
    rw [hk] at h3
    simp only [] at f3 f4
    subst f3 f4
    by_cases hl : xs.length ≤ 20
    · exact same_law_t _ _ _ _ _ _ _ _ _ _ _ _ A cap xs next w (hid hs) (hid hs') (hid hI) (hid hk) (hid hv) (hid h2.symm) (hid h3) (by omega) _ _ (hid hk2) (hid rfl) (hid (f1 xs next).symm) (hid rfl) (hid (f2 xs.length).symm)
    · exact same_law_T _ _ _ _ _ _ _ _ _ _ _ _ A cap xs next w (hid hs) (hid hs') (hid hI) (hid hk) (hid hv) (hid h2.symm) (hid h3) (by omega) (by omega)
end Go.Proofs.Ytdononofdnclfaa
