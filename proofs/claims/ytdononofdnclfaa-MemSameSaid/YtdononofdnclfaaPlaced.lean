/-
  What the statements on places share: r, rip, canon, awake.
-/
import Derived.Test.YtdononofdnclfaaSame
namespace Go.Proofs.Ytdononofdnclfaa
open Go.RowKit

theorem r_any (n : Int) (w : World) :
    Calls Try.prog 20 #[.int .i64 n] w fun e w' => e = .returned (.agg #[.int .i64 5, .int .i64 n]) ∧ Below w.heap.size w w' := by
  go_enter Try.func20, Try.ntmps20
  go_wp2
  refine bodyPost_ret (v := .agg #[.int .i64 5, .int .i64 n]) (by simp [results, Try.results20, go_sem]) rfl ⟨rfl, ?_⟩
  go_grown
set_option maxHeartbeats 1000000 in
theorem lcanon_any (bc bn ic ix s d z bc' bn' ic' ix' s' d' z' : Int) (hs : I64 s) (w : World) :
    Calls Try.prog 19 #[.agg #[.int .i64 bc, .int .i64 bn, .int .i64 ic, .int .i64 ix, .int .i64 s, .int .i64 d, .int .i64 z], .agg #[.int .i64 bc', .int .i64 bn', .int .i64 ic', .int .i64 ix', .int .i64 s', .int .i64 d', .int .i64 z']] w fun e w' => e = .returned (.bool (checkF ⟨bc, bn, ic, ix, s, d, z⟩ == 0 && eqP (outF ⟨bc, bn, ic, ix, s, d, z⟩) ⟨bc', bn', ic', ix', s', d', z'⟩)) ∧ Below w.heap.size w w' := by
  obtain ⟨⟨x0, x1, x2, x3, x4, x5, x6⟩, hx⟩ : ∃ x, outF ⟨bc, bn, ic, ix, s, d, z⟩ = x := ⟨_, rfl⟩
  obtain ⟨k, hk⟩ : ∃ k, checkF ⟨bc, bn, ic, ix, s, d, z⟩ = k := ⟨_, rfl⟩
  have HS := hid hs
  have HX := hid hx
  have HK := hid hk
  rw [hx, hk]
  clear hx hk hs
  by_cases h1 : k = 0
  all_goals
    go_enter Try.func19, Try.ntmps19
    go_wp2_with fail
    refine (canon_of HX.out HK.out HS.out _).mono ?_
    rintro e w1 ⟨rfl, hb1⟩
    obtain ⟨hc1, hf1⟩ := bcell hb1
    have HB1 := hid (show Below w.heap.size w w1 from (((Below.refl _ _).alloc (Nat.le_refl _) _).alloc (by simp) _).trans (hb1.mono (by simp; omega)))
    have hz1 : w.heap.size + 1 < w1.heap.size := by have := hb1.size; simp at this; omega
    have b0 : w1.cell? ⟨w.heap.size + 1, 0, none⟩ = some (.int .i64 bc') := by rw [hc1 _ _ (by simp)]; simp [cell_new]
    have b1 : w1.cell? ⟨w.heap.size + 1, 1, none⟩ = some (.int .i64 bn') := by rw [hc1 _ _ (by simp)]; simp [cell_new]
    have b2 : w1.cell? ⟨w.heap.size + 1, 2, none⟩ = some (.int .i64 ic') := by rw [hc1 _ _ (by simp)]; simp [cell_new]
    have b3 : w1.cell? ⟨w.heap.size + 1, 3, none⟩ = some (.int .i64 ix') := by rw [hc1 _ _ (by simp)]; simp [cell_new]
    have b4 : w1.cell? ⟨w.heap.size + 1, 4, none⟩ = some (.int .i64 s') := by rw [hc1 _ _ (by simp)]; simp [cell_new]
    have b5 : w1.cell? ⟨w.heap.size + 1, 5, none⟩ = some (.int .i64 d') := by rw [hc1 _ _ (by simp)]; simp [cell_new]
    have b6 : w1.cell? ⟨w.heap.size + 1, 6, none⟩ = some (.int .i64 z') := by rw [hc1 _ _ (by simp)]; simp [cell_new]
    clear hc1 hf1 hb1
    go_wp2_with fail
    all_goals
      go_returns
      exact ⟨by simp_all [eqP], HB1.out.alloc HB1.out.size _⟩
theorem lcanon_of {bc bn ic ix s d z bc' bn' ic' ix' s' d' z' : Int} {v : Bool} (h : (checkF ⟨bc, bn, ic, ix, s, d, z⟩ == 0 && eqP (outF ⟨bc, bn, ic, ix, s, d, z⟩) ⟨bc', bn', ic', ix', s', d', z'⟩) = v) (hs : I64 s) (w : World) :
    Calls Try.prog 19 #[.agg #[.int .i64 bc, .int .i64 bn, .int .i64 ic, .int .i64 ix, .int .i64 s, .int .i64 d, .int .i64 z], .agg #[.int .i64 bc', .int .i64 bn', .int .i64 ic', .int .i64 ix', .int .i64 s', .int .i64 d', .int .i64 z']] w fun e w' => e = .returned (.bool v) ∧ Below w.heap.size w w' := by
  have := lcanon_any bc bn ic ix s d z bc' bn' ic' ix' s' d' z' hs w
  rw [h] at this
  exact this
set_option maxHeartbeats 1000000 in
theorem awake_any (w : World) : Calls Try.prog 14 #[] w fun e w' => e = .returned (.bool true) ∧ Below w.heap.size w w' := by
  go_enter Try.func14, Try.ntmps14
  go_wp2_with (first | (go_at_call 20; refine (r_any _ _).mono ?_; rintro e w1 ⟨rfl, hb1⟩; obtain ⟨hc1, hf1⟩ := bcell hb1; have HB := hid (show Below w.heap.size w w1 by first | exact HB.out.trans (hb1.mono HB.out.size) | exact hb1 | exact ((Below.refl _ _).alloc (Nat.le_refl _) _).trans (hb1.mono (by simp)) | (refine Below.trans ?_ (hb1.mono (by simp; try omega)); go_grown))) | (go_at_call 19; with_reducible refine (lcanon_of (bc := 0) (bn := 0) (ic := 5) (ix := 3) (s := 1) (d := 5) (z := 0) (bc' := 5) (bn' := 3) (ic' := 0) (ix' := 0) (s' := 0) (d' := 5) (z' := 0) (v := true) (by decide +kernel) (by unfold I64; omega) _).mono ?_; rintro e w1 ⟨rfl, hb1⟩; obtain ⟨hc1, hf1⟩ := bcell hb1; have HB := hid (show Below w.heap.size w w1 by first | exact HB.out.trans (hb1.mono HB.out.size) | exact hb1 | exact ((Below.refl _ _).alloc (Nat.le_refl _) _).trans (hb1.mono (by simp)) | (refine Below.trans ?_ (hb1.mono (by simp; try omega)); go_grown))) | (go_at_call 19; with_reducible refine (lcanon_of (bc := 0) (bn := 0) (ic := 5) (ix := 3) (s := 2) (d := 0) (z := 0) (bc' := 0) (bn' := 0) (ic' := 5) (ix' := 3) (s' := 2) (d' := 0) (z' := 0) (v := true) (by decide +kernel) (by unfold I64; omega) _).mono ?_; rintro e w1 ⟨rfl, hb1⟩; obtain ⟨hc1, hf1⟩ := bcell hb1; have HB := hid (show Below w.heap.size w w1 by first | exact HB.out.trans (hb1.mono HB.out.size) | exact hb1 | exact ((Below.refl _ _).alloc (Nat.le_refl _) _).trans (hb1.mono (by simp)) | (refine Below.trans ?_ (hb1.mono (by simp; try omega)); go_grown))) | (go_at_call 10; with_reducible refine (check_of (bc := 0) (bn := 0) (ic := 5) (ix := 4) (s := 2) (d := 0) (z := 0) (k := 2) (by decide +kernel) (by unfold I64; omega) _).mono ?_; rintro e w1 ⟨rfl, hb1⟩; obtain ⟨hc1, hf1⟩ := bcell hb1; have HB := hid (show Below w.heap.size w w1 by first | exact HB.out.trans (hb1.mono HB.out.size) | exact hb1 | exact ((Below.refl _ _).alloc (Nat.le_refl _) _).trans (hb1.mono (by simp)) | (refine Below.trans ?_ (hb1.mono (by simp; try omega)); go_grown))))
  go_returns
  exact ⟨by trivial, HB.out⟩
end Go.Proofs.Ytdononofdnclfaa
