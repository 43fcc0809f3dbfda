/-
  The names of conditions: the document's list of slices, made anew for each call.
-/
import Derived.Test.YtinbgkflbphknaaDoorCondList
import Derived.Deep.DeepCutAuto
namespace Go.Proofs.YtinbgkflbphknaaDoor
open Go.RowKit

/-- The document's list stands in memory. -/
def LB (w : World) (s : Value) (wx : World) : Prop := ∃ g, s = SL g 16 ∧ (∀ k : Nat, k < 16 → ∃ h, wx.cell? ⟨g, k, none⟩ = some (SL h (NB k).length) ∧ w.heap.size ≤ h ∧ Row h (NB k) wx) ∧ Below w.heap.size w wx
def LC (w wx : World) : Prop := wx.cell? ⟨(w.heap.size), 0, none⟩ = some (.string ((NB 0)[0]?.getD ByteArray.empty)) ∧ wx.cell? ⟨(w.heap.size + 1), 0, none⟩ = some (.string ((NB 1)[0]?.getD ByteArray.empty)) ∧ wx.cell? ⟨(w.heap.size + 1 + 1), 0, none⟩ = some (.string ((NB 2)[0]?.getD ByteArray.empty)) ∧ wx.cell? ⟨(w.heap.size + 1 + 1), 1, none⟩ = some (.string ((NB 2)[1]?.getD ByteArray.empty)) ∧ wx.cell? ⟨(w.heap.size + 1 + 1), 2, none⟩ = some (.string ((NB 2)[2]?.getD ByteArray.empty)) ∧ wx.cell? ⟨(w.heap.size + 1 + 1 + 1), 0, none⟩ = some (.string ((NB 3)[0]?.getD ByteArray.empty)) ∧ wx.cell? ⟨(w.heap.size + 1 + 1 + 1), 1, none⟩ = some (.string ((NB 3)[1]?.getD ByteArray.empty)) ∧ wx.cell? ⟨(w.heap.size + 1 + 1 + 1), 2, none⟩ = some (.string ((NB 3)[2]?.getD ByteArray.empty)) ∧ wx.cell? ⟨(w.heap.size + 1 + 1 + 1 + 1), 0, none⟩ = some (.string ((NB 4)[0]?.getD ByteArray.empty)) ∧ wx.cell? ⟨(w.heap.size + 1 + 1 + 1 + 1), 1, none⟩ = some (.string ((NB 4)[1]?.getD ByteArray.empty)) ∧ wx.cell? ⟨(w.heap.size + 1 + 1 + 1 + 1 + 1), 0, none⟩ = some (.string ((NB 5)[0]?.getD ByteArray.empty)) ∧ wx.cell? ⟨(w.heap.size + 1 + 1 + 1 + 1 + 1), 1, none⟩ = some (.string ((NB 5)[1]?.getD ByteArray.empty)) ∧ wx.cell? ⟨(w.heap.size + 1 + 1 + 1 + 1 + 1 + 1), 0, none⟩ = some (.string ((NB 6)[0]?.getD ByteArray.empty)) ∧ wx.cell? ⟨(w.heap.size + 1 + 1 + 1 + 1 + 1 + 1), 1, none⟩ = some (.string ((NB 6)[1]?.getD ByteArray.empty)) ∧ wx.cell? ⟨(w.heap.size + 1 + 1 + 1 + 1 + 1 + 1 + 1), 0, none⟩ = some (.string ((NB 7)[0]?.getD ByteArray.empty)) ∧ wx.cell? ⟨(w.heap.size + 1 + 1 + 1 + 1 + 1 + 1 + 1), 1, none⟩ = some (.string ((NB 7)[1]?.getD ByteArray.empty)) ∧ wx.cell? ⟨(w.heap.size + 1 + 1 + 1 + 1 + 1 + 1 + 1 + 1), 0, none⟩ = some (.string ((NB 8)[0]?.getD ByteArray.empty)) ∧ wx.cell? ⟨(w.heap.size + 1 + 1 + 1 + 1 + 1 + 1 + 1 + 1 + 1), 0, none⟩ = some (.string ((NB 9)[0]?.getD ByteArray.empty)) ∧ wx.cell? ⟨(w.heap.size + 1 + 1 + 1 + 1 + 1 + 1 + 1 + 1 + 1 + 1), 0, none⟩ = some (.string ((NB 10)[0]?.getD ByteArray.empty)) ∧ wx.cell? ⟨(w.heap.size + 1 + 1 + 1 + 1 + 1 + 1 + 1 + 1 + 1 + 1), 1, none⟩ = some (.string ((NB 10)[1]?.getD ByteArray.empty)) ∧ wx.cell? ⟨(w.heap.size + 1 + 1 + 1 + 1 + 1 + 1 + 1 + 1 + 1 + 1 + 1), 0, none⟩ = some (.string ((NB 11)[0]?.getD ByteArray.empty)) ∧ wx.cell? ⟨(w.heap.size + 1 + 1 + 1 + 1 + 1 + 1 + 1 + 1 + 1 + 1 + 1), 1, none⟩ = some (.string ((NB 11)[1]?.getD ByteArray.empty)) ∧ wx.cell? ⟨(w.heap.size + 1 + 1 + 1 + 1 + 1 + 1 + 1 + 1 + 1 + 1 + 1 + 1), 0, none⟩ = some (.string ((NB 12)[0]?.getD ByteArray.empty)) ∧ wx.cell? ⟨(w.heap.size + 1 + 1 + 1 + 1 + 1 + 1 + 1 + 1 + 1 + 1 + 1 + 1), 1, none⟩ = some (.string ((NB 12)[1]?.getD ByteArray.empty)) ∧ wx.cell? ⟨(w.heap.size + 1 + 1 + 1 + 1 + 1 + 1 + 1 + 1 + 1 + 1 + 1 + 1 + 1), 0, none⟩ = some (.string ((NB 13)[0]?.getD ByteArray.empty)) ∧ wx.cell? ⟨(w.heap.size + 1 + 1 + 1 + 1 + 1 + 1 + 1 + 1 + 1 + 1 + 1 + 1 + 1), 1, none⟩ = some (.string ((NB 13)[1]?.getD ByteArray.empty)) ∧ wx.cell? ⟨(w.heap.size + 1 + 1 + 1 + 1 + 1 + 1 + 1 + 1 + 1 + 1 + 1 + 1 + 1 + 1), 0, none⟩ = some (.string ((NB 14)[0]?.getD ByteArray.empty)) ∧ wx.cell? ⟨(w.heap.size + 1 + 1 + 1 + 1 + 1 + 1 + 1 + 1 + 1 + 1 + 1 + 1 + 1 + 1), 1, none⟩ = some (.string ((NB 14)[1]?.getD ByteArray.empty)) ∧ wx.cell? ⟨(w.heap.size + 1 + 1 + 1 + 1 + 1 + 1 + 1 + 1 + 1 + 1 + 1 + 1 + 1 + 1 + 1), 0, none⟩ = some (.string ((NB 15)[0]?.getD ByteArray.empty)) ∧ wx.cell? ⟨(w.heap.size + 1 + 1 + 1 + 1 + 1 + 1 + 1 + 1 + 1 + 1 + 1 + 1 + 1 + 1 + 1), 1, none⟩ = some (.string ((NB 15)[1]?.getD ByteArray.empty)) ∧ wx.cell? ⟨(w.heap.size + 1 + 1 + 1 + 1 + 1 + 1 + 1 + 1 + 1 + 1 + 1 + 1 + 1 + 1 + 1 + 1), 0, none⟩ = some (SL (w.heap.size) 1) ∧ wx.cell? ⟨(w.heap.size + 1 + 1 + 1 + 1 + 1 + 1 + 1 + 1 + 1 + 1 + 1 + 1 + 1 + 1 + 1 + 1), 1, none⟩ = some (SL (w.heap.size + 1) 1) ∧ wx.cell? ⟨(w.heap.size + 1 + 1 + 1 + 1 + 1 + 1 + 1 + 1 + 1 + 1 + 1 + 1 + 1 + 1 + 1 + 1), 2, none⟩ = some (SL (w.heap.size + 1 + 1) 3) ∧ wx.cell? ⟨(w.heap.size + 1 + 1 + 1 + 1 + 1 + 1 + 1 + 1 + 1 + 1 + 1 + 1 + 1 + 1 + 1 + 1), 3, none⟩ = some (SL (w.heap.size + 1 + 1 + 1) 3) ∧ wx.cell? ⟨(w.heap.size + 1 + 1 + 1 + 1 + 1 + 1 + 1 + 1 + 1 + 1 + 1 + 1 + 1 + 1 + 1 + 1), 4, none⟩ = some (SL (w.heap.size + 1 + 1 + 1 + 1) 2) ∧ wx.cell? ⟨(w.heap.size + 1 + 1 + 1 + 1 + 1 + 1 + 1 + 1 + 1 + 1 + 1 + 1 + 1 + 1 + 1 + 1), 5, none⟩ = some (SL (w.heap.size + 1 + 1 + 1 + 1 + 1) 2) ∧ wx.cell? ⟨(w.heap.size + 1 + 1 + 1 + 1 + 1 + 1 + 1 + 1 + 1 + 1 + 1 + 1 + 1 + 1 + 1 + 1), 6, none⟩ = some (SL (w.heap.size + 1 + 1 + 1 + 1 + 1 + 1) 2) ∧ wx.cell? ⟨(w.heap.size + 1 + 1 + 1 + 1 + 1 + 1 + 1 + 1 + 1 + 1 + 1 + 1 + 1 + 1 + 1 + 1), 7, none⟩ = some (SL (w.heap.size + 1 + 1 + 1 + 1 + 1 + 1 + 1) 2) ∧ wx.cell? ⟨(w.heap.size + 1 + 1 + 1 + 1 + 1 + 1 + 1 + 1 + 1 + 1 + 1 + 1 + 1 + 1 + 1 + 1), 8, none⟩ = some (SL (w.heap.size + 1 + 1 + 1 + 1 + 1 + 1 + 1 + 1) 1) ∧ wx.cell? ⟨(w.heap.size + 1 + 1 + 1 + 1 + 1 + 1 + 1 + 1 + 1 + 1 + 1 + 1 + 1 + 1 + 1 + 1), 9, none⟩ = some (SL (w.heap.size + 1 + 1 + 1 + 1 + 1 + 1 + 1 + 1 + 1) 1) ∧ wx.cell? ⟨(w.heap.size + 1 + 1 + 1 + 1 + 1 + 1 + 1 + 1 + 1 + 1 + 1 + 1 + 1 + 1 + 1 + 1), 10, none⟩ = some (SL (w.heap.size + 1 + 1 + 1 + 1 + 1 + 1 + 1 + 1 + 1 + 1) 2) ∧ wx.cell? ⟨(w.heap.size + 1 + 1 + 1 + 1 + 1 + 1 + 1 + 1 + 1 + 1 + 1 + 1 + 1 + 1 + 1 + 1), 11, none⟩ = some (SL (w.heap.size + 1 + 1 + 1 + 1 + 1 + 1 + 1 + 1 + 1 + 1 + 1) 2) ∧ wx.cell? ⟨(w.heap.size + 1 + 1 + 1 + 1 + 1 + 1 + 1 + 1 + 1 + 1 + 1 + 1 + 1 + 1 + 1 + 1), 12, none⟩ = some (SL (w.heap.size + 1 + 1 + 1 + 1 + 1 + 1 + 1 + 1 + 1 + 1 + 1 + 1) 2) ∧ wx.cell? ⟨(w.heap.size + 1 + 1 + 1 + 1 + 1 + 1 + 1 + 1 + 1 + 1 + 1 + 1 + 1 + 1 + 1 + 1), 13, none⟩ = some (SL (w.heap.size + 1 + 1 + 1 + 1 + 1 + 1 + 1 + 1 + 1 + 1 + 1 + 1 + 1) 2) ∧ wx.cell? ⟨(w.heap.size + 1 + 1 + 1 + 1 + 1 + 1 + 1 + 1 + 1 + 1 + 1 + 1 + 1 + 1 + 1 + 1), 14, none⟩ = some (SL (w.heap.size + 1 + 1 + 1 + 1 + 1 + 1 + 1 + 1 + 1 + 1 + 1 + 1 + 1 + 1) 2) ∧ wx.cell? ⟨(w.heap.size + 1 + 1 + 1 + 1 + 1 + 1 + 1 + 1 + 1 + 1 + 1 + 1 + 1 + 1 + 1 + 1), 15, none⟩ = some (SL (w.heap.size + 1 + 1 + 1 + 1 + 1 + 1 + 1 + 1 + 1 + 1 + 1 + 1 + 1 + 1 + 1) 2)
theorem LB.of {w wx : World} (h : LC w wx) (hb : Below w.heap.size w wx) : LB w (SL (w.heap.size + 1 + 1 + 1 + 1 + 1 + 1 + 1 + 1 + 1 + 1 + 1 + 1 + 1 + 1 + 1 + 1) 16) wx := by
  obtain ⟨c0_0, c1_0, c2_0, c2_1, c2_2, c3_0, c3_1, c3_2, c4_0, c4_1, c5_0, c5_1, c6_0, c6_1, c7_0, c7_1, c8_0, c9_0, c10_0, c10_1, c11_0, c11_1, c12_0, c12_1, c13_0, c13_1, c14_0, c14_1, c15_0, c15_1, l0, l1, l2, l3, l4, l5, l6, l7, l8, l9, l10, l11, l12, l13, l14, l15⟩ := h
  refine ⟨_, rfl, fun k hk => ?_, hb⟩
  have : k = 0 ∨ k = 1 ∨ k = 2 ∨ k = 3 ∨ k = 4 ∨ k = 5 ∨ k = 6 ∨ k = 7 ∨ k = 8 ∨ k = 9 ∨ k = 10 ∨ k = 11 ∨ k = 12 ∨ k = 13 ∨ k = 14 ∨ k = 15 := by omega
  rcases this with rfl | rfl | rfl | rfl | rfl | rfl | rfl | rfl | rfl | rfl | rfl | rfl | rfl | rfl | rfl | rfl
  · exact ⟨_, l0, by omega, row1 c0_0⟩
  · exact ⟨_, l1, by omega, row1 c1_0⟩
  · exact ⟨_, l2, by omega, row3 c2_0 c2_1 c2_2⟩
  · exact ⟨_, l3, by omega, row3 c3_0 c3_1 c3_2⟩
  · exact ⟨_, l4, by omega, row2 c4_0 c4_1⟩
  · exact ⟨_, l5, by omega, row2 c5_0 c5_1⟩
  · exact ⟨_, l6, by omega, row2 c6_0 c6_1⟩
  · exact ⟨_, l7, by omega, row2 c7_0 c7_1⟩
  · exact ⟨_, l8, by omega, row1 c8_0⟩
  · exact ⟨_, l9, by omega, row1 c9_0⟩
  · exact ⟨_, l10, by omega, row2 c10_0 c10_1⟩
  · exact ⟨_, l11, by omega, row2 c11_0 c11_1⟩
  · exact ⟨_, l12, by omega, row2 c12_0 c12_1⟩
  · exact ⟨_, l13, by omega, row2 c13_0 c13_1⟩
  · exact ⟨_, l14, by omega, row2 c14_0 c14_1⟩
  · exact ⟨_, l15, by omega, row2 c15_0 c15_1⟩
set_option maxHeartbeats 4000000 in
set_option maxRecDepth 100000 in
theorem rnames_any (n : Int) (w : World) :
    Calls Tryd.prog 33 #[.int .i64 n] w fun e w' => ∃ A, e = .returned (.slice A (namesF n).length (namesF n).length) ∧ Hid (Strs w.heap.size A (namesF n) w') ∧ Below w.heap.size w w' := by
  go_enter Tryd.func33, Tryd.ntmps33
  go_upto_region 1 with fail
  go_cut [3] (fun s3 wx => Hid (LB w s3 wx))
  case first =>
    go_wp2_with fail
    go_meet
    refine hid (LB.of ?_ (by go_grown))
    refine ⟨?_, ?_, ?_, ?_, ?_, ?_, ?_, ?_, ?_, ?_, ?_, ?_, ?_, ?_, ?_, ?_, ?_, ?_, ?_, ?_, ?_, ?_, ?_, ?_, ?_, ?_, ?_, ?_, ?_, ?_, ?_, ?_, ?_, ?_, ?_, ?_, ?_, ?_, ?_, ?_, ?_, ?_, ?_, ?_, ?_, ?_⟩
    all_goals first | (simp [NB, cell_alloc_lt, cell_new]; done) | (simp (disch := first | (simp; done) | (simp; omega) | omega) [NB, cell_alloc_lt, cell_new])
  case rest =>
    obtain ⟨g, rfl, hl, hb⟩ := hcut.out
    have HL := hid hl
    have HB := hid hb
    clear hl hb
    cases h : isF n
    · have H := hid (show namesF n = [] by simp [namesF, h])
      rcases isF_no h with h1 | h1
      all_goals
        clear h
        go_wp2_with fail
        go_returns
        exact ⟨none, by simp [H.out], hid (.inl ⟨H.out, rfl⟩), HB.out⟩
    · obtain ⟨k, rfl, hk⟩ := isF_nat h
      clear h
      obtain ⟨h, hx, hge, hrow⟩ := HL.out k hk
      have HR := hid hrow
      have h1 : ¬ ((k : Int) < 0) := by omega
      have h2 : ¬ (15 < (k : Int)) := by omega
      clear hrow
      go_wp2_with fail
      go_returns
      exact ⟨_, by rw [namesF_in hk]; rfl, hid (.inr ⟨h, rfl, hge, by rw [namesF_in hk]; exact HR.out⟩), HB.out⟩
end Go.Proofs.YtinbgkflbphknaaDoor
