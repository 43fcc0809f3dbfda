/-
  The name of a register.
-/
import Derived.Test.YtebcljdekhmkhaaDoorNames
import Derived.Deep.RegionHeld3
namespace Go.Proofs.YtebcljdekhmkhaaDoor
open Go.RowKit

/-- A register's name; nothing if it is none. -/
def nameF (c n : Int) : List Int := if validF c n then (NM c)[(n - (spanF c).1).toNat]?.getD [] else []
/-- Behind a call that leaves old memory alone a register that was boxed there still stands. -/
theorem boxed {W w' w'' : World} {g : Nat} {u v : Value} (h : Below W.heap.size W w' ∧ w'.cell? ⟨g, 0, none⟩ = some u ∧ w'.cell? ⟨g, 1, none⟩ = some v) (hb : Below w'.heap.size w' w'') (hg : g < W.heap.size) :
    Below W.heap.size W w'' ∧ w''.cell? ⟨g, 0, none⟩ = some u ∧ w''.cell? ⟨g, 1, none⟩ = some v := by
  have hs := h.1.size
  exact ⟨h.1.trans (hb.mono hs), by rw [hb.cell (p := ⟨g, 0, none⟩) (show g < w'.heap.size by omega)]; exact h.2.1, by rw [hb.cell (p := ⟨g, 1, none⟩) (show g < w'.heap.size by omega)]; exact h.2.2⟩
theorem boxed_drew {W w' : World} {g : Nat} {u v : Value} (h : Below W.heap.size W w' ∧ w'.cell? ⟨g, 0, none⟩ = some u ∧ w'.cell? ⟨g, 1, none⟩ = some v) :
    Below W.heap.size W w'.drew ∧ w'.drew.cell? ⟨g, 0, none⟩ = some u ∧ w'.drew.cell? ⟨g, 1, none⟩ = some v := ⟨h.1.drew, h.2.1, h.2.2⟩
theorem names_at (c : Int) (j : Nat) (hj : j < (NM c).length) (w : World) (ht : Tab w) :
    Calls Tryd.prog 29 #[.int .i64 c] w fun e w' => ∃ (h L : Nat) (T : ByteArray), e = .returned (.slice (some ⟨h, 0, none⟩) L L) ∧ (j : Int) < L ∧ w'.cell? ⟨h, j, none⟩ = some (.string T) ∧ Hid (nums T = (NM c)[j]?.getD []) ∧ Below w.heap.size w w' := by
  refine (names_any c w ht).mono fun e w' ⟨l, hl, he, hw⟩ => ?_
  have hlen : l.length = (NM c).length := by rw [← hl]; simp
  subst hw
  refine ⟨w.heap.size, l.length, l[j]'(by omega), he, by omega, ?_, hid ?_, (Below.refl _ _).alloc (Nat.le_refl _) _⟩
  · simp [show j < l.length by omega]
  · rw [← hl]; simp [show j < l.length by omega]
set_option maxHeartbeats 2000000 in
theorem name_any (c n : Int) (w : World) (ht : Tab w) :
    Calls Tryd.prog 9 #[.agg #[.int .i64 c, .int .i64 n]] w fun e w' => ∃ T : ByteArray, e = .returned (.string T) ∧ nums T = nameF c n ∧ Below w.heap.size w w' := by
  have HT := hid ht
  clear ht
  cases hv : validF c n
  · have HV := hid hv
    clear hv
    go_enter Tryd.func9, Tryd.ntmps9
    go_wp2_with (go_at_call 7; refine (valid_of HV.out _).mono ?_; rintro e w1 ⟨rfl, hb1⟩; obtain ⟨hc1, hf1⟩ := bcell hb1; have hz1 : w.heap.size < w1.heap.size := by have := hb1.size; simp at this; omega)
    go_ret
    exact ⟨_, rfl, by simp [nameF, HV.out, nums], ((Below.refl _ _).alloc (Nat.le_refl _) _).trans (hb1.mono (by simp))⟩
  · obtain ⟨a, b, hs⟩ : ∃ a b, spanF c = (a, b) := ⟨_, _, rfl⟩
    have hr := spanF_range c
    have hl := NM_length c
    rw [hs] at hr hl
    simp only [] at hr hl
    have hab : a ≤ n ∧ n < a + b := by simp [validF, hs] at hv; exact hv
    obtain ⟨j, rfl⟩ : ∃ j : Nat, n = a + j := ⟨(n - a).toNat, by omega⟩
    have hsub : a + (j : Int) - a = j := by omega
    have hj : j < (NM c).length := by omega
    have e1 : (0 : Int) ≤ (j : Int) := by omega
    have e2 : IntKind.i64.wrap (j : Int) = j := IntWalk.i64_in _ (by omega)
    have HV := hid hv
    have HS := hid hs
    have HJ := hid hj
    have HN := hid (show nameF c (a + j) = (NM c)[j]?.getD [] by unfold nameF; rw [hv, if_pos rfl, hs]; simp only [hsub]; simp)
    clear hv hs hl hj
    go_enter Tryd.func9, Tryd.ntmps9
    go_wp2_with (first | (go_at_call 7; refine (valid_of HV.out _).mono ?_; rintro e w1 ⟨rfl, hb1⟩; obtain ⟨hc1, hf1⟩ := bcell hb1; have hz1 : w.heap.size < w1.heap.size := by have := hb1.size; simp at this; omega) | (go_at_call 28; refine (span_of HS.out _).mono ?_; rintro e w' ⟨rfl, rfl⟩))
    have h0 : w1.cell? ⟨w.heap.size, 0, none⟩ = some (.int .i64 c) := by rw [hc1 _ _ (by simp)]; simp
    have h1 : w1.cell? ⟨w.heap.size, 1, none⟩ = some (.int .i64 (a + j)) := by rw [hc1 _ _ (by simp)]; simp
    have HB := hid (show Below w.heap.size w w1 from ((Below.refl _ _).alloc (Nat.le_refl _) _).trans (hb1.mono (by simp)))
    have HT1 := hid (HT.out.below HB.out)
    clear hc1 hf1 hb1
    go_region_with (first | (go_at_call 29; refine (names_at c j HJ.out _ (HT1.out.below (Below.refl _ _).drew)).mono ?_; rintro e w2 ⟨h, L, T, rfl, hjL, hcT, HX, hbel⟩; have q0 := (bcell hbel).1 w.heap.size 0 hz1; have q1 := (bcell hbel).1 w.heap.size 1 hz1))
    all_goals
      go_wp2
      go_ret
      exact ⟨T, rfl, HX.out.trans HN.out.symm, HB.out.trans (Below.mono ((Below.refl _ w1).drew.trans hbel) HB.out.size)⟩
theorem name_of {c n : Int} {x : List Int} (h : nameF c n = x) (w : World) (ht : Tab w) :
    Calls Tryd.prog 9 #[.agg #[.int .i64 c, .int .i64 n]] w fun e w' => ∃ T : ByteArray, e = .returned (.string T) ∧ nums T = x ∧ Below w.heap.size w w' := by
  have := name_any c n w ht
  rw [h] at this
  exact this
end Go.Proofs.YtebcljdekhmkhaaDoor
