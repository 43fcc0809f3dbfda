/-
  The condition on which a mnemonic hangs: the program and the document.
-/
import Derived.Test.YtinbgkflbphknaaDoorOpImm
import Derived.BigQuiet
import Derived.Deep.DeepCutAuto
namespace Go.Proofs.YtinbgkflbphknaaDoor
open Go.RowKit

/-- The condition of a number's mnemonic. -/
def condF (n : Int) : Option Int := if 68 ≤ n ∧ n ≤ 83 then some (n - 68) else if 84 ≤ n ∧ n ≤ 99 then some (n - 84) else if 100 ≤ n ∧ n ≤ 115 then some (n - 100) else none
/-- No family ahead of the k-th one has the number. -/
def Past (n : Int) (k : Nat) : Prop := ∀ j, j < k → n < famN j ∨ famN j + 15 < n
theorem Past.next {n : Int} {k : Nat} (h : Past n k) (hk : n < famN k ∨ famN k + 15 < n) : Past n (k + 1) := fun j hj => by
  rcases Nat.lt_or_ge j k with h' | h'
  · exact h j h'
  · rw [show j = k by omega]; exact hk
theorem cond_at0 {n : Int} (h1 : 68 ≤ n) (h2 : n ≤ 83) : condF n = some (n - 68) := by rw [condF, if_pos ⟨h1, h2⟩]
theorem cond_at1 {n : Int} (h1 : 84 ≤ n) (h2 : n ≤ 99) : condF n = some (n - 84) := by rw [condF, if_neg (by omega), if_pos ⟨h1, h2⟩]
theorem cond_at2 {n : Int} (h1 : 100 ≤ n) (h2 : n ≤ 115) : condF n = some (n - 100) := by rw [condF, if_neg (by omega), if_neg (by omega), if_pos ⟨h1, h2⟩]
theorem cond_no {n : Int} (h : Past n 3) : condF n = none := by
  have h0 := h 0 (by omega)
  have h1 := h 1 (by omega)
  have h2 := h 2 (by omega)
  simp only [famN] at h0 h1 h2
  rw [condF, if_neg (by omega), if_neg (by omega), if_neg (by omega)]
set_option maxRecDepth 100000 in
set_option maxHeartbeats 1000000 in
theorem opcond_any (n : Int) (w : World) :
    Calls Tryd.prog 9 #[.int .i64 n] w fun e w' => e = .returned (OV (condF n)) ∧ Below w.heap.size w w' := by
  go_enter Tryd.func9, Tryd.ntmps9
  go_wp2_with (go_at_call 27; refine (families_any _).mono ?_; rintro e w1 ⟨rfl, hb1⟩)
  have HB := hid hb1
  clear hb1
  have i0 := fams0
  have i1 := fams1
  have i2 := fams2
  go_loopw [7] (fun i wr => ∃ k : Nat, k ≤ 3 ∧ i = .int .i64 k ∧ Hid (Below w.heap.size w wr) ∧ Hid (Past n k)) (fun i _ => 3 - (intOf i).toNat)
  case atStart => exact ⟨0, by omega, rfl, HB, hid (fun j hj => by omega)⟩
  case round =>
    obtain ⟨k, hk, rfl, HB, HT⟩ := hrel
    obtain rfl | rfl | rfl | rfl : k = 0 ∨ k = 1 ∨ k = 2 ∨ k = 3 := by omega
    · rcases Int.lt_or_le n 68 with h1 | h1
      · have HM := hid (HT.out.next (.inl h1))
        go_wp2_with fail
        go_roundw
        case rel => exact ⟨1, by omega, by simp, hid (HB.out.alloc HB.out.size _), HM⟩
        case measure => simp [intOf]
      · rcases Int.lt_or_le 83 n with h2 | h2
        · have HM := hid (HT.out.next (.inr h2))
          go_wp2_with fail
          go_roundw
          case rel => exact ⟨1, by omega, by simp, hid (HB.out.alloc HB.out.size _), HM⟩
          case measure => simp [intOf]
        · have HM := hid (cond_at0 h1 h2)
          go_wp2_with fail
          go_returns
          exact ⟨by rw [HM.out]; rfl, HB.out.alloc HB.out.size _⟩
    · rcases Int.lt_or_le n 84 with h1 | h1
      · have HM := hid (HT.out.next (.inl h1))
        go_wp2_with fail
        go_roundw
        case rel => exact ⟨2, by omega, by simp, hid (HB.out.alloc HB.out.size _), HM⟩
        case measure => simp [intOf]
      · rcases Int.lt_or_le 99 n with h2 | h2
        · have HM := hid (HT.out.next (.inr h2))
          go_wp2_with fail
          go_roundw
          case rel => exact ⟨2, by omega, by simp, hid (HB.out.alloc HB.out.size _), HM⟩
          case measure => simp [intOf]
        · have HM := hid (cond_at1 h1 h2)
          go_wp2_with fail
          go_returns
          exact ⟨by rw [HM.out]; rfl, HB.out.alloc HB.out.size _⟩
    · rcases Int.lt_or_le n 100 with h1 | h1
      · have HM := hid (HT.out.next (.inl h1))
        go_wp2_with fail
        go_roundw
        case rel => exact ⟨3, by omega, by simp, hid (HB.out.alloc HB.out.size _), HM⟩
        case measure => simp [intOf]
      · rcases Int.lt_or_le 115 n with h2 | h2
        · have HM := hid (HT.out.next (.inr h2))
          go_wp2_with fail
          go_roundw
          case rel => exact ⟨3, by omega, by simp, hid (HB.out.alloc HB.out.size _), HM⟩
          case measure => simp [intOf]
        · have HM := hid (cond_at2 h1 h2)
          go_wp2_with fail
          go_returns
          exact ⟨by rw [HM.out]; rfl, HB.out.alloc HB.out.size _⟩
    · have HO := hid (cond_no HT.out)
      go_wp2_with fail
      go_returns
      exact ⟨by rw [HO.out]; rfl, HB.out⟩
set_option maxRecDepth 100000 in
set_option maxHeartbeats 1000000 in
theorem ropcond_any (n : Int) (w : World) :
    Calls Tryd.prog 10 #[.int .i64 n] w fun e w' => e = .returned (OV (condF n)) ∧ Below w.heap.size w w' := by
  go_enter Tryd.func10, Tryd.ntmps10
  go_wp2_with fail
  go_loop [5] (fun i => ∃ k : Nat, k ≤ 3 ∧ i = .int .i64 k ∧ Hid (Past n k)) (fun i => 3 - (intOf i).toNat)
  case atStart => exact ⟨0, by omega, rfl, hid (fun j hj => by omega)⟩
  case round =>
    obtain ⟨k, hk, rfl, HT⟩ := hrel
    obtain rfl | rfl | rfl | rfl : k = 0 ∨ k = 1 ∨ k = 2 ∨ k = 3 := by omega
    · rcases Int.lt_or_le n 68 with h1 | h1
      · have HM := hid (HT.out.next (.inl h1))
        go_wp2_with fail
        go_round
        case rel => exact ⟨1, by omega, by simp, HM⟩
        case measure => simp [intOf]
      · rcases Int.lt_or_le 83 n with h2 | h2
        · have HM := hid (HT.out.next (.inr h2))
          go_wp2_with fail
          go_round
          case rel => exact ⟨1, by omega, by simp, HM⟩
          case measure => simp [intOf]
        · have HM := hid (cond_at0 h1 h2)
          go_wp2_with fail
          go_returns
          exact ⟨by rw [HM.out]; rfl, (Below.refl _ w).alloc (Nat.le_refl _) _⟩
    · rcases Int.lt_or_le n 84 with h1 | h1
      · have HM := hid (HT.out.next (.inl h1))
        go_wp2_with fail
        go_round
        case rel => exact ⟨2, by omega, by simp, HM⟩
        case measure => simp [intOf]
      · rcases Int.lt_or_le 99 n with h2 | h2
        · have HM := hid (HT.out.next (.inr h2))
          go_wp2_with fail
          go_round
          case rel => exact ⟨2, by omega, by simp, HM⟩
          case measure => simp [intOf]
        · have HM := hid (cond_at1 h1 h2)
          go_wp2_with fail
          go_returns
          exact ⟨by rw [HM.out]; rfl, (Below.refl _ w).alloc (Nat.le_refl _) _⟩
    · rcases Int.lt_or_le n 100 with h1 | h1
      · have HM := hid (HT.out.next (.inl h1))
        go_wp2_with fail
        go_round
        case rel => exact ⟨3, by omega, by simp, HM⟩
        case measure => simp [intOf]
      · rcases Int.lt_or_le 115 n with h2 | h2
        · have HM := hid (HT.out.next (.inr h2))
          go_wp2_with fail
          go_round
          case rel => exact ⟨3, by omega, by simp, HM⟩
          case measure => simp [intOf]
        · have HM := hid (cond_at2 h1 h2)
          go_wp2_with fail
          go_returns
          exact ⟨by rw [HM.out]; rfl, (Below.refl _ w).alloc (Nat.le_refl _) _⟩
    · have HO := hid (cond_no HT.out)
      go_wp2_with fail
      go_returns
      exact ⟨by rw [HO.out]; rfl, (Below.refl _ w).alloc (Nat.le_refl _) _⟩
theorem opcond_of {n : Int} {o : Option Int} (h : condF n = o) (w : World) :
    Calls Tryd.prog 9 #[.int .i64 n] w fun e w' => e = .returned (OV o) ∧ Below w.heap.size w w' := by
  have := opcond_any n w
  rw [h] at this
  exact this
theorem ropcond_of {n : Int} {o : Option Int} (h : condF n = o) (w : World) :
    Calls Tryd.prog 10 #[.int .i64 n] w fun e w' => e = .returned (OV o) ∧ Below w.heap.size w w' := by
  have := ropcond_any n w
  rw [h] at this
  exact this
end Go.Proofs.YtinbgkflbphknaaDoor
