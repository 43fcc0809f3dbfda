/-
  The document's look-up of a condition's name.
-/
import Derived.Test.YtinbgkflbphknaaDoorCondParse
import Derived.Test.YtinbgkflbphknaaDoorCondRefNames
namespace Go.Proofs.YtinbgkflbphknaaDoor
open Go.RowKit

set_option maxHeartbeats 400000 in
theorem rparse_any (s : ByteArray) (w : World) :
    Calls Tryd.prog 26 #[.string s] w fun e w' => e = .returned (PV (parseF s)) ∧ Below w.heap.size w w' := by
  go_enter Tryd.func26, Tryd.ntmps26
  go_wp2_with fail
  go_loopw [4] (fun i wr => ∃ k : Nat, k ≤ 16 ∧ i = .int .i64 k ∧ Hid (Below w.heap.size w wr) ∧ Hid (parseF s = fromF s k (16 - k))) (fun i _ => 16 - (intOf i).toNat)
  case atStart => exact ⟨0, by omega, rfl, hid (Below.refl _ _), hid rfl⟩
  case round =>
    obtain ⟨k, hk, rfl, HB, HF⟩ := hrel
    by_cases hlt : k < 16
    · have hl3 := (NB_length k hlt).2
      have HN := hid (HF.out.trans (fromF_next hlt))
      go_wp2_with (go_at_call 33; refine (rnames_any _ _).mono ?_; rw [namesF_in hlt]; rintro e w1 ⟨A, rfl, HS, hb1⟩; have HB1 := hid (HB.out.trans (hb1.mono HB.out.size)); clear hb1)
      have el : (0 : Int) ≤ ((NB k).length : Int) := by omega
      go_loopw [6] (fun i wr => ∃ j : Nat, j ≤ (NB k).length ∧ i = .int .i64 j ∧ w1 = wr ∧ Hid (hasF s (NB k) = hasF s ((NB k).drop j))) (fun i _ => (NB k).length - (intOf i).toNat)
      case atStart => exact ⟨0, by omega, rfl, rfl, hid rfl⟩
      case round =>
        obtain ⟨j, hj, rfl, rfl, HJ⟩ := hrel
        by_cases hjl : j < (NB k).length
        · obtain ⟨t, ht⟩ : ∃ t, (NB k)[j]? = some t := ⟨_, List.getElem?_eq_getElem hjl⟩
          rcases HS.out with ⟨h0, rfl⟩ | ⟨h, rfl, _, hrow⟩
          · rw [h0] at hjl; simp at hjl
          have hcell := hrow.2 j t ht
          have HX := hid (HJ.out.trans (hasF_drop ht))
          clear ht hrow
          cases hm : t.toList == s.toList
          · have HM := hid (show (s.toList == t.toList) = false by rw [← hm]; exact BEq.comm)
            go_wp2_with fail
            go_roundw
            case rel => exact ⟨j + 1, by omega, by go_num, trivial, hid (by rw [HX.out, HM.out]; rfl)⟩
            case measure => simp [intOf]; omega
          · have HM := hid (show hasF s (NB k) = true by rw [HX.out, show (s.toList == t.toList) = true by rw [← hm]; exact BEq.comm]; rfl)
            go_wp2_with fail
            go_returns
            exact ⟨by rw [HN.out, HM.out]; rfl, HB1.out⟩
        · have HM := hid (show hasF s (NB k) = false by rw [HJ.out, List.drop_of_length_le (by omega)]; rfl)
          go_wp2_with fail
          go_roundw
          case rel => exact ⟨k + 1, by omega, by go_num, HB1, hid (by rw [HN.out, HM.out]; rfl)⟩
          case measure => simp [intOf]; omega
    · have HN := hid (show parseF s = none by rw [HF.out, show 16 - k = 0 by omega]; rfl)
      go_wp2_with fail
      go_returns
      exact ⟨by rw [HN.out]; rfl, HB.out⟩
end Go.Proofs.YtinbgkflbphknaaDoor
