/-
  The statements' own small functions on texts: letters made small; some letters made large.
-/
import Derived.Test.YtebcljdekhmkhaaDoorConv
import Derived.Test.YtebcljdekhmkhaaDoorNames
namespace Go.Proofs.YtebcljdekhmkhaaDoor
open Go.RowKit

theorem nums_add (S : ByteArray) (d : Int) (hd : 0 ≤ d ∧ d < 256) : nums (S ++ strOfNums [d]) = nums S ++ [d] := by
  rw [nums_append, nums_str [d] (by intro z hz; simp at hz; subst hz; exact hd)]
theorem take_next (s : ByteArray) (k : Nat) (h : k < s.size) : (nums s).take (k + 1) = (nums s).take k ++ [ch s k] := by
  have hl : k < (nums s).length := by rw [nums_length]; exact h
  rw [List.take_succ_eq_append_getElem hl]
  unfold ch
  rw [List.getElem?_eq_getElem hl]; rfl
theorem size_one (d : Int) : (strOfNums [d]).size = 1 := by
  have : (strOfNums [d]).data.toList.length = 1 := by rw [strOfNums_data]; rfl
  exact this
theorem lo_range (c : Int) (h : 0 ≤ c ∧ c < 256) : 0 ≤ lo c ∧ lo c < 256 := by unfold lo; split <;> omega
set_option maxHeartbeats 1000000 in
set_option maxRecDepth 100000 in
theorem lsmall_any (s : ByteArray) (w : World) (hs : s.size ≤ 100) :
    Calls Tryd.prog 26 #[.string s] w fun e w' => ∃ T : ByteArray, e = .returned (.string T) ∧ nums T = lower (nums s) ∧ Below w.heap.size w w' := by
  have hb := get_ch s
  go_enter Tryd.func26, Tryd.ntmps26
  go_wp2
  go_loopw [3, 4] (fun s3 s4 wr => ∃ (k : Nat) (S : ByteArray), k ≤ s.size ∧ s4 = .int .i64 k ∧ s3 = .string S ∧ S.size ≤ 100 ∧ Hid (nums S = lower ((nums s).take k)) ∧ Hid (Below w.heap.size w wr)) (fun _ s4 _ => s.size - (intOf s4).toNat)
  case atStart => exact ⟨0, _, by omega, rfl, rfl, by decide, hid rfl, hid (Below.refl _ _)⟩
  case round =>
    obtain ⟨k, S, hk, rfl, rfl, hS, HS, HB⟩ := hrel
    by_cases hlt : k < s.size
    · have hc := ch_range s k
      have HX := hid (take_next s k hlt)
      have HB2 := hid fun v => HB.out.alloc HB.out.size (.cells #[v] 5)
      have hS2 : S.size + 1 ≤ 100 := by
        have h := congrArg List.length HS.out
        rw [nums_length] at h
        simp [lower, nums_length] at h
        omega
      by_cases hu : 65 ≤ ch s k ∧ ch s k ≤ 90
      · have hcv := conv_one wr (ch s k + 32) (by omega)
        have hz1 := size_one (ch s k + 32)
        have hw : IntKind.u8.wrap (ch s k + 32) = ch s k + 32 := by rw [IntKind.wrap_u8]; omega
        have HN := hid (show nums (S ++ strOfNums [ch s k + 32]) = lower ((nums s).take (k + 1)) by
          rw [nums_add _ _ (by omega), HS.out, HX.out]; simp [lower, lo, hu])
        have HZ := hid (show (S ++ strOfNums [ch s k + 32]).size ≤ 100 by
          rw [← nums_length, HN.out, lower, List.length_map, List.length_take, nums_length]; omega)
        go_wp2_with fail
        go_roundw
        case rel => exact ⟨k + 1, _, by omega, by go_num, rfl, HZ.out, HN, hid (HB2.out _)⟩
        case measure => simp [intOf]; omega
      · have hcv := conv_one wr (ch s k) hc
        have hz1 := size_one (ch s k)
        have HN := hid (show nums (S ++ strOfNums [ch s k]) = lower ((nums s).take (k + 1)) by
          rw [nums_add _ _ (by omega), HS.out, HX.out]; simp [lower, lo]; omega)
        have HZ := hid (show (S ++ strOfNums [ch s k]).size ≤ 100 by
          rw [← nums_length, HN.out, lower, List.length_map, List.length_take, nums_length]; omega)
        have hu1 : ch s k < 65 ∨ 90 < ch s k := by omega
        rcases hu1 with hu1 | hu1
        all_goals
          go_wp2_with fail
          go_roundw
          case rel => exact ⟨k + 1, _, by omega, by go_num, rfl, HZ.out, HN, hid (HB2.out _)⟩
          case measure => simp [intOf]; omega
    · have HE := hid (show nums S = lower (nums s) by
        rw [HS.out, List.take_of_length_le (by rw [nums_length]; omega)])
      go_wp2
      go_ret
      exact ⟨_, rfl, HE.out, HB.out⟩
set_option maxHeartbeats 1000000 in
set_option maxRecDepth 100000 in
theorem turned_any (s : ByteArray) (n : Int) (w : World) (hs : s.size ≤ 100) :
    Calls Tryd.prog 25 #[.string s, .int .i64 n] w fun e w' => ∃ T : ByteArray, e = .returned (.string T) ∧ T.size ≤ 100 ∧ lower (nums T) = lower (nums s) ∧ Below w.heap.size w w' := by
  have hb := get_ch s
  go_enter Tryd.func25, Tryd.ntmps25
  go_wp2
  go_loopw [5, 6] (fun s5 s6 wr => ∃ (k : Nat) (S : ByteArray), k ≤ s.size ∧ s6 = .int .i64 k ∧ s5 = .string S ∧ S.size ≤ 100 ∧ Hid (lower (nums S) = lower ((nums s).take k)) ∧ Hid (Below w.heap.size w wr)) (fun _ s6 _ => s.size - (intOf s6).toNat)
  case atStart => exact ⟨0, _, by omega, rfl, rfl, by decide, hid rfl, hid (Below.refl _ _)⟩
  case round =>
    obtain ⟨k, S, hk, rfl, rfl, hS, HS, HB⟩ := hrel
    by_cases hlt : k < s.size
    · have hc := ch_range s k
      have HX := hid (take_next s k hlt)
      have HB2 := hid fun v => HB.out.alloc HB.out.size (.cells #[v] 5)
      obtain ⟨m, hm⟩ : ∃ m : Nat, m = k % 60 := ⟨_, rfl⟩
      have e1 : (k : Int).tmod 60 = m := by rw [Int.tmod_eq_emod_of_nonneg (by omega), hm]; rfl
      have hm60 : m < 60 := by omega
      have HM := hid hm
      clear hm
      have hcv1 := conv_one wr (ch s k) hc
      have hz1 := size_one (ch s k)
      have HN := hid fun (d : Int) (hd : 0 ≤ d ∧ d < 256) (he : lo d = lo (ch s k)) => (show lower (nums (S ++ strOfNums [d])) = lower ((nums s).take (k + 1)) by
        rw [nums_add _ _ hd, HX.out, lower, List.map_append]; have := HS.out; unfold lower at this; rw [this]; simp [lower, he])
      have HZ := hid fun (d : Int) (hd : 0 ≤ d ∧ d < 256) (he : lo d = lo (ch s k)) => (show (S ++ strOfNums [d]).size ≤ 100 by
        have h := congrArg List.length (HN.out d hd he)
        simp only [lower, List.length_map, List.length_take, nums_length] at h
        omega)
      by_cases hu : 97 ≤ ch s k ∧ ch s k ≤ 122
      · have hcv2 := conv_one wr (ch s k - 32) (by omega)
        have hz2 := size_one (ch s k - 32)
        have HL := hid (show lo (ch s k - 32) = lo (ch s k) by unfold lo; rw [if_pos (by omega), if_neg (by omega)]; omega)
        go_wp2_with fail
        all_goals
          go_roundw
          case rel => first
            | exact ⟨k + 1, _, by omega, by go_num, rfl, HZ.out _ (by omega) HL.out, hid (HN.out _ (by omega) HL.out), hid (HB2.out _)⟩
            | exact ⟨k + 1, _, by omega, by go_num, rfl, HZ.out _ hc rfl, hid (HN.out _ hc rfl), hid (HB2.out _)⟩
          case measure => simp [intOf]; omega
      · go_wp2_with fail
        all_goals first
          | (exfalso; omega)
          | (go_roundw
             case rel => exact ⟨k + 1, _, by omega, by go_num, rfl, HZ.out _ hc rfl, hid (HN.out _ hc rfl), hid (HB2.out _)⟩
             case measure => simp [intOf]; omega)
    · have HE := hid (show lower (nums S) = lower (nums s) by
        rw [HS.out, List.take_of_length_le (by rw [nums_length]; omega)])
      go_wp2
      go_ret
      exact ⟨_, rfl, hS, HE.out, HB.out⟩
end Go.Proofs.YtebcljdekhmkhaaDoor
