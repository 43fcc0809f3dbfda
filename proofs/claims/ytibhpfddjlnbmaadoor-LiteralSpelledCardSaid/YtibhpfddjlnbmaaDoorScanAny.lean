/-
  Scan of package literal, whatever it is given.
-/
import Derived.Test.YtibhpfddjlnbmaaDoorText
namespace Go.Proofs.YtibhpfddjlnbmaaDoor
open Go.RowKit

theorem scan_neg {xs : List Int} {at_ : Int} (h : at_ < 0) : scan xs at_ = fault 6 0 := by unfold scan; rw [if_pos h]
theorem scan_far {xs : List Int} {at_ : Int} (h0 : 0 ≤ at_) (h : (xs.length : Int) ≤ at_) : scan xs at_ = fault 6 at_ := by unfold scan; rw [if_neg (by omega), if_pos h]
theorem scan_in (s : ByteArray) (a : Nat) (h : a < s.size) : scan (nums s) a = if ch s a = 39 then scanT (nums s) a else if dval (ch s a) < 10 then scanW (nums s) a else fault 6 a := by
  unfold scan
  rw [if_neg (by omega), if_neg (by rw [nums_length]; omega), Int.toNat_natCast]
  rfl

set_option maxHeartbeats 2000000 in
set_option maxRecDepth 100000 in
theorem scan_any (s : ByteArray) (at_ : Int) (w : World) (hs : s.size < 9223372036854775807) :
    Calls Tryd.prog 9 #[.string s, .int .i64 at_] w fun e w' => e = .returned (R.val (scan (nums s) at_)) ∧ Below w.heap.size w w' := by
  have hb := get_ch s
  by_cases h0 : at_ < 0
  · have H2 := hid (show scan (nums s) at_ = fault 6 0 from scan_neg h0)
    go_enter Tryd.func9, Tryd.ntmps9
    go_wp2_with (go_at_call 19; refine (fails_any _ _ _).mono ?_; rintro e w2 ⟨rfl, hb2⟩; obtain ⟨hc2, hf2⟩ := bcell hb2; have hz2 : w.heap.size < w2.heap.size := by have := hb2.size; simp at this; omega)
    all_goals
      refine bodyPost_ret (v := R.val (fault 6 0)) (by simp [results, Tryd.results9, go_sem, hc2]) rfl ⟨by rw [H2.out], ?_⟩
      exact ((((Below.refl _ _).alloc (Nat.le_refl _) _).trans (hb2.mono (by simp))).setCell (Nat.le_refl _) _).setCell (Nat.le_refl _) _
  · by_cases h1 : (s.size : Int) ≤ at_
    · have H2 := hid (show scan (nums s) at_ = fault 6 at_ from scan_far (by omega) (by rw [nums_length]; exact h1))
      have e1 : decide (at_ < (s.size : Int)) = false := by simp; omega
      go_enter Tryd.func9, Tryd.ntmps9
      go_wp2_with (go_at_call 19; refine (fails_any _ _ _).mono ?_; rintro e w2 ⟨rfl, hb2⟩; obtain ⟨hc2, hf2⟩ := bcell hb2; have hz2 : w.heap.size < w2.heap.size := by have := hb2.size; simp at this; omega)
      all_goals
        refine bodyPost_ret (v := R.val (fault 6 at_)) (by simp [results, Tryd.results9, go_sem, hc2]) rfl ⟨by rw [H2.out], ?_⟩
        exact ((((Below.refl _ _).alloc (Nat.le_refl _) _).trans (hb2.mono (by simp))).setCell (Nat.le_refl _) _).setCell (Nat.le_refl _) _
    · obtain ⟨a, rfl⟩ := Int.eq_ofNat_of_zero_le (by omega : 0 ≤ at_)
      have ha : a < s.size := by omega
      have hc := ch_range s a
      have HS := hid (scan_in s a ha)
      clear h0 h1
      by_cases h39 : ch s a = 39
      · have H2 := hid (show scan (nums s) a = scanT (nums s) a by rw [HS.out, if_pos h39])
        have e39 : (ch s a == 39) = true := by simp [h39]
        clear h39
        go_enter Tryd.func9, Tryd.ntmps9
        go_wp2_with (go_at_call 20; refine (scanText_any _ _ _ hs ha).mono ?_; rintro e w2 ⟨rfl, hb2⟩; obtain ⟨hc2, hf2⟩ := bcell hb2; have hz2 : w.heap.size < w2.heap.size := by have := hb2.size; simp at this; omega)
        all_goals
          refine bodyPost_ret (v := R.val (scanT (nums s) a)) (by simp [results, Tryd.results9, go_sem, hc2]) rfl ⟨by rw [H2.out], ?_⟩
          exact ((((Below.refl _ _).alloc (Nat.le_refl _) _).trans (hb2.mono (by simp))).setCell (Nat.le_refl _) _).setCell (Nat.le_refl _) _
      · have e39 : (ch s a == 39) = false := by simp [h39]
        by_cases hd : dval (ch s a) < 10
        · have H2 := hid (show scan (nums s) a = scanW (nums s) a by rw [HS.out, if_neg h39, if_pos hd])
          clear h39
          go_enter Tryd.func9, Tryd.ntmps9
          go_wp2_with (first | (go_at_call 21; refine (value_any _ _ hc.1 hc.2).mono ?_; rintro e w' ⟨rfl, rfl⟩) | (go_at_call 22; refine (scanWord_any _ _ _ (Nat.le_of_lt hs) ha hd).mono ?_; rintro e w2 ⟨rfl, hb2⟩; obtain ⟨hc2, hf2⟩ := bcell hb2; have hz2 : w.heap.size < w2.heap.size := by have := hb2.size; simp at this; omega))
          all_goals
            refine bodyPost_ret (v := R.val (scanW (nums s) a)) (by simp [results, Tryd.results9, go_sem, hc2]) rfl ⟨by rw [H2.out], ?_⟩
            exact ((((Below.refl _ _).alloc (Nat.le_refl _) _).trans (hb2.mono (by simp))).setCell (Nat.le_refl _) _).setCell (Nat.le_refl _) _
        · have H2 := hid (show scan (nums s) a = fault 6 a by rw [HS.out, if_neg h39, if_neg hd])
          clear h39
          go_enter Tryd.func9, Tryd.ntmps9
          go_wp2_with (first | (go_at_call 21; refine (value_any _ _ hc.1 hc.2).mono ?_; rintro e w' ⟨rfl, rfl⟩) | (go_at_call 19; refine (fails_any _ _ _).mono ?_; rintro e w2 ⟨rfl, hb2⟩; obtain ⟨hc2, hf2⟩ := bcell hb2; have hz2 : w.heap.size < w2.heap.size := by have := hb2.size; simp at this; omega))
          all_goals
            refine bodyPost_ret (v := R.val (fault 6 a)) (by simp [results, Tryd.results9, go_sem, hc2]) rfl ⟨by rw [H2.out], ?_⟩
            exact ((((Below.refl _ _).alloc (Nat.le_refl _) _).trans (hb2.mono (by simp))).setCell (Nat.le_refl _) _).setCell (Nat.le_refl _) _
end Go.Proofs.YtibhpfddjlnbmaaDoor
