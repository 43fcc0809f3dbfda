/-
  The document's Scan, whatever it is given.
-/
import Derived.Test.YtibhpfddjlnbmaaDoorRefScan
namespace Go.Proofs.YtibhpfddjlnbmaaDoor
open Go.RowKit

theorem rscan_word (s : ByteArray) (a : Nat) (w : World) (hs : s.size < 9223372036854775807) (ha : a < s.size) (h39 : (ch s a == 39) = false) (hd : dval (ch s a) < 10) :
    Calls Tryd.prog 10 #[.string s, .int .i64 a] w fun e w' => e = .returned (R.val (scanW (nums s) a)) ∧ Below w.heap.size w w' := by
  obtain ⟨E, f, t, b, n, wr, ab, hE, h1, h2, h3, h4, h5, h6, h7, h8, h9, h10, h11⟩ := word_at s a ha hd
  have hwl : (s.extract a E).size = E - a := size_extract _ _ _ h2
  have hft : f < t := by
    have := note_lt (s.extract a E) (by omega) (by rw [ch_extract s a E 0 (by omega)]; exact hd)
    rw [h4] at this
    exact this
  have er10 : rdig (ch s a) ≤ 9 := by have := rdig_eq (c := ch s a) (by omega); omega
  have h9' : dig b 95 0 false 0 (nums ((s.extract a E).extract f t)) = (n, ab, wr) := by rw [extract_extract s a E f t h8]; exact h9
  by_cases hw : 0 ≤ wr
  · have hx : numR f (n, ab, wr) = (0, 4, f + wr) := by unfold numR; rw [if_pos hw]
    have := rscan_bad s a E 0 4 (f + wr) w hs ha h39 er10 h1 h2 (hid hE) (by omega) (by decide) (hid fun w => number_exp h4 hft (by omega) h5 h6 h9' hx w (by omega))
    have e : scanW (nums s) a = (0, 0, 4, (f : Int) + wr + a) := by
      rw [h11, if_pos hw]
      show (0, 0, 4, (a : Int) + f + wr) = _
      rw [show (a : Int) + f + wr = f + wr + a by omega]
    rw [e]; exact this
  · cases ab
    · have hx : numR f (n, false, wr) = (wrap64 n, 0, 0) := by unfold numR; rw [if_neg hw]; rfl
      have := rscan_good s a E (wrap64 n) 0 0 w hs ha h39 er10 h1 h2 (hid hE) rfl (hid fun w => number_exp h4 hft (by omega) h5 h6 h9' hx w (by omega))
      have e : scanW (nums s) a = (wrap64 n, (E : Int), 0, 0) := by rw [h11, if_neg hw]; rfl
      rw [e]; exact this
    · have hx : numR f (n, true, wr) = (0, 5, 0) := by unfold numR; rw [if_neg hw]; rfl
      have := rscan_bad s a E 0 5 0 w hs ha h39 er10 h1 h2 (hid hE) (by omega) (by decide) (hid fun w => number_exp h4 hft (by omega) h5 h6 h9' hx w (by omega))
      have e : scanW (nums s) a = (0, 0, 5, (0 : Int) + a) := by
        rw [h11, if_neg hw]
        show (0, 0, 5, (a : Int)) = _
        rw [Int.zero_add]
      rw [e]; exact this

set_option maxHeartbeats 2000000 in
set_option maxRecDepth 100000 in
theorem rscan_any (s : ByteArray) (at_ : Int) (w : World) (hs : s.size < 9223372036854775807) :
    Calls Tryd.prog 10 #[.string s, .int .i64 at_] w fun e w' => e = .returned (R.val (scan (nums s) at_)) ∧ Below w.heap.size w w' := by
  have hb := get_ch s
  by_cases h0 : at_ < 0
  · have H2 := hid (show scan (nums s) at_ = fault 6 0 from scan_neg h0)
    go_enter Tryd.func10, Tryd.ntmps10
    go_wp2_with fail
    all_goals
      refine bodyPost_ret (v := R.val (fault 6 0)) (by simp [results, Tryd.results10, go_sem]) rfl ⟨by rw [H2.out], ?_⟩
      go_grown
  · by_cases h1 : (s.size : Int) ≤ at_
    · have H2 := hid (show scan (nums s) at_ = fault 6 at_ from scan_far (by omega) (by rw [nums_length]; exact h1))
      go_enter Tryd.func10, Tryd.ntmps10
      go_wp2_with fail
      all_goals
        refine bodyPost_ret (v := R.val (fault 6 at_)) (by simp [results, Tryd.results10, go_sem]) rfl ⟨by rw [H2.out], ?_⟩
        go_grown
    · obtain ⟨a, rfl⟩ := Int.eq_ofNat_of_zero_le (by omega : 0 ≤ at_)
      have ha : a < s.size := by omega
      have hc := ch_range s a
      have HS := hid (scan_in s a ha)
      clear h0 h1
      by_cases h39 : ch s a = 39
      · have H2 := hid (show scan (nums s) a = scanT (nums s) a by rw [HS.out, if_pos h39])
        go_enter Tryd.func10, Tryd.ntmps10
        go_wp2_with (go_at_call 23; refine (rtext_any _ _ _ hs ha).mono ?_; rintro e w2 ⟨rfl, hb2⟩; obtain ⟨hc2, hf2⟩ := bcell hb2; have hz2 : w.heap.size < w2.heap.size := by have := hb2.size; simp at this; omega)
        all_goals
          refine bodyPost_ret (v := R.val (scanT (nums s) a)) (by simp [results, Tryd.results10, go_sem, hc2]) rfl ⟨by rw [H2.out], ?_⟩
          exact ((((Below.refl _ _).alloc (Nat.le_refl _) _).trans (hb2.mono (by simp))).setCell (Nat.le_refl _) _).setCell (Nat.le_refl _) _
      · have e39 : (ch s a == 39) = false := by simp [h39]
        by_cases hd : dval (ch s a) < 10
        · have H2 : scan (nums s) a = scanW (nums s) a := by rw [HS.out, if_neg h39, if_pos hd]
          rw [H2]
          exact rscan_word s a w hs ha e39 hd
        · have H2 := hid (show scan (nums s) a = fault 6 a by rw [HS.out, if_neg h39, if_neg hd])
          have er : 9 < rdig (ch s a) := by
            have := (rdig_ge (b := 10) (ch s a) (by omega)).2 (by omega); omega
          clear h39 hd
          go_enter Tryd.func10, Tryd.ntmps10
          go_wp2_with (go_at_call 24; refine (rdigit_any _ _ hc.1 hc.2).mono ?_; rintro e w' ⟨rfl, rfl⟩)
          all_goals
            refine bodyPost_ret (v := R.val (fault 6 a)) (by simp [results, Tryd.results10, go_sem]) rfl ⟨by rw [H2.out], ?_⟩
            go_grown
end Go.Proofs.YtibhpfddjlnbmaaDoor
