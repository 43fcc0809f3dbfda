/-
  The literal of a text, and Scan.
-/
import Derived.Test.YtibhpfddjlnbmaaDoorScan
namespace Go.Proofs.YtibhpfddjlnbmaaDoor
open Go.RowKit

theorem txt_shift (n c : Int) (k : Nat) (h0 : 0 ≤ n) (h1 : n < 2 ^ (8 * k)) (hk : k < 8) (hc : 0 ≤ c) (hc2 : c ≤ 126) :
    bits .or .i64 n (wrap64 (c * 2 ^ (8 * k))) = wrap64 (n + c * 2 ^ (8 * k)) ∧ wrap64 (n + c * 2 ^ (8 * k)) = n + c * 2 ^ (8 * k) ∧ 0 ≤ n + c * 2 ^ (8 * k) ∧ n + c * 2 ^ (8 * k) < 2 ^ (8 * (k + 1)) ∧ n + c * 2 ^ (8 * k) < 9223372036854775808 := by
  have hp : (0 : Int) < 2 ^ (8 * k) := Int.pow_pos (by decide)
  have e8 : (2 : Int) ^ (8 * (k + 1)) = 2 ^ (8 * k) * 256 := by rw [show 8 * (k + 1) = 8 * k + 8 by omega, Int.pow_add]; rfl
  have h56 := pow_le (8 * k) 56 (by omega)
  have e56 : (2 : Int) ^ 56 = 72057594037927936 := rfl
  have hm : c * 2 ^ (8 * k) ≤ 126 * 2 ^ (8 * k) := Int.mul_le_mul_of_nonneg_right hc2 (by omega)
  have hm0 : 0 ≤ c * 2 ^ (8 * k) := Int.mul_nonneg hc (by omega)
  refine ⟨or_shift n c (8 * k) h0 h1 (by omega), IntWalk.wrap64_in _ ⟨by omega, by omega⟩, by omega, by rw [e8]; omega, by omega⟩

set_option maxHeartbeats 2000000 in
set_option maxRecDepth 100000 in
theorem scanText_any (s : ByteArray) (a : Nat) (w : World) (hs : s.size < 9223372036854775807) (ha : a < s.size) :
    Calls Tryd.prog 20 #[.string s, .int .i64 a] w fun e w' => e = .returned (R.val (scanT (nums s) a)) ∧ Below w.heap.size w w' := by
  have hb := get_ch s
  go_enter Tryd.func20, Tryd.ntmps20
  go_wp2
  go_loop [8, 9] (fun n i => ∃ (k : Nat) (m : Int), a + 1 + k ≤ s.size ∧ i = .int .i64 ((a : Int) + 1 + k) ∧ n = .int .i64 m ∧ k ≤ 8 ∧ 0 ≤ m ∧ Hid (m < 2 ^ (8 * k)) ∧ m < 9223372036854775808 ∧ Hid (txt a s.size k m ((nums s).drop (a + 1 + k)) = scanT (nums s) a)) (fun _ i => s.size - (intOf i).toNat)
  case atStart => exact ⟨0, 0, by omega, rfl, rfl, by omega, by omega, hid (by decide), by omega, hid (by unfold scanT; rw [nums_length])⟩
  case round =>
    obtain ⟨k, m, hk, rfl, rfl, hk8, hm0, Hm, hm1, HR⟩ := hrel
    have hsub : (a : Int) + 1 + k - ((a : Int) + 1) = k := by omega
    have hnat : ((a : Int) + 1 + k).toNat = a + 1 + k := by omega
    by_cases hlt : a + 1 + k < s.size
    · have hc := ch_range s (a + 1 + k)
      have HX := hid (drop_ch s (a + 1 + k) hlt)
      have HT := hid (show scanT (nums s) a = txt a s.size k m (ch s (a + 1 + k) :: (nums s).drop (a + 1 + k + 1)) by rw [← HR.out, HX.out])
      by_cases h39 : ch s (a + 1 + k) = 39
      · by_cases hk0 : 0 < k
        · have H2 := hid (show scanT (nums s) a = (m, (a : Int) + 1 + k + 1, 0, 0) by rw [HT.out, txt, if_pos ⟨h39, hk0⟩])
          go_wp2_with fail
          refine bodyPost_ret (v := R.val (m, (a : Int) + 1 + k + 1, 0, 0)) (by simp [results, Tryd.results20, go_sem]) rfl ⟨by rw [H2.out], ?_⟩
          go_grown
        · have k0 : k = 0 := by omega
          subst k0
          have H2 := hid (show scanT (nums s) a = fault 4 ((a : Int) + 1) by rw [HT.out, txt, if_neg (by omega), if_pos (by omega)]; simp)
          skip
          go_wp2_with (go_at_call 19; refine (fails_any _ _ _).mono ?_; rintro e w2 ⟨rfl, hb2⟩; obtain ⟨hc2, hf2⟩ := bcell hb2; have hz2 : w.heap.size < w2.heap.size := by have := hb2.size; simp at this; omega)
          all_goals
            refine bodyPost_ret (v := R.val (fault 4 ((a : Int) + 1))) (by simp [results, Tryd.results20, go_sem, hc2]) rfl ⟨by rw [H2.out], ?_⟩
            exact ((((Below.refl _ _).alloc (Nat.le_refl _) _).trans (hb2.mono (by simp))).setCell (Nat.le_refl _) _).setCell (Nat.le_refl _) _
      · have e39 : (ch s (a + 1 + k) == 39) = false := by simp [h39]
        by_cases h32 : ch s (a + 1 + k) < 32
        · have H2 := hid (show scanT (nums s) a = fault 4 ((a : Int) + 1 + k) by rw [HT.out, txt, if_neg (by omega), if_pos (by omega)])
          skip
          go_wp2_with (go_at_call 19; refine (fails_any _ _ _).mono ?_; rintro e w2 ⟨rfl, hb2⟩; obtain ⟨hc2, hf2⟩ := bcell hb2; have hz2 : w.heap.size < w2.heap.size := by have := hb2.size; simp at this; omega)
          all_goals
            refine bodyPost_ret (v := R.val (fault 4 ((a : Int) + 1 + k))) (by simp [results, Tryd.results20, go_sem, hc2]) rfl ⟨by rw [H2.out], ?_⟩
            exact ((((Below.refl _ _).alloc (Nat.le_refl _) _).trans (hb2.mono (by simp))).setCell (Nat.le_refl _) _).setCell (Nat.le_refl _) _
        · by_cases h126 : 126 < ch s (a + 1 + k)
          · have H2 := hid (show scanT (nums s) a = fault 4 ((a : Int) + 1 + k) by rw [HT.out, txt, if_neg (by omega), if_pos (by omega)])
            skip
            go_wp2_with (go_at_call 19; refine (fails_any _ _ _).mono ?_; rintro e w2 ⟨rfl, hb2⟩; obtain ⟨hc2, hf2⟩ := bcell hb2; have hz2 : w.heap.size < w2.heap.size := by have := hb2.size; simp at this; omega)
            all_goals
              refine bodyPost_ret (v := R.val (fault 4 ((a : Int) + 1 + k))) (by simp [results, Tryd.results20, go_sem, hc2]) rfl ⟨by rw [H2.out], ?_⟩
              exact ((((Below.refl _ _).alloc (Nat.le_refl _) _).trans (hb2.mono (by simp))).setCell (Nat.le_refl _) _).setCell (Nat.le_refl _) _
          · by_cases h8 : k = 8
            · subst h8
              have H2 := hid (show scanT (nums s) a = fault 3 ((a : Int) + 1 + 8) by rw [HT.out, txt, if_neg (by omega), if_neg (by omega), if_pos rfl]; rfl)
              skip
              go_wp2_with (go_at_call 19; refine (fails_any _ _ _).mono ?_; rintro e w2 ⟨rfl, hb2⟩; obtain ⟨hc2, hf2⟩ := bcell hb2; have hz2 : w.heap.size < w2.heap.size := by have := hb2.size; simp at this; omega)
              all_goals
                refine bodyPost_ret (v := R.val (fault 3 ((a : Int) + 1 + 8))) (by simp [results, Tryd.results20, go_sem, hc2]) rfl ⟨by rw [H2.out], ?_⟩
                exact ((((Below.refl _ _).alloc (Nat.le_refl _) _).trans (hb2.mono (by simp))).setCell (Nat.le_refl _) _).setCell (Nat.le_refl _) _
            · have HS := txt_shift m (ch s (a + 1 + k)) k hm0 Hm.out (by omega) hc.1 (by omega)
              have HS1 := hid HS.1; have HS2 := hid HS.2
              have H2 := hid (show txt a s.size (k + 1) (wrap64 (m + ch s (a + 1 + k) * 2 ^ (8 * k))) ((nums s).drop (a + 1 + k + 1)) = scanT (nums s) a by
                rw [HT.out, txt, if_neg (by omega), if_neg (by omega), if_neg h8])
              have h8' : ((k : Int) == 8) = false := by simp; omega
              have hsh : (8 * (k : Int)).toNat = 8 * k := by omega
              clear HS hnat
              go_wp2_with fail
              go_round
              case rel => exact ⟨k + 1, _, by omega, by go_num, rfl, by omega, by rw [HS1.out, HS2.out.1]; exact HS2.out.2.1, hid (by rw [HS1.out, HS2.out.1]; exact HS2.out.2.2.1), by rw [HS1.out, HS2.out.1]; exact HS2.out.2.2.2, hid (by rw [HS1.out, show a + 1 + (k + 1) = a + 1 + k + 1 by omega]; exact H2.out)⟩
              case measure => simp [intOf]; omega
    · have H2 := hid (show scanT (nums s) a = fault 4 s.size by rw [← HR.out, List.drop_of_length_le (by rw [nums_length]; omega)]; rfl)
      go_wp2_with (go_at_call 19; refine (fails_any _ _ _).mono ?_; rintro e w2 ⟨rfl, hb2⟩; obtain ⟨hc2, hf2⟩ := bcell hb2; have hz2 : w.heap.size < w2.heap.size := by have := hb2.size; simp at this; omega)
      all_goals
        refine bodyPost_ret (v := R.val (fault 4 s.size)) (by simp [results, Tryd.results20, go_sem, hc2]) rfl ⟨by rw [H2.out], ?_⟩
        exact ((((Below.refl _ _).alloc (Nat.le_refl _) _).trans (hb2.mono (by simp))).setCell (Nat.le_refl _) _).setCell (Nat.le_refl _) _
end Go.Proofs.YtibhpfddjlnbmaaDoor
