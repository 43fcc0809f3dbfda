/-
  The document's Scan.
-/
import Derived.Test.YtibhpfddjlnbmaaDoorRefNum
import Derived.Test.YtibhpfddjlnbmaaDoorScanAny
namespace Go.Proofs.YtibhpfddjlnbmaaDoor
open Go.RowKit

set_option maxHeartbeats 2000000 in
set_option maxRecDepth 100000 in
theorem rtext_any (s : ByteArray) (a : Nat) (w : World) (hs : s.size < 9223372036854775807) (ha : a < s.size) :
    Calls Tryd.prog 23 #[.string s, .int .i64 a] w fun e w' => e = .returned (R.val (scanT (nums s) a)) ∧ Below w.heap.size w w' := by
  have hb := get_ch s
  go_enter Tryd.func23, Tryd.ntmps23
  go_wp2
  go_loop [7, 8] (fun n i => ∃ (k : Nat) (m : Int), a + 1 + k ≤ s.size ∧ i = .int .i64 ((a : Int) + 1 + k) ∧ n = .int .i64 m ∧ k ≤ 8 ∧ 0 ≤ m ∧ Hid (m < 2 ^ (8 * k)) ∧ m < 9223372036854775808 ∧ Hid (txt a s.size k m ((nums s).drop (a + 1 + k)) = scanT (nums s) a)) (fun _ i => s.size - (intOf i).toNat)
  case atStart => exact ⟨0, 0, by omega, rfl, rfl, by omega, by omega, hid (by decide), by omega, hid (by unfold scanT; rw [nums_length])⟩
  case round =>
    obtain ⟨k, m, hk, rfl, rfl, hk8, hm0, Hm, hm1, HR⟩ := hrel
    have hsub : (a : Int) + 1 + k - a = 1 + k := by omega
    have hsub2 : 1 + (k : Int) - 1 = k := by omega
    have hnat : ((a : Int) + 1 + k).toNat = a + 1 + k := by omega
    by_cases hlt : a + 1 + k < s.size
    · have hc := ch_range s (a + 1 + k)
      have HX := hid (drop_ch s (a + 1 + k) hlt)
      have HT := hid (show scanT (nums s) a = txt a s.size k m (ch s (a + 1 + k) :: (nums s).drop (a + 1 + k + 1)) by rw [← HR.out, HX.out])
      by_cases h39 : ch s (a + 1 + k) = 39
      · by_cases hk0 : 0 < k
        · have H2 := hid (show scanT (nums s) a = (m, (a : Int) + 1 + k + 1, 0, 0) by rw [HT.out, txt, if_pos ⟨h39, hk0⟩])
          have e0 : ((k : Int) == 0) = false := by simp; omega
          go_wp2_with fail
          refine bodyPost_ret (v := R.val (m, (a : Int) + 1 + k + 1, 0, 0)) (by simp [results, Tryd.results23, go_sem]) rfl ⟨by rw [H2.out], ?_⟩
          go_grown
        · have k0 : k = 0 := by omega
          subst k0
          have H2 := hid (show scanT (nums s) a = fault 4 ((a : Int) + 1) by rw [HT.out, txt, if_neg (by omega), if_pos (by omega)]; simp)
          go_wp2_with fail
          all_goals
            refine bodyPost_ret (v := R.val (fault 4 ((a : Int) + 1))) (by simp [results, Tryd.results23, go_sem]) rfl ⟨by rw [H2.out], ?_⟩
            go_grown
      · have e39 : (ch s (a + 1 + k) == 39) = false := by simp [h39]
        by_cases h32 : ch s (a + 1 + k) < 32
        · have H2 := hid (show scanT (nums s) a = fault 4 ((a : Int) + 1 + k) by rw [HT.out, txt, if_neg (by omega), if_pos (by omega)])
          go_wp2_with fail
          all_goals
            refine bodyPost_ret (v := R.val (fault 4 ((a : Int) + 1 + k))) (by simp [results, Tryd.results23, go_sem]) rfl ⟨by rw [H2.out], ?_⟩
            go_grown
        · by_cases h126 : 126 < ch s (a + 1 + k)
          · have H2 := hid (show scanT (nums s) a = fault 4 ((a : Int) + 1 + k) by rw [HT.out, txt, if_neg (by omega), if_pos (by omega)])
            go_wp2_with fail
            all_goals
              refine bodyPost_ret (v := R.val (fault 4 ((a : Int) + 1 + k))) (by simp [results, Tryd.results23, go_sem]) rfl ⟨by rw [H2.out], ?_⟩
              go_grown
          · by_cases h8 : k = 8
            · subst h8
              have H2 := hid (show scanT (nums s) a = fault 3 ((a : Int) + 1 + 8) by rw [HT.out, txt, if_neg (by omega), if_neg (by omega), if_pos rfl]; rfl)
              go_wp2_with fail
              all_goals
                refine bodyPost_ret (v := R.val (fault 3 ((a : Int) + 1 + 8))) (by simp [results, Tryd.results23, go_sem]) rfl ⟨by rw [H2.out], ?_⟩
                go_grown
            · have HS := txt_shift m (ch s (a + 1 + k)) k hm0 Hm.out (by omega) hc.1 (by omega)
              have HS1 := hid HS.1; have HS2 := hid HS.2
              have H2 := hid (show txt a s.size (k + 1) (wrap64 (m + ch s (a + 1 + k) * 2 ^ (8 * k))) ((nums s).drop (a + 1 + k + 1)) = scanT (nums s) a by
                rw [HT.out, txt, if_neg (by omega), if_neg (by omega), if_neg h8])
              have h8' : ((k : Int) == 8) = false := by simp; omega
              have hsh : (8 * (k : Int)).toNat = 8 * k := by omega
              clear HS hnat
              go_wp2_with fail
              go_round
              case rel => exact ⟨k + 1, _, by omega, by go_num, rfl, by omega, by rw [HS1.out, HS2.out.1]; exact HS2.out.2.1, hid (by rw [HS1.out, HS2.out.1]; exact HS2.out.2.2.1), by rw [HS1.out, HS2.out.1]; exact HS2.out.2.2.2, hid (by rw [HS1.out, show a + 1 + (k + 1) = a + 1 + k + 1 by omega]; exact H2.out)⟩
              case measure => simp [intOf]; omega
    · have H2 := hid (show scanT (nums s) a = fault 4 s.size by rw [← HR.out, List.drop_of_length_le (by rw [nums_length]; omega)]; rfl)
      go_wp2_with fail
      all_goals
        refine bodyPost_ret (v := R.val (fault 4 s.size)) (by simp [results, Tryd.results23, go_sem]) rfl ⟨by rw [H2.out], ?_⟩
        go_grown
theorem note_lt (s : ByteArray) (h : 1 ≤ s.size) (hd : dval (ch s 0) < 10) : (note (nums s)).2.1 < (note (nums s)).2.2 := by
  rw [note_bg]
  have h104 : ¬ dval 104 < 10 := by decide
  have h72 : ¬ dval 72 < 10 := by decide
  split
  · next hb => simp only [bg, Bool.and_eq_true, decide_eq_true_iff] at hb; exact hb.1.1
  · split
    · next hl =>
      simp only [Bool.or_eq_true, beq_iff_eq] at hl
      show 0 < s.size - 1
      rcases Nat.lt_or_ge 1 s.size with h1 | h1
      · omega
      · have : s.size - 1 = 0 := by omega
        rw [this] at hl
        rcases hl with hl | hl <;> rw [hl] at hd <;> contradiction
    · split
      · next hb => simp only [bg, Bool.and_eq_true, decide_eq_true_iff] at hb; exact hb.1.1
      · split
        · next hb => simp only [bg, Bool.and_eq_true, decide_eq_true_iff] at hb; exact hb.1.1
        · exact h
theorem number_exp {s : ByteArray} {b n wr : Int} {f t : Nat} {ab : Bool} {x er p : Int} (hn : note (nums s) = (b, f, t)) (hft : f < t) (hts : t ≤ s.size) (hb2 : 2 ≤ b) (hb16 : b ≤ 16) (hd : dig b 95 0 false 0 (nums (s.extract f t)) = (n, ab, wr))
    (hx : numR f (n, ab, wr) = (x, er, p)) (w : World) (hs : s.size < 9223372036854775807) :
    Calls Tryd.prog 26 #[.string s] w fun e w' => e = .returned (.tuple #[.int .i64 x, .agg #[.int .i64 er, .int .i64 p]]) ∧ Below w.heap.size w w' := by
  have := number_of hn hft hts hb2 hb16 hd w hs
  rw [hx] at this
  exact this
theorem extract_extract (s : ByteArray) (a E f t : Nat) (h : a + t ≤ E) : (s.extract a E).extract f t = s.extract (a + f) (a + t) := by
  apply nums_inj
  rw [nums_extract, nums_extract, nums_extract, List.drop_take, List.drop_take, List.drop_take, List.drop_take, List.take_take, List.drop_drop, show a + t - (a + f) = t - f by omega, Nat.min_eq_left (by omega)]

set_option maxHeartbeats 4000000 in
set_option maxRecDepth 100000 in
theorem rscan_bad (s : ByteArray) (a E : Nat) (x er p : Int) (w : World) (hs : s.size < 9223372036854775807) (ha : a < s.size) (h39 : (ch s a == 39) = false) (er10 : rdig (ch s a) ≤ 9) (h1 : a < E) (h2 : E ≤ s.size) (HE : Hid (a + run ((nums s).drop a) = E))
    (hp : -9223372036854775808 ≤ p + a ∧ p + a ≤ 9223372036854775807) (he : (er == 0) = false)
    (HNUM : Hid (∀ w, Calls Tryd.prog 26 #[.string (s.extract a E)] w fun e w' => e = .returned (.tuple #[.int .i64 x, .agg #[.int .i64 er, .int .i64 p]]) ∧ Below w.heap.size w w')) :
    Calls Tryd.prog 10 #[.string s, .int .i64 a] w fun e w' => e = .returned (R.val (0, 0, er, p + a)) ∧ Below w.heap.size w w' := by
  have y1 := slice_str s a E (by omega) h2
  have hb := get_ch s
  have hc := ch_range s a
  have HS : ∀ k, k < s.size → run ((nums s).drop k) = if isW (ch s k) then run ((nums s).drop (k + 1)) + 1 else 0 := fun k hk => by rw [drop_ch s k hk]; rfl
  have HSS := hid HS
  clear HS
  go_enter Tryd.func10, Tryd.ntmps10
  go_wp2_with (go_at_call 24; refine (rdigit_any _ _ hc.1 hc.2).mono ?_; rintro e w' ⟨rfl, rfl⟩)
  go_loop [7] (fun i => ∃ k : Nat, k ≤ s.size ∧ i = .int .i64 k ∧ Hid (k + run ((nums s).drop k) = E)) (fun i => s.size - (intOf i).toNat)
  case atStart => exact ⟨a, by omega, rfl, HE⟩
  case round =>
    obtain ⟨k, hk, rfl, HR⟩ := hrel
    have hck := ch_range s k
    by_cases hin : k < s.size ∧ isW (ch s k) = true
    · obtain ⟨hlt, hw⟩ := hin
      have H2 := hid (show run ((nums s).drop k) = run ((nums s).drop (k + 1)) + 1 by rw [HSS.out k hlt, if_pos hw])
      go_wp2_with (go_at_call 25; refine (rword_any _ _ hck.1 hck.2).mono ?_; rintro e w' ⟨rfl, rfl⟩)
      go_round
      case rel => exact ⟨k + 1, by omega, by go_num, hid (by have := HR.out; have := H2.out; omega)⟩
      case measure => simp [intOf]; omega
    · have hkE : k = E := by
        have := HR.out
        by_cases hlt : k < s.size
        · rw [HSS.out k hlt, if_neg (fun h => hin ⟨hlt, h⟩)] at this; omega
        · rw [List.drop_of_length_le (by rw [nums_length]; omega)] at this; simpa [run] using this
      subst hkE
      by_cases hlt : k < s.size
      · have hw : isW (ch s k) = false := by
          cases h : isW (ch s k)
          · rfl
          · exact absurd ⟨hlt, h⟩ hin
        clear hin
        go_wp2_with (first | (go_at_call 25; refine (rword_any _ _ hck.1 hck.2).mono ?_; rintro e w' ⟨rfl, rfl⟩) | (go_at_call 26; refine (HNUM.out _).mono ?_; rintro e w1 ⟨rfl, hb1⟩; obtain ⟨hc1, hf1⟩ := bcell hb1; have hz1 : w.heap.size < w1.heap.size := by have := hb1.size; simp at this; omega))
        go_region
        all_goals
          go_wp2
          refine bodyPost_ret (v := R.val (0, 0, er, p + a)) (by simp [results, Tryd.results10, go_sem, hc1, hz1]) rfl ⟨rfl, ?_⟩
          exact ((((((Below.refl _ _).alloc (Nat.le_refl _) _).trans (hb1.mono (by simp))).setCell (Nat.le_refl _) _).setCell (Nat.le_refl _) _).alloc (by have := Nat.le_of_lt hz1; simpa using this) _).drew
      · clear hin
        go_wp2_with (first | (go_at_call 25; refine (rword_any _ _ hck.1 hck.2).mono ?_; rintro e w' ⟨rfl, rfl⟩) | (go_at_call 26; refine (HNUM.out _).mono ?_; rintro e w1 ⟨rfl, hb1⟩; obtain ⟨hc1, hf1⟩ := bcell hb1; have hz1 : w.heap.size < w1.heap.size := by have := hb1.size; simp at this; omega))
        go_region
        all_goals
          go_wp2
          refine bodyPost_ret (v := R.val (0, 0, er, p + a)) (by simp [results, Tryd.results10, go_sem, hc1, hz1]) rfl ⟨rfl, ?_⟩
          exact ((((((Below.refl _ _).alloc (Nat.le_refl _) _).trans (hb1.mono (by simp))).setCell (Nat.le_refl _) _).setCell (Nat.le_refl _) _).alloc (by have := Nat.le_of_lt hz1; simpa using this) _).drew
set_option maxHeartbeats 4000000 in
set_option maxRecDepth 100000 in
theorem rscan_good (s : ByteArray) (a E : Nat) (x er p : Int) (w : World) (hs : s.size < 9223372036854775807) (ha : a < s.size) (h39 : (ch s a == 39) = false) (er10 : rdig (ch s a) ≤ 9) (h1 : a < E) (h2 : E ≤ s.size) (HE : Hid (a + run ((nums s).drop a) = E))
    (he : er = 0)
    (HNUM : Hid (∀ w, Calls Tryd.prog 26 #[.string (s.extract a E)] w fun e w' => e = .returned (.tuple #[.int .i64 x, .agg #[.int .i64 er, .int .i64 p]]) ∧ Below w.heap.size w w')) :
    Calls Tryd.prog 10 #[.string s, .int .i64 a] w fun e w' => e = .returned (R.val (x, (E : Int), 0, p)) ∧ Below w.heap.size w w' := by
  have y1 := slice_str s a E (by omega) h2
  have hb := get_ch s
  have hc := ch_range s a
  have HS : ∀ k, k < s.size → run ((nums s).drop k) = if isW (ch s k) then run ((nums s).drop (k + 1)) + 1 else 0 := fun k hk => by rw [drop_ch s k hk]; rfl
  have HSS := hid HS
  clear HS
  go_enter Tryd.func10, Tryd.ntmps10
  go_wp2_with (go_at_call 24; refine (rdigit_any _ _ hc.1 hc.2).mono ?_; rintro e w' ⟨rfl, rfl⟩)
  go_loop [7] (fun i => ∃ k : Nat, k ≤ s.size ∧ i = .int .i64 k ∧ Hid (k + run ((nums s).drop k) = E)) (fun i => s.size - (intOf i).toNat)
  case atStart => exact ⟨a, by omega, rfl, HE⟩
  case round =>
    obtain ⟨k, hk, rfl, HR⟩ := hrel
    have hck := ch_range s k
    by_cases hin : k < s.size ∧ isW (ch s k) = true
    · obtain ⟨hlt, hw⟩ := hin
      have H2 := hid (show run ((nums s).drop k) = run ((nums s).drop (k + 1)) + 1 by rw [HSS.out k hlt, if_pos hw])
      go_wp2_with (go_at_call 25; refine (rword_any _ _ hck.1 hck.2).mono ?_; rintro e w' ⟨rfl, rfl⟩)
      go_round
      case rel => exact ⟨k + 1, by omega, by go_num, hid (by have := HR.out; have := H2.out; omega)⟩
      case measure => simp [intOf]; omega
    · have hkE : k = E := by
        have := HR.out
        by_cases hlt : k < s.size
        · rw [HSS.out k hlt, if_neg (fun h => hin ⟨hlt, h⟩)] at this; omega
        · rw [List.drop_of_length_le (by rw [nums_length]; omega)] at this; simpa [run] using this
      subst hkE
      by_cases hlt : k < s.size
      · have hw : isW (ch s k) = false := by
          cases h : isW (ch s k)
          · rfl
          · exact absurd ⟨hlt, h⟩ hin
        clear hin
        go_wp2_with (first | (go_at_call 25; refine (rword_any _ _ hck.1 hck.2).mono ?_; rintro e w' ⟨rfl, rfl⟩) | (go_at_call 26; refine (HNUM.out _).mono ?_; rintro e w1 ⟨rfl, hb1⟩; obtain ⟨hc1, hf1⟩ := bcell hb1; have hz1 : w.heap.size < w1.heap.size := by have := hb1.size; simp at this; omega))
        go_region
        all_goals
          go_wp2
          refine bodyPost_ret (v := R.val (x, (k : Int), 0, p)) (by simp [results, Tryd.results10, go_sem, hc1, hz1]) rfl ⟨rfl, ?_⟩
          exact ((((((Below.refl _ _).alloc (Nat.le_refl _) _).trans (hb1.mono (by simp))).setCell (Nat.le_refl _) _).setCell (Nat.le_refl _) _).alloc (by have := Nat.le_of_lt hz1; simpa using this) _).drew
      · clear hin
        go_wp2_with (first | (go_at_call 25; refine (rword_any _ _ hck.1 hck.2).mono ?_; rintro e w' ⟨rfl, rfl⟩) | (go_at_call 26; refine (HNUM.out _).mono ?_; rintro e w1 ⟨rfl, hb1⟩; obtain ⟨hc1, hf1⟩ := bcell hb1; have hz1 : w.heap.size < w1.heap.size := by have := hb1.size; simp at this; omega))
        go_region
        all_goals
          go_wp2
          refine bodyPost_ret (v := R.val (x, (k : Int), 0, p)) (by simp [results, Tryd.results10, go_sem, hc1, hz1]) rfl ⟨rfl, ?_⟩
          exact ((((((Below.refl _ _).alloc (Nat.le_refl _) _).trans (hb1.mono (by simp))).setCell (Nat.le_refl _) _).setCell (Nat.le_refl _) _).alloc (by have := Nat.le_of_lt hz1; simpa using this) _).drew
end Go.Proofs.YtibhpfddjlnbmaaDoor
