/-
  FieldBack: the walk of the law.
-/
import Derived.Test.YtlmhiokfkelflaaAwake
import Derived.Test.YtlmhiokfkelflaaBackPlain
import Derived.Deep.RegionWith
namespace Go.Proofs.Ytlmhiokfkelflaa
open Go.RowKit
/-- A list that is too long: nothing is asked. -/
theorem back_long (n which : Int) (A : Option Addr) (c : Nat) (xs : List Int) (w : World) (hl : 50 < xs.length) :
    Calls Try.prog 5 #[.int .i64 n, .int .i64 which, .slice A xs.length c] w fun e w' => e = .returned (.bool true) ∧ Below w.heap.size w w' := by
  go_enter Try.func5, Try.ntmps5
  go_wp2_with fail
  refine (awake_any w).mono ?_
  rintro e w1 ⟨rfl, hb1⟩
  have HB := hid hb1
  clear hb1
  go_wp2_with fail
  go_ret
  exact ⟨rfl, HB.out⟩

set_option maxRecDepth 100000 in
set_option maxHeartbeats 4000000 in
/-- Not wide, and too few bytes came in. -/
theorem back_no_cut (n which : Int) (A : Option Addr) (c : Nat) (xs : List Int) (w : World) (hn : I64 n) (hx : Mem w w.heap.size A xs) (hl : xs.length ≤ 50) (s : Nat) (hs : sizeOk s = true) (hsz : wrap64 (2 ^ (which % 4).toNat) = (s : Int))
    (hwd : wideB n (8 * s) = false) (hcut : xs.length < s) :
    Calls Try.prog 5 #[.int .i64 n, .int .i64 which, .slice A xs.length c] w fun e w' => e = .returned (.bool true) ∧ Below w.heap.size w w' := by
  have HN := hid hn
  have HX := hid hx
  have hs8 := size_le hs
  have hE : putE n s = 5 := by unfold putE; rw [if_pos hs, hwd]; rfl
  have hG : getE xs 0 s = 9 := by unfold getE; rw [if_neg (by rw [hs]; simp), if_neg (by omega), if_pos (by omega)]
  have hl' : xs.length ≤ 9223372036854775807 := by omega
  clear hn hx hs
  go_enter Try.func5, Try.ntmps5
  go_wp2_with fail
  refine (awake_any w).mono ?_
  rintro e w1 ⟨rfl, hb1⟩
  have HB1 := hid hb1
  clear hb1
  go_wp2_with (go_at_call 30; refine (pick_any _ _ _ (by omega) (by unfold I64; omega)).mono ?_; rintro e w' ⟨rfl, rfl⟩)
  refine (put_any _ _ _ HN.out).mono ?_
  rintro e w2 ⟨A2, s2, rfl, hb2, hc⟩
  have HB2 := hid hb2
  clear hb2 hc
  go_wp2_with (first | (go_at_call 18; refine (wide_any _ _ _ HN.out).mono ?_; rintro e w' ⟨rfl, rfl⟩) | (go_at_call 11; refine (get_any _ _ _ _ _ _ _ _ ((HX.out.below HB1.out).below (HB2.out.mono HB1.out.size)) hl' (by unfold I64; omega)).mono ?_; rintro e w' ⟨rfl, rfl⟩))
  go_ret
  exact ⟨rfl, HB1.out.trans (HB2.out.mono HB1.out.size)⟩
set_option maxRecDepth 100000 in
set_option maxHeartbeats 4000000 in
/-- Not wide, and bytes enough came in. -/
theorem back_no (n which : Int) (A : Option Addr) (c : Nat) (xs : List Int) (w : World) (hn : I64 n) (hx : Mem w w.heap.size A xs) (hl : xs.length ≤ 50) (hlc : xs.length ≤ c) (s : Nat) (hs : sizeOk s = true) (hsz : wrap64 (2 ^ (which % 4).toNat) = (s : Int))
    (hwd : wideB n (8 * s) = false) (hcut : ¬xs.length < s) :
    Calls Try.prog 5 #[.int .i64 n, .int .i64 which, .slice A xs.length c] w fun e w' => e = .returned (.bool true) ∧ Below w.heap.size w w' := by
  have HN := hid hn
  have HX := hid hx
  have hs8 := size_le hs
  have hE : putE n s = 5 := by unfold putE; rw [if_pos hs, hwd]; rfl
  have hG : getE xs 0 s = 0 := getE_ok xs 0 s hs (by omega)
  have hN : getN xs 0 s true = sgn (numAt xs 0 s) (8 * s) := by have := getN_ok xs 0 s true hs (by omega); simpa using this
  have hP : putE (sgn (numAt xs 0 s) (8 * s)) s = 0 := by unfold putE; rw [if_pos hs, got_wide _ _ (by omega) (by omega)]; rfl
  have HG := hid (got_put xs hx.1 s (by omega) (by omega) (by omega))
  have HI := hid (sgn_I64 (numAt xs 0 s) (8 * s))
  have hl' : xs.length ≤ 9223372036854775807 := by omega
  have hsl : (s : Int) ≤ (xs.length : Int) := by omega
  have hsl2 : s ≤ xs.length := by omega
  clear hn hx hs
  go_enter Try.func5, Try.ntmps5
  go_wp2_with fail
  refine (awake_any w).mono ?_
  rintro e w1 ⟨rfl, hb1⟩
  have HB1 := hid hb1
  clear hb1
  go_wp2_with (go_at_call 30; refine (pick_any _ _ _ (by omega) (by unfold I64; omega)).mono ?_; rintro e w' ⟨rfl, rfl⟩)
  refine (put_any _ _ _ HN.out).mono ?_
  rintro e w2 ⟨A2, s2, rfl, hb2, hc⟩
  have HB2 := hid hb2
  clear hb2 hc
  go_wp2_with (first | (go_at_call 18; refine (wide_any _ _ _ HN.out).mono ?_; rintro e w' ⟨rfl, rfl⟩) | (go_at_call 11; refine (get_any _ _ _ _ _ _ _ _ ((HX.out.below HB1.out).below (HB2.out.mono HB1.out.size)) hl' (by unfold I64; omega)).mono ?_; rintro e w' ⟨rfl, rfl⟩))
  refine (put_any _ _ _ HI.out).mono ?_
  rintro e w3 ⟨A3, s3, rfl, hb3, hc⟩
  have HB3 := hid hb3
  have HC3 := hid hc
  clear hb3 hc
  have hsc : (s : Int) ≤ (c : Int) := by omega
  go_wp2_with fail
  obtain ⟨ys, hys, hyl, hyx⟩ : ∃ ys, Mem w3 w3.heap.size A3 ys ∧ ys.length = s3 ∧ ys = xs.take s := by
    rcases HC3.out with ⟨e0, es, rfl, hk⟩ | ⟨e0, _⟩
    · have : s3 = s := by omega
      subst this
      exact ⟨_, hk.mem (bytesOf_range _ _) hk.lt, bytesOf_length _ _, HG.out⟩
    · exact absurd hP e0
  have hB3 := HB2.out.size
  have hB1 := HB1.out.size
  have HM := hid ((((HX.out.below HB1.out).below (HB2.out.mono HB1.out.size)).below (HB3.out.mono (by omega))).take s)
  have hts : (xs.take s).length = s := by rw [List.length_take]; omega
  refine (same_of _ _ _ _ _ _ ys (xs.take s) _ ⟨_, hys⟩ ⟨_, HM.out⟩ hyl hts).mono ?_
  rintro e w4 ⟨rfl, rfl⟩
  have HY := hid hyx
  clear hys hyl hyx hts
  go_wp2
  go_ret
  exact ⟨ret_b (by simp [HY.out]), (HB1.out.trans (HB2.out.mono HB1.out.size)).trans (HB3.out.mono (by omega))⟩

set_option maxRecDepth 100000 in
set_option maxHeartbeats 4000000 in
/-- Wide, and too few bytes came in. -/
theorem back_yes_cut (n which : Int) (A : Option Addr) (c : Nat) (xs : List Int) (w : World) (hn : I64 n) (hx : Mem w w.heap.size A xs) (hl : xs.length ≤ 50) (s : Nat) (hs : sizeOk s = true) (hsz : wrap64 (2 ^ (which % 4).toNat) = (s : Int))
    (hwd : wideB n (8 * s) = true) (hcut : xs.length < s) :
    Calls Try.prog 5 #[.int .i64 n, .int .i64 which, .slice A xs.length c] w fun e w' => e = .returned (.bool true) ∧ Below w.heap.size w w' := by
  have HN := hid hn
  have HX := hid hx
  have hs8 := size_le hs
  have hE : putE n s = 0 := by unfold putE; rw [if_pos hs, hwd]; rfl
  have hG : getE xs 0 s = 9 := by unfold getE; rw [if_neg (by rw [hs]; simp), if_neg (by omega), if_pos (by omega)]
  have hl' : xs.length ≤ 9223372036854775807 := by omega
  have hll : xs.length + s ≤ 9223372036854775807 := by omega
  have HLL := hid (show (xs ++ bytesOf n s).length = xs.length + s by rw [List.length_append, bytesOf_length])
  obtain ⟨g1, g2, g3⟩ := back_get hn xs s hs
  have hways := wide_ways hn s hs hwd
  clear hn hx hs
  rcases hways with ⟨k1, k2, k3, k4⟩ | ⟨k1, k2, k3⟩ | ⟨k1, k2, k3, k4⟩
  all_goals
    go_enter Try.func5, Try.ntmps5
    go_wp2_with fail
    refine (awake_any w).mono ?_
    rintro e w1 ⟨rfl, hb1⟩
    have HB1 := hid hb1
    clear hb1
    go_wp2_with (go_at_call 30; refine (pick_any _ _ _ (by omega) (by unfold I64; omega)).mono ?_; rintro e w' ⟨rfl, rfl⟩)
    refine (put_any _ _ _ HN.out).mono ?_
    rintro e w2 ⟨A2, s2, rfl, hb2, hc⟩
    obtain ⟨es, rfl, hk2⟩ : s2 = s ∧ A2 = some ⟨w1.heap.size, 0, none⟩ ∧ Blk w2 w1.heap.size 5 (bytesOf n s) := by
      rcases hc with ⟨_, es, rfl, hk⟩ | ⟨e0, _⟩
      · have : s2 = s := by omega
        subst this
        exact ⟨rfl, rfl, hk⟩
      · exact absurd hE e0
    subst es
    have HB2 := hid (HB1.out.trans (hb2.mono HB1.out.size))
    have HK2 := hid hk2
    have HZ2 := hid (show w1.heap.size < w2.heap.size from hk2.lt)
    clear hb2 hc hk2
    go_wp2_with (go_at_call 18; refine (wide_any _ _ _ HN.out).mono ?_; rintro e w' ⟨rfl, rfl⟩)
    refine (copy_any _ _ xs w2 _ (HX.out.below HB2.out) (by omega) HB2.out.size).mono ?_
    rintro e w3 ⟨v, rfl, hb3, hown⟩
    have HB3 := hid hb3
    have HO := hid hown
    clear hb3 hown
    go_wp2_with (at_builtin; refine wpList_append_bytes rfl _ _ rfl w2.heap.size _ xs.length xs rfl HO.out (some ⟨w1.heap.size, 0, none⟩) s2 s2 w2.heap.size (bytesOf n s2) ?c0 rfl ?c1 ?c2 ?c3 ?_)
    case c0 => exact bytesOf_length _ _
    case c1 => exact ((HK2.out.mem (bytesOf_range _ _) HZ2.out).below HB3.out)
    case c2 => omega
    case c3 => exact HB3.out.size
    intro v4 w4 hown4 hgrow4
    have HB4 := hid (HB2.out.trans ((HB3.out.trans ((Below.refl w2.heap.size w3).grown hgrow4 HB3.out.size (fun k hk => (HO.out.lt k hk).1))).mono HB2.out.size))
    have HM4 := hid (own_mem_any hown4.out (HX.out.1.append (bytesOf_range n s2)))
    obtain ⟨A4, c4, rfl⟩ := own_form hown4.out
    clear hgrow4 hown4
    have HX4 := hid (HX.out.below HB4.out)
    go_wp2_with (first | (go_at_call_of 11 A4; refine (get_of A4 _ _ _ _ _ _ _ HLL.out ?_ hll (by unfold I64; omega)).mono ?_; exact HM4.out _ _ rfl; rintro e w' ⟨rfl, rfl⟩) | (go_at_call_of 11 A; refine (get_any _ _ _ _ _ _ _ _ HX4.out hl' (by unfold I64; omega)).mono ?_; rintro e w' ⟨rfl, rfl⟩) | (go_at_call 16; refine (fits_any _ _ _).mono ?_; rintro e w' ⟨rfl, rfl⟩))
    go_ret
    exact ⟨rfl, HB4.out⟩

set_option maxRecDepth 100000 in
set_option maxHeartbeats 4000000 in
/-- Wide, and bytes enough came in. -/
theorem back_yes (n which : Int) (A : Option Addr) (c : Nat) (xs : List Int) (w : World) (hn : I64 n) (hx : Mem w w.heap.size A xs) (hl : xs.length ≤ 50) (hlc : xs.length ≤ c) (s : Nat) (hs : sizeOk s = true) (hsz : wrap64 (2 ^ (which % 4).toNat) = (s : Int))
    (hwd : wideB n (8 * s) = true) (hcut : ¬xs.length < s) :
    Calls Try.prog 5 #[.int .i64 n, .int .i64 which, .slice A xs.length c] w fun e w' => e = .returned (.bool true) ∧ Below w.heap.size w w' := by
  have HN := hid hn
  have HX := hid hx
  have hs8 := size_le hs
  have hE : putE n s = 0 := by unfold putE; rw [if_pos hs, hwd]; rfl
  have hG : getE xs 0 s = 0 := getE_ok xs 0 s hs (by omega)
  have hN : getN xs 0 s true = sgn (numAt xs 0 s) (8 * s) := by have := getN_ok xs 0 s true hs (by omega); simpa using this
  have hP : putE (sgn (numAt xs 0 s) (8 * s)) s = 0 := by unfold putE; rw [if_pos hs, got_wide _ _ (by omega) (by omega)]; rfl
  have HG := hid (got_put xs hx.1 s (by omega) (by omega) (by omega))
  have HI := hid (sgn_I64 (numAt xs 0 s) (8 * s))
  have hsl : (s : Int) ≤ (xs.length : Int) := by omega
  have hsl2 : s ≤ xs.length := by omega
  have hsc : (s : Int) ≤ (c : Int) := by omega
  have hl' : xs.length ≤ 9223372036854775807 := by omega
  have hll : xs.length + s ≤ 9223372036854775807 := by omega
  have HLL := hid (show (xs ++ bytesOf n s).length = xs.length + s by rw [List.length_append, bytesOf_length])
  obtain ⟨g1, g2, g3⟩ := back_get hn xs s hs
  have hways := wide_ways hn s hs hwd
  clear hn hx hs
  rcases hways with ⟨k1, k2, k3, k4⟩ | ⟨k1, k2, k3⟩ | ⟨k1, k2, k3, k4⟩
  all_goals
    go_enter Try.func5, Try.ntmps5
    go_wp2_with fail
    refine (awake_any w).mono ?_
    rintro e w1 ⟨rfl, hb1⟩
    have HB1 := hid hb1
    clear hb1
    go_wp2_with (go_at_call 30; refine (pick_any _ _ _ (by omega) (by unfold I64; omega)).mono ?_; rintro e w' ⟨rfl, rfl⟩)
    refine (put_any _ _ _ HN.out).mono ?_
    rintro e w2 ⟨A2, s2, rfl, hb2, hc⟩
    obtain ⟨es, rfl, hk2⟩ : s2 = s ∧ A2 = some ⟨w1.heap.size, 0, none⟩ ∧ Blk w2 w1.heap.size 5 (bytesOf n s) := by
      rcases hc with ⟨_, es, rfl, hk⟩ | ⟨e0, _⟩
      · have : s2 = s := by omega
        subst this
        exact ⟨rfl, rfl, hk⟩
      · exact absurd hE e0
    subst es
    have HB2 := hid (HB1.out.trans (hb2.mono HB1.out.size))
    have HK2 := hid hk2
    have HZ2 := hid (show w1.heap.size < w2.heap.size from hk2.lt)
    clear hb2 hc hk2
    go_wp2_with (go_at_call 18; refine (wide_any _ _ _ HN.out).mono ?_; rintro e w' ⟨rfl, rfl⟩)
    refine (copy_any _ _ xs w2 _ (HX.out.below HB2.out) (by omega) HB2.out.size).mono ?_
    rintro e w3 ⟨v, rfl, hb3, hown⟩
    have HB3 := hid hb3
    have HO := hid hown
    clear hb3 hown
    go_wp2_with (at_builtin; refine wpList_append_bytes rfl _ _ rfl w2.heap.size _ xs.length xs rfl HO.out (some ⟨w1.heap.size, 0, none⟩) s2 s2 w2.heap.size (bytesOf n s2) ?c0 rfl ?c1 ?c2 ?c3 ?_)
    case c0 => exact bytesOf_length _ _
    case c1 => exact ((HK2.out.mem (bytesOf_range _ _) HZ2.out).below HB3.out)
    case c2 => omega
    case c3 => exact HB3.out.size
    intro v4 w4 hown4 hgrow4
    have HB4 := hid (HB2.out.trans ((HB3.out.trans ((Below.refl w2.heap.size w3).grown hgrow4 HB3.out.size (fun k hk => (HO.out.lt k hk).1))).mono HB2.out.size))
    have HM4 := hid (own_mem_any hown4.out (HX.out.1.append (bytesOf_range n s2)))
    obtain ⟨A4, c4, rfl⟩ := own_form hown4.out
    clear hgrow4 hown4
    have HX4 := hid (HX.out.below HB4.out)
    go_wp2_with (first | (go_at_call_of 11 A4; refine (get_of A4 _ _ _ _ _ _ _ HLL.out ?_ hll (by unfold I64; omega)).mono ?_; exact HM4.out _ _ rfl; rintro e w' ⟨rfl, rfl⟩) | (go_at_call_of 11 A; refine (get_any _ _ _ _ _ _ _ _ HX4.out hl' (by unfold I64; omega)).mono ?_; rintro e w' ⟨rfl, rfl⟩) | (go_at_call 16; refine (fits_any _ _ _).mono ?_; rintro e w' ⟨rfl, rfl⟩))
    refine (put_any _ _ _ HI.out).mono ?_
    rintro e w5 ⟨A5, s5, rfl, hb5, hc⟩
    have HB5 := hid (HB4.out.trans (hb5.mono HB4.out.size))
    have HC5 := hid hc
    clear hb5 hc
    go_wp2_with fail
    obtain ⟨ys, hys, hyl, hyx⟩ : ∃ ys, Mem w5 w5.heap.size A5 ys ∧ ys.length = s5 ∧ ys = xs.take s2 := by
      rcases HC5.out with ⟨e0, es, rfl, hk⟩ | ⟨e0, _⟩
      · have : s5 = s2 := by omega
        subst this
        exact ⟨_, hk.mem (bytesOf_range _ _) hk.lt, bytesOf_length _ _, HG.out⟩
      · exact absurd hP e0
    have HM := hid ((HX.out.below HB5.out).take s2)
    have hts : (xs.take s2).length = s2 := by rw [List.length_take]; omega
    refine (same_of _ _ _ _ _ _ ys (xs.take s2) _ ⟨_, hys⟩ ⟨_, HM.out⟩ hyl hts).mono ?_
    rintro e w6 ⟨rfl, rfl⟩
    have HY := hid hyx
    clear hys hyl hyx hts
    go_wp2
    go_ret
    exact ⟨ret_b (by simp [HY.out]), HB5.out⟩

theorem size_of (which : Int) : ∃ s : Nat, sizeOk s = true ∧ wrap64 (2 ^ (which % 4).toNat) = (s : Int) := by
  have h0 := Int.emod_nonneg which (by decide : (4 : Int) ≠ 0)
  have h1 := Int.emod_lt_of_pos which (by decide : (0 : Int) < 4)
  have h : which % 4 = 0 ∨ which % 4 = 1 ∨ which % 4 = 2 ∨ which % 4 = 3 := by omega
  rcases h with h | h | h | h
  · exact ⟨1, by decide, by rw [h]; decide +kernel⟩
  · exact ⟨2, by decide, by rw [h]; decide +kernel⟩
  · exact ⟨4, by decide, by rw [h]; decide +kernel⟩
  · exact ⟨8, by decide, by rw [h]; decide +kernel⟩
theorem back_law (n which : Int) (A : Option Addr) (c : Nat) (xs : List Int) (w : World) (hn : I64 n) (_ : I64 which) (hx : Mem w w.heap.size A xs) (hlc : xs.length ≤ c) (_ : c ≤ 9223372036854775807) :
    Calls Try.prog 5 #[.int .i64 n, .int .i64 which, .slice A xs.length c] w fun e w' => e = .returned (.bool true) ∧ Below w.heap.size w w' := by
  by_cases hl : xs.length ≤ 50
  · obtain ⟨s, hs, hsz⟩ := size_of which
    cases hwd : wideB n (8 * s)
    · by_cases hcut : xs.length < s
      · exact back_no_cut n which A c xs w hn hx hl s hs hsz hwd hcut
      · exact back_no n which A c xs w hn hx hl hlc s hs hsz hwd hcut
    · by_cases hcut : xs.length < s
      · exact back_yes_cut n which A c xs w hn hx hl s hs hsz hwd hcut
      · exact back_yes n which A c xs w hn hx hl hlc s hs hsz hwd hcut
  · exact back_long n which A c xs w (by omega)
end Go.Proofs.Ytlmhiokfkelflaa
