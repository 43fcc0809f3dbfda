/-
  The document's number of a word.
-/
import Derived.Test.YtibhpfddjlnbmaaDoorRefNote
namespace Go.Proofs.YtibhpfddjlnbmaaDoor
open Go.RowKit

def numR (f : Nat) (d : Int × Bool × Int) : Int × Int × Int := if 0 ≤ d.2.2 then (0, 4, f + d.2.2) else if d.2.1 then (0, 5, 0) else (wrap64 d.1, 0, 0)
theorem dval_95 : dval 95 = 16 := by decide
set_option maxHeartbeats 4000000 in
set_option maxRecDepth 100000 in
theorem number_of {s : ByteArray} {b n wr : Int} {f t : Nat} {ab : Bool} (hn : note (nums s) = (b, f, t)) (hft : f < t) (hts : t ≤ s.size) (hb2 : 2 ≤ b) (hb16 : b ≤ 16) (hd : dig b 95 0 false 0 (nums (s.extract f t)) = (n, ab, wr))
    (w : World) (hs : s.size < 9223372036854775807) :
    Calls Tryd.prog 26 #[.string s] w fun e w' => e = .returned (.tuple #[.int .i64 (numR f (n, ab, wr)).1, .agg #[.int .i64 (numR f (n, ab, wr)).2.1, .int .i64 (numR f (n, ab, wr)).2.2]]) ∧ Below w.heap.size w w' := by
  have hb := get_ch s
  have HN := hid hn
  have HD := hid hd
  clear hn hd
  have hu : (s.extract f t).size = t - f := size_extract s f t hts
  have HU := hid hu
  clear hu
  have HC : ∀ k, f + k < t → ch (s.extract f t) k = ch s (f + k) := fun k hk => ch_extract s f t k hk
  have HCC := hid HC
  clear HC
  go_enter Tryd.func26, Tryd.ntmps26
  go_wp2_with (go_at_call 32; refine (base_of HN.out _ (by omega) (by omega)).mono ?_; rintro e w' ⟨rfl, rfl⟩)
  go_loop [7, 8, 9] (fun n i j => ∃ (k : Nat) (m : Int) (ov : Bool), f + k ≤ t ∧ j = .int .i64 ((f : Int) + k) ∧ n = .int .u64 m ∧ i = .bool ov ∧ 0 ≤ m ∧ m < 18446744073709551616 ∧ Hid (dg b (s.extract f t) k m ov = dig b 95 0 false 0 (nums (s.extract f t)))) (fun _ _ j => t - (intOf j).toNat)
  case atStart => exact ⟨0, 0, false, by omega, by simp, rfl, rfl, by omega, by omega, hid rfl⟩
  case round =>
    obtain ⟨k, m, ov, hk, rfl, rfl, rfl, hm0, hm1, HR⟩ := hrel
    by_cases hlt : f + k < t
    · have HK := hid (show k < (s.extract f t).size by rw [HU.out]; omega)
      have hc := ch_range s (f + k)
      by_cases h95 : ch s (f + k) = 95
      · cases hdv : dvd (s.extract f t) k
        · have HW := hid (dg_wrong (b := b) m ov HK.out hdv (by rw [HCC.out k hlt, h95, dval_95]; exact hb16))
          have H2 := hid (show numR f (n, ab, wr) = (0, 4, (f : Int) + k) by rw [← HD.out, ← HR.out, HW.out]; unfold numR; rw [if_pos (by simp)])
          by_cases hk0 : k = 0
          · have e1 : ((f : Int) + k == f) = true := by simp; omega
            have HK0 := hid hk0
            clear hdv hk0
            go_wp2_with fail
            all_goals
              refine bodyPost_ret (v := .tuple #[.int .i64 0, .agg #[.int .i64 4, .int .i64 ((f : Int) + k)]]) (by simp [results, Tryd.results26, go_sem]) rfl ⟨by rw [H2.out], ?_⟩
              go_grown
          · by_cases hk1 : f + k + 1 = t
            · have e1 : ((f : Int) + k == f) = false := by simp; omega
              have e2 : ((f : Int) + k == (t : Int) - 1) = true := by simp; omega
              clear hdv
              go_wp2_with fail
              all_goals
                refine bodyPost_ret (v := .tuple #[.int .i64 0, .agg #[.int .i64 4, .int .i64 ((f : Int) + k)]]) (by simp [results, Tryd.results26, go_sem]) rfl ⟨by rw [H2.out], ?_⟩
                go_grown
            · have e1 : ((f : Int) + k == f) = false := by simp; omega
              have e2 : ((f : Int) + k == (t : Int) - 1) = false := by simp; omega
              have i1 : 0 ≤ (f : Int) + k - 1 := by omega
              have i2 : (f : Int) + k - 1 < s.size := by omega
              have i3 : ((f : Int) + k - 1).toNat = f + k - 1 := by omega
              have e3 : ch s (f + k - 1) = 95 := by
                have := hdv
                unfold dvd at this
                rw [HCC.out k hlt, h95, HU.out, HCC.out (k - 1) (by omega), show f + (k - 1) = f + k - 1 by omega] at this
                simp at this
                omega
              clear hdv
              go_wp2_with fail
              all_goals
                refine bodyPost_ret (v := .tuple #[.int .i64 0, .agg #[.int .i64 4, .int .i64 ((f : Int) + k)]]) (by simp [results, Tryd.results26, go_sem]) rfl ⟨by rw [H2.out], ?_⟩
                go_grown
        · have HW := hid (dg_skip (b := b) m ov HK.out hdv)
          have hdv' := hdv
          unfold dvd at hdv'
          simp only [Bool.and_eq_true, beq_iff_eq, decide_eq_true_iff, Bool.not_eq_true', beq_eq_false_iff_ne] at hdv'
          rw [HU.out, HCC.out (k - 1) (by omega), show f + (k - 1) = f + k - 1 by omega] at hdv'
          have e1 : ((f : Int) + k == f) = false := by simp; omega
          have e2 : ((f : Int) + k == (t : Int) - 1) = false := by simp; omega
          have i1 : 0 ≤ (f : Int) + k - 1 := by omega
          have i2 : (f : Int) + k - 1 < s.size := by omega
          have i3 : ((f : Int) + k - 1).toNat = f + k - 1 := by omega
          have e3 : (ch s (f + k - 1) == 95) = false := by simp; exact hdv'.2
          clear hdv hdv'
          go_wp2_with fail
          go_round
          case rel => exact ⟨k + 1, m, ov, by omega, by go_num, rfl, rfl, hm0, hm1, hid (by rw [← HR.out, HW.out])⟩
          case measure => simp [intOf]; omega
      · have e95 : (ch s (f + k) == 95) = false := by simp [h95]
        have hdv : dvd (s.extract f t) k = false := by unfold dvd; rw [HCC.out k hlt, e95]; rfl
        by_cases hv : b ≤ dval (ch s (f + k))
        · have HW := hid (dg_wrong (b := b) m ov HK.out hdv (by rw [HCC.out k hlt]; exact hv))
          have H2 := hid (show numR f (n, ab, wr) = (0, 4, (f : Int) + k) by rw [← HD.out, ← HR.out, HW.out]; unfold numR; rw [if_pos (by simp)])
          have hv2 : b ≤ rdig (ch s (f + k)) := (rdig_ge _ hb16).2 hv
          clear hdv h95 hv
          go_wp2_with (go_at_call 24; refine (rdigit_any _ _ hc.1 hc.2).mono ?_; rintro e w' ⟨rfl, rfl⟩)
          all_goals
            refine bodyPost_ret (v := .tuple #[.int .i64 0, .agg #[.int .i64 4, .int .i64 ((f : Int) + k)]]) (by simp [results, Tryd.results26, go_sem]) rfl ⟨by rw [H2.out], ?_⟩
            go_grown
        · have HW := hid (dg_step (b := b) m ov HK.out hdv (by rw [HCC.out k hlt]; omega))
          have hdr := dval_range (ch s (f + k))
          have er : rdig (ch s (f + k)) = dval (ch s (f + k)) := rdig_eq (by omega)
          have HCk := hid (HCC.out k hlt)
          have HWr := hid (show IntKind.u64.wrap (IntKind.u64.wrap (m * b) + dval (ch s (f + k))) = (m * b + dval (ch s (f + k))) % 18446744073709551616 by rw [IntKind.wrap_u64, IntKind.wrap_u64]; omega)
          have HM := hid (show 0 ≤ (m * b + dval (ch s (f + k))) % 18446744073709551616 ∧ (m * b + dval (ch s (f + k))) % 18446744073709551616 < 18446744073709551616 from ⟨Int.emod_nonneg _ (by decide), Int.emod_lt_of_pos _ (by decide)⟩)
          clear hdv h95
          cases ov
          all_goals
            go_wp2_with (go_at_call 24; refine (rdigit_any _ _ hc.1 hc.2).mono ?_; rintro e w' ⟨rfl, rfl⟩)
            go_round
            case rel => exact ⟨k + 1, _, _, by omega, by go_num, rfl, rfl, by rw [HWr.out]; exact HM.out.1, by rw [HWr.out]; exact HM.out.2, hid (by rw [← HR.out, HW.out, HWr.out, HCk.out]; simp)⟩
            case measure => simp [intOf]; omega
    · have hks : f + k = t := by omega
      have HW := hid (dg_end (b := b) (s := s.extract f t) m ov (k := k) (by rw [HU.out]; omega))
      have H2 := hid (show numR f (n, ab, wr) = if ov then (0, 5, 0) else (wrap64 m, 0, 0) by rw [← HD.out, ← HR.out, HW.out]; unfold numR; rw [if_neg (by simp)])
      have e1 : ((f : Int) == t) = false := by simp; omega
      clear hlt
      cases ov
      · go_wp2_with fail
        all_goals
          refine bodyPost_ret (v := .tuple #[.int .i64 (wrap64 m), .agg #[.int .i64 0, .int .i64 0]]) (by simp [results, Tryd.results26, go_sem]) rfl ⟨by rw [H2.out]; rfl, ?_⟩
          go_grown
      · go_wp2_with fail
        all_goals
          refine bodyPost_ret (v := .tuple #[.int .i64 0, .agg #[.int .i64 5, .int .i64 0]]) (by simp [results, Tryd.results26, go_sem]) rfl ⟨by rw [H2.out]; rfl, ?_⟩
          go_grown
end Go.Proofs.YtibhpfddjlnbmaaDoor
