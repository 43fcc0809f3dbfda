/-
  The digits of a word.
-/
import Derived.Test.YtibhpfddjlnbmaaDoorWord
import Derived.WalkMore
import Derived.ScopeJumps
import Derived.Outline
namespace Go.Proofs.YtibhpfddjlnbmaaDoor
open Go.RowKit

/-- What the digits from place k on come to. -/
def dg (b : Int) (s : ByteArray) (k : Nat) (n : Int) (ab : Bool) : Int × Bool × Int := dig b (if k = 0 then 95 else ch s (k - 1)) n ab k ((nums s).drop k)
theorem dg_end {b : Int} {s : ByteArray} {k : Nat} (n : Int) (ab : Bool) (h : k = s.size) : dg b s k n ab = (n, ab, -1) := by
  subst h; unfold dg; rw [List.drop_of_length_le (by rw [nums_length]; omega)]; rfl
theorem drop_ne {s : ByteArray} {k : Nat} : (nums s).drop k ≠ [] ↔ k < s.size := by
  rw [Ne, List.drop_eq_nil_iff, nums_length]; omega
theorem dg_skip {b : Int} {s : ByteArray} {k : Nat} (n : Int) (ab : Bool) (h : k < s.size) (hd : dvd s k = true) : dg b s k n ab = dg b s (k + 1) n ab := by
  simp only [dvd, Bool.and_eq_true, beq_iff_eq, decide_eq_true_iff, Bool.not_eq_true', beq_eq_false_iff_ne] at hd
  unfold dg
  rw [drop_ch s k h, dig, if_pos ⟨hd.1.1.1, by rw [if_neg (by omega)]; exact hd.2, drop_ne.2 hd.1.2⟩]
  rw [if_neg (by omega)]; rfl
theorem dg_cond {s : ByteArray} {k : Nat} (hd : dvd s k = false) : ¬(ch s k = 95 ∧ (if k = 0 then 95 else ch s (k - 1)) ≠ 95 ∧ (nums s).drop (k + 1) ≠ []) := by
  rintro ⟨h1, h2, h3⟩
  rw [drop_ne] at h3
  by_cases hk : k = 0
  · rw [if_pos hk] at h2; exact h2 rfl
  · rw [if_neg hk] at h2
    have : dvd s k = true := by simp [dvd, h1, h2, h3]; omega
    rw [this] at hd; cases hd
theorem dg_wrong {b : Int} {s : ByteArray} {k : Nat} (n : Int) (ab : Bool) (h : k < s.size) (hd : dvd s k = false) (hv : b ≤ dval (ch s k)) : dg b s k n ab = (0, false, (k : Int)) := by
  unfold dg
  rw [drop_ch s k h, dig, if_neg (dg_cond hd), if_pos hv]
theorem dg_step {b : Int} {s : ByteArray} {k : Nat} (n : Int) (ab : Bool) (h : k < s.size) (hd : dvd s k = false) (hv : dval (ch s k) < b) :
    dg b s k n ab = dg b s (k + 1) ((n * b + dval (ch s k)) % 18446744073709551616) (ab || decide ((18446744073709551615 - dval (ch s k)) / b < n)) := by
  unfold dg
  rw [drop_ch s k h, dig, if_neg (dg_cond hd), if_neg (by omega), if_neg (by omega : ¬ k + 1 = 0)]; rfl

def Jd (s : ByteArray) (b : Int) (w : World) (a' : Act) (w' : World) : Prop :=
  w = w' ∧ ∃ (k : Nat) (z n : Int) (ab : Bool) (u2 u3 u8 u9 u10 u11 u12 u13 u14 u15 u16 u17 u18 u19 u20 u21 u22 u23 u24 u25 u26 u27 u28 u29 u30 u31 u32 u33 u34 u35 u36 u37 u38 u39 u40 u41 u42 u43 : Value),
    a' = { tmps := #[.string s, .int .u64 b, u2, u3, .int .u64 n, .bool ab, .int .i64 0, .int .i64 z, u8, u9, u10, u11, u12, u13, u14, u15, u16, u17, u18, u19, u20, u21, u22, u23, u24, u25, u26, u27, u28, u29, u30, u31, u32, u33, u34, u35, u36, u37, u38, u39, u40, u41, u42, u43], defers := [] } ∧
    z = (k : Int) ∧ k ≤ s.size ∧ 0 ≤ n ∧ n < 18446744073709551616 ∧ Hid (dg b s k n ab = dig b 95 0 false 0 (nums s))

theorem divides_zero (s : ByteArray) (w : World) (hs : s.size ≤ 9223372036854775807) (ha : 0 < s.size) :
    Calls Tryd.prog 36 #[.string s, .int .i64 0] w fun e w' => e = .returned (.bool false) ∧ w = w' := (divides_any s 0 w hs ha).mono fun e w' h => by simpa [dvd] using h
theorem digits_any (s : ByteArray) (b : Int) (w : World) (hs : s.size ≤ 9223372036854775807) (hb2 : 2 ≤ b) (hb16 : b ≤ 16) :
    Calls Tryd.prog 31 #[.string s, .int .u64 b] w fun e w' => e = .returned (.tuple #[.int .u64 (dig b 95 0 false 0 (nums s)).1, .bool (dig b 95 0 false 0 (nums s)).2.1, .int .i64 (dig b 95 0 false 0 (nums s)).2.2]) ∧ w = w' := by
  have hb := get_ch s
  go_enter Tryd.func31, Tryd.ntmps31
  go_wp2
  refine wp_scope_jumps 0 (Jd s b w) (fun a' _ => s.size - (intOf (a'.tmps.getD 7 undef)).toNat) rfl ?_ ?_
  · by_cases hlt : 0 < s.size
    · have hc := ch_range s 0
      have hdv := dval_range (ch s 0)
      have hd : dvd s 0 = false := by simp [dvd]
      have HR := hid (show dg b s 0 0 false = dig b 95 0 false 0 (nums s) from rfl)
      by_cases hv : b ≤ dval (ch s 0)
      · have H2 := hid (dg_wrong 0 false hlt hd hv)
        clear hd
        go_wp2
        go_step3
        go_wp2_with (first | (go_at_call 36; refine (divides_zero _ _ hs hlt).mono ?_; rintro e w' ⟨rfl, rfl⟩) | (go_at_call 21; refine (value_any _ _ hc.1 hc.2).mono ?_; rintro e w' ⟨rfl, rfl⟩))
        simp only [Exit.jump]
        go_returns
        exact ⟨by rw [← HR.out, H2.out]; rfl, rfl⟩
      · have H2 := hid (dg_step (b := b) 0 false hlt hd (by omega))
        have HM := hid (show (0 * b + dval (ch s 0)) % 18446744073709551616 = dval (ch s 0) by rw [Int.zero_mul, Int.zero_add]; exact Int.emod_eq_of_lt (by omega) (by omega))
        clear hd
        go_wp2
        go_step3
        go_wp2_with (first | (go_at_call 36; refine (divides_zero _ _ hs hlt).mono ?_; rintro e w' ⟨rfl, rfl⟩) | (go_at_call 21; refine (value_any _ _ hc.1 hc.2).mono ?_; rintro e w' ⟨rfl, rfl⟩))
        go_step3
        exact ⟨rfl, rfl, 1, _, _, _, _, _, _, _, _, _, _, _, _, _, _, _, _, _, _, _, _, _, _, _, _, _, _, _, _, _, _, _, _, _, _, _, _, _, _, _, _, _, rfl, by omega, by omega, by omega, by omega, hid (by rw [← HR.out, H2.out, HM.out]; rfl)⟩
    · have H2 := hid (dg_end (b := b) 0 false (show 0 = s.size by omega))
      have HR := hid (show dg b s 0 0 false = dig b 95 0 false 0 (nums s) from rfl)
      have hz : s.size = 0 := by omega
      clear hlt
      go_wp2
      go_step3
      go_wp2
      simp only [Exit.jump]
      go_returns
      exact ⟨by rw [← HR.out, H2.out]; rfl, rfl⟩
  · rintro a' w' ⟨rfl, k, z, n, ab, u2, u3, u8, u9, u10, u11, u12, u13, u14, u15, u16, u17, u18, u19, u20, u21, u22, u23, u24, u25, u26, u27, u28, u29, u30, u31, u32, u33, u34, u35, u36, u37, u38, u39, u40, u41, u42, u43, rfl, rfl, hk, hn0, hn1, HR⟩
    by_cases hlt : k < s.size
    · have hc := ch_range s k
      have hdv := dval_range (ch s k)
      cases hd : dvd s k
      · by_cases hv : b ≤ dval (ch s k)
        · have H2 := hid (dg_wrong n ab hlt hd hv)
          go_wp2_with (first | (go_at_call 36; refine (divides_any _ _ _ hs hlt).mono ?_; rintro e w' ⟨rfl, rfl⟩) | (go_at_call 21; refine (value_any _ _ hc.1 hc.2).mono ?_; rintro e w' ⟨rfl, rfl⟩))
          simp only [Exit.jump]
          go_returns
          exact ⟨by rw [← HR.out, H2.out]; rfl, rfl⟩
        · have H2 := hid (dg_step (b := b) n ab hlt hd (by omega))
          have HW := hid (show IntKind.u64.wrap (IntKind.u64.wrap (n * b) + dval (ch s k)) = (n * b + dval (ch s k)) % 18446744073709551616 by rw [IntKind.wrap_u64, IntKind.wrap_u64]; omega)
          have HM := hid (show 0 ≤ (n * b + dval (ch s k)) % 18446744073709551616 ∧ (n * b + dval (ch s k)) % 18446744073709551616 < 18446744073709551616 from ⟨Int.emod_nonneg _ (by decide), Int.emod_lt_of_pos _ (by decide)⟩)
          cases ab
          all_goals
            go_wp2_with (first | (go_at_call 36; refine (divides_any _ _ _ hs hlt).mono ?_; rintro e w' ⟨rfl, rfl⟩) | (go_at_call 21; refine (value_any _ _ hc.1 hc.2).mono ?_; rintro e w' ⟨rfl, rfl⟩))
            go_step3
            rw [HW.out]
            exact ⟨rfl, ⟨rfl, k + 1, _, _, _, _, _, _, _, _, _, _, _, _, _, _, _, _, _, _, _, _, _, _, _, _, _, _, _, _, _, _, _, _, _, _, _, _, _, _, _, _, _, rfl, by omega, by omega, HM.out.1, HM.out.2, hid (by rw [← HR.out, H2.out]; simp)⟩, by simp [intOf]; omega⟩
      · have H2 := hid (dg_skip (b := b) n ab hlt hd)
        go_wp2_with (first | (go_at_call 36; refine (divides_any _ _ _ hs hlt).mono ?_; rintro e w' ⟨rfl, rfl⟩) | (go_at_call 21; refine (value_any _ _ hc.1 hc.2).mono ?_; rintro e w' ⟨rfl, rfl⟩))
        go_step3
        exact ⟨rfl, ⟨rfl, k + 1, _, _, _, _, _, _, _, _, _, _, _, _, _, _, _, _, _, _, _, _, _, _, _, _, _, _, _, _, _, _, _, _, _, _, _, _, _, _, _, _, _, rfl, by omega, by omega, hn0, hn1, hid (by rw [← HR.out, H2.out])⟩, by simp [intOf]; omega⟩
    · have hks : k = s.size := by omega
      have H2 := hid (dg_end (b := b) n ab hks)
      clear hlt hk
      go_wp2
      simp only [Exit.jump]
      go_returns
      exact ⟨by rw [← HR.out, H2.out]; rfl, rfl⟩
end Go.Proofs.YtibhpfddjlnbmaaDoor
