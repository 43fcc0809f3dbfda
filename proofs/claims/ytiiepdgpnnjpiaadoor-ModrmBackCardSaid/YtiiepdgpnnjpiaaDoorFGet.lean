/-
  Get: the number that stands in bytes, told by package field.
-/
import Derived.Test.YtiiepdgpnnjpiaaDoorFBase
import Derived.RegionTactic
namespace Go.Proofs.YtiiepdgpnnjpiaaDoor
open Go.RowKit

/-- What Get answers: the number and the error. -/
def numAt (xs : List Int) (a s : Nat) : Int := wrap64 (le ((xs.drop a).take s))
def getN (xs : List Int) (at_ size : Int) (signed : Bool) : Int :=
  if sizeOk size = false ∨ at_ < 0 ∨ (xs.length : Int) < at_ ∨ (xs.length : Int) - at_ < size then 0
  else if signed then sgn (numAt xs at_.toNat size.toNat) (8 * size) else numAt xs at_.toNat size.toNat
def getE (xs : List Int) (at_ size : Int) : Int :=
  if sizeOk size = false then 2 else if at_ < 0 ∨ (xs.length : Int) < at_ then 5 else if (xs.length : Int) - at_ < size then 9 else 0
theorem numAt_step (xs : List Int) (a k : Nat) (h : isBytes xs) (hk : k < 8) (ha : a + k < xs.length) :
    bits .or .i64 (numAt xs a k) (wrap64 (xs[a + k]?.getD 0 * 2 ^ (8 * k))) = numAt xs a (k + 1) := by
  have hl : ((xs.drop a).take k).length = k := by rw [List.length_take, List.length_drop]; omega
  have hb := le_bound ((xs.drop a).take k) ((h.drop a).take k)
  rw [hl] at hb
  have h63 := pow_le (8 * k) 63 (by omega)
  have h6 : (2 : Int) ^ 63 = 9223372036854775808 := rfl
  have e : numAt xs a k = le ((xs.drop a).take k) := IntWalk.wrap64_in _ ⟨by omega, by omega⟩
  rw [e, or_shift _ _ _ hb.1 hb.2 (by omega)]
  unfold numAt
  have ht : (xs.drop a).take (k + 1) = (xs.drop a).take k ++ [xs[a + k]?.getD 0] := by
    rw [List.take_add_one, List.getElem?_drop, List.getElem?_eq_getElem ha]; rfl
  rw [ht, le_snoc, hl]
theorem numAt_zero (xs : List Int) (a : Nat) : numAt xs a 0 = 0 := by simp [numAt, le, wrap64]
theorem getN_ok (xs : List Int) (a s : Nat) (sg : Bool) (hs : sizeOk s = true) (h : a + s ≤ xs.length) : getN xs a s sg = if sg then sgn (numAt xs a s) (8 * s) else numAt xs a s := by
  unfold getN
  rw [if_neg (by rintro (h1 | h1 | h1 | h1); · (rw [hs] at h1; cases h1)
                 all_goals omega)]
  simp
theorem getE_ok (xs : List Int) (a s : Nat) (hs : sizeOk s = true) (h : a + s ≤ xs.length) : getE xs a s = 0 := by
  unfold getE
  rw [if_neg (by rw [hs]; simp), if_neg (by omega), if_neg (by omega)]
theorem size_le {s : Int} (h : sizeOk s = true) : 1 ≤ s ∧ s ≤ 8 := by rw [sizeOk_iff] at h; omega
/-! ### package field -/
theorem get_ok (A : Option Addr) (c : Nat) (xs : List Int) (a s : Nat) (sg : Bool) (w : World) (B : Nat) (hm : Mem w B A xs) (hl : xs.length ≤ 9223372036854775807)
    (hs : sizeOk s = true) (has : a + s ≤ xs.length) :
    Calls Tryd.prog 104 #[.slice A xs.length c, .int .i64 a, .int .i64 s, .bool sg] w
      fun e w' => e = .returned (.tuple #[.int .i64 (if sg then sgn (numAt xs a s) (8 * s) else numAt xs a s), .int .i64 0]) ∧ w = w' := by
  have hs8 := size_le hs
  have h0 : (0 : Int) ≤ a := by omega
  obtain ⟨hb, hm⟩ := hm
  rcases hm with rfl | ⟨b, off, rfl, _, hc⟩
  · simp at has; omega
  have HC := hid hc; clear hc
  have h8 : -9223372036854775808 ≤ (8 : Int) * s ∧ (8 : Int) * s ≤ 9223372036854775807 := by omega
  cases sg
  all_goals
    go_enter Tryd.func104, Tryd.ntmps104
    go_wp2_with (go_at_call 86; refine (fsized_any _ _).mono ?_; rintro e w' ⟨rfl, rfl⟩)
    go_loop [10, 30] (fun n i => ∃ k : Nat, k ≤ s ∧ i = .int .i64 k ∧ n = .int .i64 (numAt xs a k)) (fun _ i => s - (intOf i).toNat)
    case atStart => exact ⟨0, by omega, rfl, by rw [numAt_zero]⟩
    case round =>
      obtain ⟨k, hk, rfl, rfl⟩ := hrel
      by_cases hks : k < s
      · have hcell := HC.out (a + k) (by omega)
        have hr := hb.getD (a + k)
        have hst := hid (numAt_step xs a k hb (by omega) (by omega))
        have e8 := hid (show (8 * (k : Int)).toNat = 8 * k by omega)
        go_wp2
        go_round
        case rel => exact ⟨k + 1, by omega, by go_num, by first | rw [← hst.out] | rw [← hst.out, ← e8.out]⟩
        case measure => simp [intOf]; omega
      · have hks' : k = s := by omega
        have HK := hid hks'; clear hks'
        have HI := hid (show I64 (numAt xs a k) from wrap64_I64 _)
        go_wp2_with (go_at_call 102; refine (sign_any _ _ _).mono ?_; rintro e w' ⟨rfl, rfl⟩)
        go_ret2
        exact ⟨by rw [HK.out]; rfl, rfl⟩
theorem get_any (A : Option Addr) (c : Nat) (xs : List Int) (at_ size : Int) (sg : Bool) (w : World) (B : Nat) (hm : Mem w B A xs) (hl : xs.length ≤ 9223372036854775807) (hat : I64 at_) :
    Calls Tryd.prog 104 #[.slice A xs.length c, .int .i64 at_, .int .i64 size, .bool sg] w
      fun e w' => e = .returned (.tuple #[.int .i64 (getN xs at_ size sg), .int .i64 (getE xs at_ size)]) ∧ w = w' := by
  by_cases hs : sizeOk size = true
  · have hs8 := size_le hs
    by_cases h1 : at_ < 0
    · have e1 := hid (show getN xs at_ size sg = 0 by unfold getN; rw [if_pos (by simp [h1])])
      have e2 := hid (show getE xs at_ size = 5 by unfold getE; rw [if_neg (by simp [hs]), if_pos (by simp [h1])])
      clear hat
      go_enter Tryd.func104, Tryd.ntmps104
      go_wp2_with (go_at_call 86; refine (fsized_any _ _).mono ?_; rintro e w' ⟨rfl, rfl⟩)
      go_ret2
      exact ⟨by rw [e1.out, e2.out]; rfl, rfl⟩
    by_cases h2 : (xs.length : Int) < at_
    · have e1 := hid (show getN xs at_ size sg = 0 by unfold getN; rw [if_pos (by simp [h2])])
      have e2 := hid (show getE xs at_ size = 5 by unfold getE; rw [if_neg (by simp [hs]), if_pos (by simp [h2])])
      clear hat
      go_enter Tryd.func104, Tryd.ntmps104
      go_wp2_with (go_at_call 86; refine (fsized_any _ _).mono ?_; rintro e w' ⟨rfl, rfl⟩)
      go_ret2
      exact ⟨by rw [e1.out, e2.out]; rfl, rfl⟩
    by_cases h3 : (xs.length : Int) - at_ < size
    · have e1 := hid (show getN xs at_ size sg = 0 by unfold getN; rw [if_pos (by simp [h3])])
      have e2 := hid (show getE xs at_ size = 9 by unfold getE; rw [if_neg (by simp [hs]), if_neg (by omega), if_pos h3])
      clear hat
      go_enter Tryd.func104, Tryd.ntmps104
      go_wp2_with (go_at_call 86; refine (fsized_any _ _).mono ?_; rintro e w' ⟨rfl, rfl⟩)
      go_ret2
      exact ⟨by rw [e1.out, e2.out]; rfl, rfl⟩
    obtain ⟨a, rfl⟩ := Int.eq_ofNat_of_zero_le (by omega : 0 ≤ at_)
    obtain ⟨s, rfl⟩ := Int.eq_ofNat_of_zero_le (by omega : 0 ≤ size)
    refine (get_ok A c xs a s sg w B hm hl hs (by omega)).mono fun e w' ⟨he, hw⟩ => ⟨?_, hw⟩
    rw [he, getN_ok xs a s sg hs (by omega), getE_ok xs a s hs (by omega)]
  · have hs' : sizeOk size = false := by simpa using hs
    have e1 := hid (show getN xs at_ size sg = 0 by unfold getN; rw [if_pos (by simp [hs'])])
    have e2 := hid (show getE xs at_ size = 2 by unfold getE; rw [if_pos hs'])
    clear hat hs
    go_enter Tryd.func104, Tryd.ntmps104
    go_wp2_with (go_at_call 86; refine (fsized_any _ _).mono ?_; rintro e w' ⟨rfl, rfl⟩)
    go_ret2
    exact ⟨by rw [e1.out, e2.out]; rfl, rfl⟩
end Go.Proofs.YtiiepdgpnnjpiaaDoor
