/-
  Law 11: VexBack, contents that are not laid.
-/
import Derived.Test.YtllnjmpakkodnaaVxBackK
namespace Go.Proofs.Ytllnjmpakkodnaa
open Go.RowKit
set_option maxRecDepth 100000

set_option maxHeartbeats 4000000 in
theorem back_nof (r x b m n v l p : Int) (any : Bool) (A : Option Addr) (ca : Nat) (xs : List Int) (lb : Nat) (w : World) (hok : errF ⟨r, x, b, m, n, v, l, p⟩ = 2) (hL : waysF ⟨r, x, b, m, n, v, l, p⟩ any = []) (hx : Mem w w.heap.size A xs) (hlb : xs.length = lb) (h20 : lb ≤ 20) (hca : lb ≤ ca) (hcm : ca ≤ 9223372036854775807) (f : Int) (hf : readF xs = (V0, 0, f)) (hf0 : ¬ f = 0) :
    Calls Try.prog 6 #[.agg #[.int .i64 r, .int .i64 x, .int .i64 b, .int .i64 m, .int .i64 n, .int .i64 v, .int .i64 l, .int .i64 p], .bool any, .slice A lb ca] w fun e w' => e = .returned (.bool true) ∧ Below w.heap.size w w' := by
  have HE := hid (And.intro hL hok)
  have HX := hid (And.intro hx (And.intro hlb (And.intro hca hcm)))
  have hle : ¬ (20 : Int) < (lb : Int) := by omega
  have HO := hid ((Own.nil w).alloc w.heap.size (VC r x b m n v l p) 23 rfl)
  clear hL hok hx hlb hca hcm
  go_enter Try.func6, Try.ntmps6
  go_wp2_with fail
  refine (known_law _).mono ?_
  rintro e w1 ⟨rfl, hb1⟩
  replace HO := hid (HO.out.call hb1)
  have c0 := HO.out.c
  have z0 := HO.out.z
  clear hb1
  go_wp2_with fail
  refine (vall_of HE.out.1 HE.out.2 (k := 0) rfl _).mono ?_
  rintro e w2 ⟨A1, d1', rfl, hb2, _, _, _, _⟩
  replace HO := hid (HO.out.call hb2)
  clear hb2 c0 z0
  go_wp2_with fail
  go_loopw [10] (fun i wr => i = .int .i64 0 ∧ w2 = wr) (fun _ _ => 0)
  case atStart => exact ⟨rfl, rfl⟩
  case round =>
    obtain ⟨rfl, rfl⟩ := hrel
    have HBE := hid HO.out.below
    clear HO
    have he := eql_self 0 0 0 0 0 0 0 0
    have hf1 : (f != 0) = true := by simpa using hf0
    go_wp2_with (go_at_call 16; refine (vread_of hf A lb ca HX.out.2.1 HX.out.2.2.1 HX.out.2.2.2 _ ((HX.out.1.below HBE.out).mono HBE.out.size)).mono ?_; rintro e w5 ⟨rfl, hb5⟩; have HB5 := hid (HBE.out.trans (hb5.mono HBE.out.size)); clear hb5)
    go_ret
    exact ⟨by simp, HB5.out.alloc HB5.out.size _⟩
set_option maxHeartbeats 4000000 in
theorem back_nor (r x b m n v l p : Int) (any : Bool) (A : Option Addr) (ca : Nat) (xs : List Int) (lb : Nat) (w : World) (hok : errF ⟨r, x, b, m, n, v, l, p⟩ = 2) (hL : waysF ⟨r, x, b, m, n, v, l, p⟩ any = []) (hx : Mem w w.heap.size A xs) (hlb : xs.length = lb) (h20 : lb ≤ 20) (hca : lb ≤ ca) (hcm : ca ≤ 9223372036854775807) (r' x' b' m' n' v' l' p' : Int) (kn M j0 : Nat) (L2 : List (List Int)) (hrd' : readF xs = (⟨r', x', b', m', n', v', l', p'⟩, (kn : Int), 0)) (hok2 : errF ⟨r', x', b', m', n', v', l', p'⟩ = 0) (hL2 : waysF ⟨r', x', b', m', n', v', l', p'⟩ any = L2) (hM : L2.length = M) (hkn : kn ≤ lb) (hkn0 : 1 ≤ kn) (hj0 : L2[j0]? = some (xs.take kn)) :
    Calls Try.prog 6 #[.agg #[.int .i64 r, .int .i64 x, .int .i64 b, .int .i64 m, .int .i64 n, .int .i64 v, .int .i64 l, .int .i64 p], .bool any, .slice A lb ca] w fun e w' => e = .returned (.bool true) ∧ Below w.heap.size w w' := by
  have HR2 := hid (And.intro hrd' (And.intro hok2 (And.intro hL2 (And.intro hM hj0))))
  have hM3 : M ≤ 3 := by rw [← hM, ← hL2]; exact ways_len _ _
  have hj0M : j0 < M := by rw [← hM]; exact (List.getElem?_eq_some_iff.1 hj0).1
  have HTK := hid (show (xs.take kn).length = kn by rw [List.length_take]; omega)
  obtain ⟨ab, ao, rfl⟩ : ∃ ab ao, A = some ⟨ab, ao, none⟩ := by
    rcases hx.2 with h0 | ⟨ab, ao, h0, _, _⟩
    · rw [h0] at hlb; simp at hlb; omega
    · exact ⟨ab, ao, h0⟩
  clear hrd' hok2 hL2 hM hj0
  have HE := hid (And.intro hL hok)
  have HX := hid (And.intro hx (And.intro hlb (And.intro hca hcm)))
  have hle : ¬ (20 : Int) < (lb : Int) := by omega
  have HO := hid ((Own.nil w).alloc w.heap.size (VC r x b m n v l p) 23 rfl)
  clear hL hok hx hlb hca hcm
  go_enter Try.func6, Try.ntmps6
  go_wp2_with fail
  refine (known_law _).mono ?_
  rintro e w1 ⟨rfl, hb1⟩
  replace HO := hid (HO.out.call hb1)
  have c0 := HO.out.c
  have z0 := HO.out.z
  clear hb1
  go_wp2_with fail
  refine (vall_of HE.out.1 HE.out.2 (k := 0) rfl _).mono ?_
  rintro e w2 ⟨A1, d1', rfl, hb2, _, _, _, _⟩
  replace HO := hid (HO.out.call hb2)
  clear hb2 c0 z0
  go_wp2_with fail
  go_loopw [10] (fun i wr => i = .int .i64 0 ∧ w2 = wr) (fun _ _ => 0)
  case atStart => exact ⟨rfl, rfl⟩
  case round =>
    obtain ⟨rfl, rfl⟩ := hrel
    have HBE := hid HO.out.below
    clear HO
    go_wp2_with (first
      | (go_at_call 16; refine (vread_of HR2.out.1 (some ⟨ab, ao, none⟩) lb ca HX.out.2.1 HX.out.2.2.1 HX.out.2.2.2 _ ((HX.out.1.below HBE.out).mono HBE.out.size)).mono ?_; rintro e w5 ⟨rfl, hb5⟩; have HO5 := hid (((Own.nil w).call (HBE.out.trans (hb5.mono HBE.out.size))).alloc w5.heap.size #[.int .i64 r', .int .i64 x', .int .i64 b', .int .i64 m', .int .i64 n', .int .i64 v', .int .i64 l', .int .i64 p'] 23 rfl); clear hb5; have c5 := HO5.out.c; have z5 := HO5.out.z)
      | (go_at_call 7; refine (vall_of HR2.out.2.2.1 HR2.out.2.1 HR2.out.2.2.2.1 _).mono ?_; rintro e w6 ⟨A6, d6, rfl, hb6, hr6, _, _, _⟩; have HO6 := hid (HO5.out.call hb6); have HLR6 := hid hr6; clear hb6 hr6 c5 z5; have c6 := HO6.out.c; have z6 := HO6.out.z))
    clear HBE HO5
    have hkca : (kn : Int) ≤ (ca : Int) := by have := HX.out.2.2.1; omega
    have hkcn : kn ≤ ca := by omega
    have hk0i : (0 : Int) ≤ (kn : Int) := by omega
    have d1 : decide ((kn : Int) ≤ (lb : Int)) = true := by simp; omega
    go_loopw [23, 24] (fun fd i wr => ∃ (k : Nat) (fb : Bool), k ≤ M ∧ i = .int .i64 k ∧ fd = .bool fb ∧ Hid (j0 < k → fb = true) ∧ Below w6.heap.size w6 wr) (fun _ i _ => M - (intOf i).toNat)
    case atStart => exact ⟨0, false, by omega, rfl, rfl, hid (fun h => absurd h (by omega)), Below.refl _ _⟩
    case round =>
      obtain ⟨k, fb, hk, rfl, rfl, HFB, hbr⟩ := hrel
      have HR := hid hbr
      clear hbr
      by_cases hkM : k < M
      · obtain ⟨g6, q6, y6, rfl, hy6, x6, hM6⟩ := (HLR6.out.below HR.out).at (j := k) (by rw [HR2.out.2.2.2.1]; exact hkM)
        have HM6 := hid hM6
        have HY6 := hid hy6
        have i4 : (0 : Int) ≤ (k : Int) := by omega
        have i5 : (k : Int) < (M : Int) := by omega
        clear hM6 hy6
        cases fb
        · have HMX := hid ((HX.out.1.below (HO6.out.below.trans (HR.out.mono HO6.out.below.size))).take kn)
          go_wp2_with fail
          go_quiet ((go_at_call 13; exact Calls.quiet_of_same (same_back (same_of _ _ _ _ _ _ y6 (xs.take kn) _ ⟨_, mem_drewN HM6.out _⟩ ⟨_, mem_drewN HMX.out _⟩ rfl HTK.out))))
          go_wp2_with fail
          go_roundw
          case rel =>
            refine ⟨k + 1, decide (y6 = xs.take kn), by omega, by go_num, rfl, hid (fun h => ?_), bdrewN HR.out _⟩
            by_cases hjk : j0 < k
            · exact absurd (HFB.out hjk) (by decide)
            · obtain rfl : j0 = k := by omega
              have := HR2.out.2.2.2.2.symm.trans HY6.out
              simp only [Option.some.injEq] at this
              simp [this]
          case measure => first | (simp [intOf]; done) | (simp [intOf]; omega)
        · go_wp2_with fail
          go_quiet (fail)
          go_wp2_with fail
          go_roundw
          case rel => exact ⟨k + 1, true, by omega, by go_num, rfl, hid (fun _ => rfl), bdrewN HR.out _⟩
          case measure => first | (simp [intOf]; done) | (simp [intOf]; omega)
      · have hk' : k = M := by omega
        subst hk'
        obtain rfl : fb = true := HFB.out hj0M
        replace HO6 := hid (HO6.out.call HR.out)
        have c7 := HO6.out.c
        have z7 := HO6.out.z
        clear c6 z6
        go_wp2_with (go_at_call 9; refine (check_of HR2.out.2.1 _).mono ?_; rintro e w8 ⟨rfl, hb8⟩; have HB8 := hid (HO6.out.below.trans (hb8.mono HO6.out.below.size)); clear hb8)
        go_ret
        exact ⟨rfl, HB8.out⟩
end Go.Proofs.Ytllnjmpakkodnaa
