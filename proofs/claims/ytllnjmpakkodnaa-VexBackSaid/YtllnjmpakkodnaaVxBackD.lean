/-
  Law 11: VexBack, contents that are laid, W aside, bytes that are read.
-/
import Derived.Test.YtllnjmpakkodnaaVxBackK
namespace Go.Proofs.Ytllnjmpakkodnaa
open Go.RowKit
set_option maxRecDepth 100000

set_option maxHeartbeats 4000000 in
theorem back_ok_truer (r x b m n v l p : Int) (A : Option Addr) (ca : Nat) (xs : List Int) (lb N : Nat) (L : List (List Int)) (w : World) (hok : errF ⟨r, x, b, m, n, v, l, p⟩ = 0) (hL : waysF ⟨r, x, b, m, n, v, l, p⟩ true = L) (hN : L.length = N) (hB : Backs ⟨r, x, b, m, n, v, l, p⟩ true L) (hx : Mem w w.heap.size A xs) (hlb : xs.length = lb) (h20 : lb ≤ 20) (hca : lb ≤ ca) (hcm : ca ≤ 9223372036854775807) (r' x' b' m' n' v' l' p' : Int) (kn M j0 : Nat) (L2 : List (List Int)) (hrd' : readF xs = (⟨r', x', b', m', n', v', l', p'⟩, (kn : Int), 0)) (hok2 : errF ⟨r', x', b', m', n', v', l', p'⟩ = 0) (hL2 : waysF ⟨r', x', b', m', n', v', l', p'⟩ true = L2) (hM : L2.length = M) (hkn : kn ≤ lb) (hkn0 : 1 ≤ kn) (hj0 : L2[j0]? = some (xs.take kn)) :
    Calls Try.prog 6 #[.agg #[.int .i64 r, .int .i64 x, .int .i64 b, .int .i64 m, .int .i64 n, .int .i64 v, .int .i64 l, .int .i64 p], .bool true, .slice A lb ca] w fun e w' => e = .returned (.bool true) ∧ Below w.heap.size w w' := by
  have HR2 := hid (And.intro hrd' (And.intro hok2 (And.intro hL2 (And.intro hM hj0))))
  have hM3 : M ≤ 3 := by rw [← hM, ← hL2]; exact ways_len _ _
  have hj0M : j0 < M := by rw [← hM]; exact (List.getElem?_eq_some_iff.1 hj0).1
  have HTK := hid (show (xs.take kn).length = kn by rw [List.length_take]; omega)
  obtain ⟨ab, ao, rfl⟩ : ∃ ab ao, A = some ⟨ab, ao, none⟩ := by
    rcases hx.2 with h0 | ⟨ab, ao, h0, _, _⟩
    · rw [h0] at hlb; simp at hlb; omega
    · exact ⟨ab, ao, h0⟩
  clear hrd' hok2 hL2 hM hj0
  have HE := hid (And.intro hL hok)
  have HN := hid hN
  have HBK := hid hB
  have hN1 : 1 ≤ N := by have := hB.few; omega
  have hN3 : N ≤ 3 := by have := hB.few; omega
  have HX := hid (And.intro hx (And.intro hlb (And.intro hca hcm)))
  have hle : ¬ (20 : Int) < (lb : Int) := by omega
  have n0 : ((N : Int) == 0) = false := by simp; omega
  have HO := hid ((Own.nil w).alloc w.heap.size (VC r x b m n v l p) 23 rfl)
  clear hL hok hN hB hx hlb hca hcm
  go_enter Try.func6, Try.ntmps6
  go_wp2_with fail
  refine (known_law _).mono ?_
  rintro e w1 ⟨rfl, hb1⟩
  replace HO := hid (HO.out.call hb1)
  have c0 := HO.out.c
  have z0 := HO.out.z
  clear hb1
  go_wp2_with fail
  refine (vall_of HE.out.1 HE.out.2 HN.out _).mono ?_
  rintro e w2 ⟨A1, d1, rfl, hb2, hr2, hd1, hd2, _⟩
  replace HO := hid (HO.out.call hb2)
  have HLR := hid hr2
  clear hb2 hr2 hd1 hd2 c0 z0
  have c0 := HO.out.c
  have z0 := HO.out.z
  have i3 : (N : Int) ≤ 3 := by omega
  go_wp2_with fail
  go_loopw [10] (fun i wr => ∃ j : Nat, j ≤ N ∧ i = .int .i64 j ∧ Below w2.heap.size w2 wr) (fun i _ => N - (intOf i).toNat)
  case atStart => exact ⟨0, by omega, rfl, Below.refl _ _⟩
  case round =>
    obtain ⟨j, hj, rfl, hbr⟩ := hrel
    have HR := hid hbr
    clear hbr
    by_cases hjn : j < N
    · obtain ⟨g, q, y, rfl, hyj, x0, hM⟩ := (HLR.out.below HR.out).at (j := j) (by rw [HN.out]; exact hjn)
      obtain ⟨g', q0, y0, e0, hy0, x1, hM0⟩ := (HLR.out.below HR.out).at (j := 0) (by rw [HN.out]; omega)
      obtain rfl : g = g' := by simpa using e0
      have hym := List.mem_of_getElem? hyj
      obtain ⟨u, hrd, hu⟩ := HBK.out.read y hym xs
      clear hu
      have hly := HBK.out.len y hym
      have hfst := HBK.out.first y0 hy0 y hym
      have HY := hid (And.intro hyj (And.intro hrd (And.intro hM (HBK.out.bytes y hym))))
      have hgr : g < wr.heap.size := World.block_lt_of_cell? wr _ x0
      have i0 : (0 : Int) ≤ (j : Int) := by omega
      have i1 : (j : Int) < (N : Int) := by omega
      have i2 : (0 : Int) < (N : Int) := by omega
      have HOr := hid (HO.out.call HR.out)
      clear hyj e0 hy0 hym hM hM0 hrd
      have l1 : decide ((y.length : Int) < (y0.length : Int)) = false := by simp; omega
      have l2 : ((y.length : Int) != (y.length : Int)) = false := by simp
      have l3 := neq_self r x b m n v l p
      go_wp2_with (first
        | (go_at_call 21; refine (copyb_any _ _ y _ _ HY.out.2.2.1 (by omega) (Nat.le_refl _)).mono ?_; rintro e w3 ⟨v3, rfl, hb3, ho3⟩; have HB3 := hid hb3; have HO3 := hid ho3; clear hb3 ho3)
        | (at_builtin; refine wpList_append_bytes rfl _ _ rfl wr.heap.size v3 y.length y rfl HO3.out (some ⟨ab, ao, none⟩) lb ca w.heap.size xs HX.out.2.1 rfl (HX.out.1.below ((HOr.out.call HB3.out).below)) (by omega) HB3.out.size ?_; intro v4 w4 ho4 hg4; obtain ⟨A4, c4, rfl, hm4, hl4, hc4, hx4⟩ := own_full ho4.out (HY.out.2.2.2.append HX.out.1.1); have HM4 := hid (And.intro hm4 (And.intro hl4 (And.intro hc4 hx4))); have HB4 := hid (HB3.out.grown hg4 HB3.out.size (fun k hk => (HO3.out.lt k hk).1)); clear ho4 hg4 hm4 hl4 hc4 hx4)
        | (go_at_call 16; refine (vread_of HY.out.2.1 A4 (y.length + lb) c4 HM4.out.2.1 HM4.out.2.2.1 HM4.out.2.2.2 _ HM4.out.1).mono ?_; rintro e w5 ⟨rfl, hb5⟩; have HS5 := hid (And.intro (Nat.le_trans HB4.out.size hb5.size) (And.intro (HOr.out.call (HB4.out.trans (hb5.mono HB4.out.size))) (HB4.out.trans (hb5.mono HB4.out.size)))); have HO5 := hid ((HOr.out.call (HB4.out.trans (hb5.mono HB4.out.size))).alloc w5.heap.size #[.int .i64 r, .int .i64 x, .int .i64 b, .int .i64 m, .int .i64 u, .int .i64 v, .int .i64 l, .int .i64 p] 23 rfl); have HB5 := hid ((HB4.out.trans (hb5.mono HB4.out.size)).alloc (Nat.le_trans HB4.out.size hb5.size) (.cells #[.int .i64 r, .int .i64 x, .int .i64 b, .int .i64 m, .int .i64 u, .int .i64 v, .int .i64 l, .int .i64 p] 23)); clear hb5; have c5 := HO5.out.c; have z5 := HO5.out.z; have f5 := HO5.out.f; have c6 := HO5.out.tl.c; have z6 := HO5.out.tl.z))
      have HO5 := hid (HS5.out.2.1.alloc w5.heap.size #[.int .i64 r, .int .i64 x, .int .i64 b, .int .i64 m, .int .i64 n, .int .i64 v, .int .i64 l, .int .i64 p] 23 rfl)
      have HB5 := hid (HS5.out.2.2.alloc HS5.out.1 (.cells #[.int .i64 r, .int .i64 x, .int .i64 b, .int .i64 m, .int .i64 n, .int .i64 v, .int .i64 l, .int .i64 p] 23))
      obtain ⟨W5, hW5⟩ : ∃ W, w5.alloc (.cells #[.int .i64 r, .int .i64 x, .int .i64 b, .int .i64 m, .int .i64 n, .int .i64 v, .int .i64 l, .int .i64 p] 23) = W := ⟨_, rfl⟩
      rw [hW5] at HO5 HB5 ⊢
      clear hW5 c5 z5 f5 c6 z6
      have hwr5 := HB5.out.size
      have x0 := (HB5.out.cell (p := ⟨g, j, none⟩) hgr).trans x0
      have x1 := (HB5.out.cell (p := ⟨g, 0, none⟩) hgr).trans x1
      have c5 := HO5.out.c
      have z5 := HO5.out.z
      have c6 := HO5.out.tl.c
      have z6 := HO5.out.tl.z
      go_quiet (fail)
      have HB5 := hid (bdrewN HB5.out nq)
      have HO5 := hid (HO5.out.call (bdrewN (Below.refl _ _) nq))
      have x0 : (W5.drewN nq).cell? ⟨g, j, none⟩ = some (.slice (some ⟨q, 0, none⟩) y.length y.length) := x0
      have x1 : (W5.drewN nq).cell? ⟨g, 0, none⟩ = some (.slice (some ⟨q0, 0, none⟩) y0.length y0.length) := x1
      obtain ⟨wd, hwd⟩ : ∃ W, W5.drewN nq = W := ⟨_, rfl⟩
      rw [hwd] at HB5 HO5 x0 x1 ⊢
      clear hwd c5 c6 z5 z6 l1 l2 l3
      go_upto_region 15 with fail
      have hgd : g < wd.heap.size := World.block_lt_of_cell? wd _ x0
      have HM5 := hid ((HY.out.2.2.1.below HB5.out).mono HB5.out.size)
      obtain ⟨t, ht⟩ : ∃ t, y.length = t + 1 := ⟨y.length - 1, by omega⟩
      have lw : IntKind.i64.wrap ((y.length : Int) - 1) = t := by rw [ht]; exact (IntWalk.i64_in _ (by omega)).trans (by omega)
      have lw2 : (y.length : Int) - 1 = (t : Int) := by omega
      have t0 : (0 : Int) ≤ (t : Int) := by omega
      have t2 : t ≤ y.length := by omega
      have t1 : (t : Int) ≤ (y.length : Int) := by omega
      have HCUT := hid (show readF (y.take t) = (V0, 0, 9) by have := HBK.out.cut y (List.mem_of_getElem? HY.out.1); rwa [ht] at this)
      have HTL := hid (show (y.take t).length = t by rw [List.length_take]; omega)
      have lw3 : IntKind.i64.wrap (t : Int) = t := IntWalk.i64_in _ (by omega)
      clear ht
      go_cut [16] (fun s16 wx => s16 = .int .i64 9 ∧ Hid (Below wd.heap.size wd wx))
      case first =>
        have hS := Old.of (Below.refl wd.heap.size wd)
        go_region_held3 (fun w' => Below wd.heap.size wd w' ∧ ∀ b o, b < wd.heap.size → w'.cell? ⟨b, o, none⟩ = wd.cell? ⟨b, o, none⟩) (first | with_reducible assumption | with_reducible exact Old.of (Below.refl wd.heap.size wd) | with_reducible exact old_drew (Old.of (Below.refl wd.heap.size wd)) | with_reducible exact old_drew (old_alloc (Old.of (Below.refl wd.heap.size wd)) _) | ((with_reducible refine old_drew ?_); with_reducible assumption) | ((with_reducible refine old_kept ?_ (by with_reducible assumption)); with_reducible assumption) | ((with_reducible refine old_alloc ?_ _); first | with_reducible assumption | with_reducible exact Old.of (Below.refl wd.heap.size wd) | with_reducible exact old_drew (Old.of (Below.refl wd.heap.size wd))) | ((repeat with_reducible refine old_set ?_ _ _ (by first | omega | (simp; done) | (simp; omega))); first | with_reducible assumption | ((with_reducible refine old_alloc ?_ _); with_reducible assumption)) | fail) ((go_at_call 16; refine (vread_of HCUT.out _ t y.length HTL.out (by omega) (by omega) _ (((HM5.out.below (And.left ‹Below wd.heap.size wd _ ∧ _›)).mono (And.left ‹Below wd.heap.size wd _ ∧ _›).size).take t)).mono ?_; rintro e w6 ⟨rfl, hb6⟩; (try (have hk : Bx w6 wd.heap.size #[.int .i64 0, .int .i64 0, .int .i64 0, .int .i64 0, .int .i64 0, .int .i64 0, .int .i64 0, .int .i64 0] 23 := (by refine bx_call ?_ hb6; first | with_reducible exact bx_new _ _ _ | with_reducible exact bx_drew (bx_new _ _ _) | with_reducible exact bx_new2 _ _ _ | fail); have hkc := hk.c; have hkf := hk.f; have hkz := hk.lt))))
        all_goals
          go_wp2_with fail
          go_meet
          exact ⟨rfl, hid (show Below wd.heap.size wd _ ∧ ∀ b o, b < wd.heap.size → World.cell? _ ⟨b, o, none⟩ = wd.cell? ⟨b, o, none⟩ by with_reducible assumption).1⟩
      case rest =>
        obtain ⟨rfl, hbx⟩ := hcut
        have HRC := hid (HB5.out.trans (hbx.out.mono HB5.out.size))
        have HBW := hid (HR.out.trans (HRC.out.mono HR.out.size))
        have x0 := (hbx.out.cell (p := ⟨g, j, none⟩) hgd).trans x0
        have hgc : g < wc.heap.size := World.block_lt_of_cell? wc _ x0
        clear HS5 HM5 HCUT HTL lw lw2 lw3 t0 t1 t2 hfst x1 HOr HO5 HB5 hgd HB3 HO3 HB4 HM4
        go_wp2_with fail
        go_loopw [17] (fun i wk => ∃ k : Nat, k ≤ j ∧ i = .int .i64 k ∧ Below wc.heap.size wc wk) (fun i _ => j - (intOf i).toNat)
        case atStart => exact ⟨0, by omega, rfl, Below.refl _ _⟩
        case round =>
          obtain ⟨k, hk, rfl, hbk⟩ := hrel
          have HK := hid hbk
          clear hbk
          by_cases hkj : k < j
          · obtain ⟨g2, q2, y2, e2, hy2, xk, hM2⟩ := (HLR.out.below (HBW.out.trans (HK.out.mono HBW.out.size))).at (j := k) (by rw [HN.out]; omega)
            obtain rfl : g = g2 := by simpa using e2
            obtain ⟨hle2, hne2⟩ := HBK.out.apart j k y y2 hkj HY.out.1 hy2
            have HNE := hid hne2
            have HM2 := hid hM2
            have hMj := HY.out.2.2.1.below (HRC.out.trans (HK.out.mono HRC.out.size))
            have HMJ := hid (hMj.take y2.length)
            have xj := (HK.out.cell (p := ⟨g, j, none⟩) hgc).trans x0
            have i4 : (0 : Int) ≤ (k : Int) := by omega
            have i5 : (k : Int) < (j : Int) := by omega
            have i6 : (k : Int) < (N : Int) := by omega
            have i7 : (y2.length : Int) ≤ (y.length : Int) := by omega
            have i8 : (0 : Int) ≤ (y2.length : Int) := by omega
            have HTL2 := hid (show (y.take y2.length).length = y2.length by rw [List.length_take]; omega)
            clear e2 hy2 hM2 hne2 hMj
            go_wp2_with fail
            go_quiet ((go_at_call 13; exact Calls.quiet_of_same (same_back (same_not _ _ _ _ _ _ y2 (y.take y2.length) _ _ _ (mem_drewN HM2.out _) (mem_drewN HMJ.out _) rfl HTL2.out HNE.out))))
            go_wp2_with fail
            go_roundw
            case rel => exact ⟨k + 1, by omega, by go_num, bdrewN HK.out _⟩
            case measure => first | (simp [intOf]; done) | (simp [intOf]; omega)
          · have hk' : k = j := by omega
            subst hk'
            go_wp2_with fail
            go_roundw
            case rel => exact ⟨k + 1, by omega, by go_num, HBW.out.trans (HK.out.mono HBW.out.size)⟩
            case measure => first | (simp [intOf]; done) | (simp [intOf]; omega)
    · have hjn' : j = N := by omega
      subst hjn'
      have HBE := hid (HO.out.below.trans (HR.out.mono HO.out.below.size))
      clear c0 z0 HO
      go_wp2_with (first
        | (go_at_call 16; refine (vread_of HR2.out.1 (some ⟨ab, ao, none⟩) lb ca HX.out.2.1 HX.out.2.2.1 HX.out.2.2.2 _ ((HX.out.1.below HBE.out).mono HBE.out.size)).mono ?_; rintro e w5 ⟨rfl, hb5⟩; have HO5 := hid (((Own.nil w).call (HBE.out.trans (hb5.mono HBE.out.size))).alloc w5.heap.size #[.int .i64 r', .int .i64 x', .int .i64 b', .int .i64 m', .int .i64 n', .int .i64 v', .int .i64 l', .int .i64 p'] 23 rfl); clear hb5; have c5 := HO5.out.c; have z5 := HO5.out.z)
        | (go_at_call 7; refine (vall_of HR2.out.2.2.1 HR2.out.2.1 HR2.out.2.2.2.1 _).mono ?_; rintro e w6 ⟨A6, d6, rfl, hb6, hr6, _, _, _⟩; have HO6 := hid (HO5.out.call hb6); have HLR6 := hid hr6; clear hb6 hr6 c5 z5; have c6 := HO6.out.c; have z6 := HO6.out.z))
      clear HBE HO5
      have hkca : (kn : Int) ≤ (ca : Int) := by have := HX.out.2.2.1; omega
      have hkcn : kn ≤ ca := by omega
      have hk0i : (0 : Int) ≤ (kn : Int) := by omega
      have d1 : decide ((kn : Int) ≤ (lb : Int)) = true := by simp; omega
      go_loopw [23, 24] (fun fd i wr => ∃ (k : Nat) (fb : Bool), k ≤ M ∧ i = .int .i64 k ∧ fd = .bool fb ∧ Hid (j0 < k → fb = true) ∧ Below w6.heap.size w6 wr) (fun _ i _ => M - (intOf i).toNat)
      case atStart => exact ⟨0, false, by omega, rfl, rfl, hid (fun h => absurd h (by omega)), Below.refl _ _⟩
      case round =>
        obtain ⟨k, fb, hk, rfl, rfl, HFB, hbr⟩ := hrel
        have HR := hid hbr
        clear hbr
        by_cases hkM : k < M
        · obtain ⟨g6, q6, y6, rfl, hy6, x6, hM6⟩ := (HLR6.out.below HR.out).at (j := k) (by rw [HR2.out.2.2.2.1]; exact hkM)
          have HM6 := hid hM6
          have HY6 := hid hy6
          have i4 : (0 : Int) ≤ (k : Int) := by omega
          have i5 : (k : Int) < (M : Int) := by omega
          clear hM6 hy6
          cases fb
          · have HMX := hid ((HX.out.1.below (HO6.out.below.trans (HR.out.mono HO6.out.below.size))).take kn)
            go_wp2_with fail
            go_quiet ((go_at_call 13; exact Calls.quiet_of_same (same_back (same_of _ _ _ _ _ _ y6 (xs.take kn) _ ⟨_, mem_drewN HM6.out _⟩ ⟨_, mem_drewN HMX.out _⟩ rfl HTK.out))))
            go_wp2_with fail
            go_roundw
            case rel =>
              refine ⟨k + 1, decide (y6 = xs.take kn), by omega, by go_num, rfl, hid (fun h => ?_), bdrewN HR.out _⟩
              by_cases hjk : j0 < k
              · exact absurd (HFB.out hjk) (by decide)
              · obtain rfl : j0 = k := by omega
                have := HR2.out.2.2.2.2.symm.trans HY6.out
                simp only [Option.some.injEq] at this
                simp [this]
            case measure => first | (simp [intOf]; done) | (simp [intOf]; omega)
          · go_wp2_with fail
            go_quiet (fail)
            go_wp2_with fail
            go_roundw
            case rel => exact ⟨k + 1, true, by omega, by go_num, rfl, hid (fun _ => rfl), bdrewN HR.out _⟩
            case measure => first | (simp [intOf]; done) | (simp [intOf]; omega)
        · have hk' : k = M := by omega
          subst hk'
          obtain rfl : fb = true := HFB.out hj0M
          replace HO6 := hid (HO6.out.call HR.out)
          have c7 := HO6.out.c
          have z7 := HO6.out.z
          clear c6 z6
          go_wp2_with (go_at_call 9; refine (check_of HR2.out.2.1 _).mono ?_; rintro e w8 ⟨rfl, hb8⟩; have HB8 := hid (HO6.out.below.trans (hb8.mono HO6.out.below.size)); clear hb8)
          go_ret
          exact ⟨rfl, HB8.out⟩
end Go.Proofs.Ytllnjmpakkodnaa
