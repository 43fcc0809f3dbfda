/-
  Law 9: what is read is laid so.
-/
import Derived.Test.YtiiepdgpnnjpiaaDoorFoundAll
import Derived.Test.YtiiepdgpnnjpiaaDoorMrKnown
namespace Go.Proofs.YtiiepdgpnnjpiaaDoor
open Go.RowKit
set_option maxRecDepth 100000

set_option maxHeartbeats 1000000 in
theorem found_fail (A : Option Addr) (m c : Nat) (xs : List Int) (x b er : Int) (w : World) (ht : Tz w) (hx : Mem w w.heap.size A xs) (hm : xs.length = m) (hc : m ≤ c) (h30 : m ≤ 30) (he : (er != 0) = true) (hR : readA xs 0 x b = (er, zeroS, 0)) :
    Calls Tryd.prog 7 #[.slice A m c, .int .i64 x, .int .i64 b] w fun e w' => e = .returned (.bool true) ∧ Below w.heap.size w w' := by
  have HT := hid ht
  have HX := hid hx
  have HR := hid hR
  have HM := hid hm
  have heq := run_eql_seen (seenEq_self zeroS 0)
  simp only [zeroS, zeroM] at heq
  have hle : ¬ (30 : Int) < (m : Int) := by omega
  clear ht hx hR hm
  go_enter Tryd.func7, Tryd.ntmps7
  go_wp2_with fail
  refine (lawake_any w HT.out).mono ?_
  rintro e w1 ⟨rfl, hb1⟩
  have HB1 := hid hb1
  clear hb1
  go_wp2_with fail
  have H2 := mread_any A m c 0 x b xs w1 HM.out hc (by omega) ((HX.out.below HB1.out).mono HB1.out.size)
  rw [HR.out] at H2
  refine H2.mono ?_
  clear H2
  rintro e w2 ⟨rfl, hb2⟩
  simp only [RV, zeroS, zeroM]
  have HB2 := hid (HB1.out.trans (hb2.mono HB1.out.size))
  clear hb2
  go_wp2
  go_ret
  exact ⟨rfl, HB2.out.alloc HB2.out.size _⟩

set_option maxHeartbeats 2000000 in
theorem found_reg (A : Option Addr) (m c : Nat) (xs : List Int) (x b f r p0 p1 p2 p3 p4 p5 : Int) (n i0 : Nat) (L : List Way) (w : World) (ht : Tz w) (hx : Mem w w.heap.size A xs) (hm : xs.length = m) (hc : m ≤ c) (h30 : m ≤ 30) (hn1 : 1 ≤ n) (hnm : n ≤ m) (hp4 : I64 p4) (hr : 0 ≤ r)
    (hR : readA xs 0 x b = (0, (⟨f, r, ⟨p0, p1, p2, p3, p4, p5, 0⟩, n⟩ : Sn), (n : Int))) (hE : allE f ⟨1, 6, r, ⟨0, 0, 0, 0, 0, 0, 0⟩, 0⟩ = 0) (hF : allF f ⟨1, 6, r, ⟨0, 0, 0, 0, 0, 0, 0⟩, 0⟩ = L) (hi : L[i0]? = some ⟨xs.take n, x, b⟩) :
    Calls Tryd.prog 7 #[.slice A m c, .int .i64 x, .int .i64 b] w fun e w' => e = .returned (.bool true) ∧ Below w.heap.size w w' := by
  have HT := hid ht
  have HX := hid hx
  have HR := hid hR
  have HM := hid hm
  have HE := hid (And.intro hE hF)
  have HI := hid hi
  have HP := hid hp4
  have hle : ¬ (30 : Int) < (m : Int) := by omega
  have n0 : (0 : Int) ≤ (n : Int) := by omega
  have n1 : ¬ (n : Int) < 1 := by omega
  have n2 : ¬ (m : Int) < (n : Int) := by omega
  have n3 : (n : Int) ≤ (c : Int) := by omega
  clear ht hx hR hm hE hF hi hp4
  go_enter Tryd.func7, Tryd.ntmps7
  go_wp2_with fail
  refine (lawake_any w HT.out).mono ?_
  rintro e w1 ⟨rfl, hb1⟩
  have HB1 := hid hb1
  clear hb1
  go_wp2_with fail
  have H2 := mread_any A m c 0 x b xs w1 HM.out hc (by omega) ((HX.out.below HB1.out).mono HB1.out.size)
  rw [HR.out] at H2
  refine H2.mono ?_
  clear H2
  rintro e w2 ⟨rfl, hb2⟩
  simp only [RV]
  have HB2 := hid (HB1.out.trans (hb2.mono HB1.out.size))
  clear hb2
  have HO := hid ((Own.nil w2).alloc w2.heap.size #[.int .i64 f, .int .i64 r, .int .i64 p0, .int .i64 p1, .int .i64 p2, .int .i64 p3, .int .i64 p4, .int .i64 p5, .int .i64 0, .int .i64 n] 41 rfl)
  go_wp2_with fail
  refine (lplace_any _ _ _ _ _ _ _ _).mono ?_
  rintro e w3 ⟨rfl, hb3⟩
  have HO := hid (HO.out.call hb3)
  have a0 := HO.out.a
  have z0 := HO.out.z
  clear hb3
  go_wp2_with fail
  have HO := hid (HO.out.alloc w3.heap.size #[.int .i64 1, .int .i64 6, .int .i64 r, .int .i64 0, .int .i64 0, .int .i64 0, .int .i64 0, .int .i64 0, .int .i64 0, .int .i64 0, .int .i64 0] 27 rfl)
  have H3 := mall_any f 1 6 r 0 0 0 0 0 0 0 0 (by first | exact HP.out | (unfold I64; omega)) _ (HT.out.below (HB2.out.trans (HO.out.below.mono HB2.out.size)))
  unfold AV MAll at H3
  rw [HE.out.1, HE.out.2] at H3
  refine H3.mono ?_
  clear H3 a0 z0
  rintro e w4 ⟨v, rfl, hb4, Z, hZ1, hZ2, hZ3, -⟩
  have HO := hid (HO.out.call hb4)
  obtain ⟨N, hN⟩ : ∃ N, Z.length = N := ⟨_, rfl⟩
  have hNL : L.length = N := by rw [← hN, ← hZ1, List.length_map]
  have hiN : i0 < N := by rw [← hNL]; exact (List.getElem?_eq_some_iff.1 HI.out).1
  have hN9 : N ≤ 9 := by rw [← hNL, ← HE.out.2]; exact allF_len _ _
  rw [hN] at hZ2
  obtain ⟨g, c', rfl, hle', hg, cs, hcs⟩ := row_form hZ2 (by omega)
  have hgl : g < w4.heap.size := (Array.getElem?_eq_some_iff.1 hcs).1
  have HZ := hid (And.intro hZ1 (And.intro hN (And.intro hZ2 hZ3)))
  have c0 := HO.out.swap.c
  have z0 := HO.out.swap.z
  clear hZ1 hN hZ2 hZ3 hcs hg hb4 hNL
  go_wp2_with fail
  go_loopw [13] (fun i wr => ∃ k : Nat, k ≤ i0 ∧ i = .int .i64 k ∧ Below w4.heap.size w4 wr) (fun i _ => N - (intOf i).toNat)
  case atStart => exact ⟨0, by omega, rfl, Below.refl _ _⟩
  case round =>
    obtain ⟨k, hk, rfl, hbr⟩ := hrel
    have hkz : k < Z.length := by rw [HZ.out.2.1]; omega
    have hz : Z[k]? = some Z[k] := List.getElem?_eq_getElem hkz
    generalize Z[k] = z at hz
    have hyk : L[k]? = some z.y := by rw [← HZ.out.1, List.getElem?_map, hz]; rfl
    have hby : isBytes z.y.bs := allF_bytes (by rw [HE.out.2]; exact List.mem_of_getElem? hyk)
    have hwh := (HZ.out.2.2.2 _ (List.mem_of_getElem? hz)).2
    have hcell := row_at HZ.out.2.2.1 HZ.out.2.1 hz
    have hM1 : Mem wr wr.heap.size (some ⟨z.g, 0, none⟩) z.y.bs := hwh.below hby hbr hbr.size
    have hbw : Below w.heap.size w wr := (HB2.out.trans (HO.out.below.mono HB2.out.size)).trans (hbr.mono (HB2.out.trans (HO.out.below.mono HB2.out.size)).size)
    have hM2 : Mem wr wr.heap.size A (xs.take n) := ((HX.out.below hbw).mono hbw.size).take n
    have hlt : (xs.take n).length = n := by rw [List.length_take, HM.out]; omega
    obtain ⟨q, kk, bs, yx, yb⟩ := z
    simp only at hyk hcell hM1
    have x0 := (hbr.cell (p := ⟨g, k * 3, none⟩) hgl).trans hcell.1
    have x1 := (hbr.cell (p := ⟨g, k * 3 + 1, none⟩) hgl).trans hcell.2.1
    have x2 := (hbr.cell (p := ⟨g, k * 3 + 2, none⟩) hgl).trans hcell.2.2
    have s9 : wr.cell? ⟨w2.heap.size, 9, none⟩ = some (.int .i64 n) := (hbr.cell (p := ⟨w2.heap.size, 9, none⟩) z0).trans (c0 9)
    have HM1 := hid hM1
    have HM2 := hid (And.intro hM2 hlt)
    have HB5 := hid hbw
    have HR5 := hid hbr
    have i1 : (0 : Int) ≤ (k : Int) := by omega
    have i2 : (k : Int) < (N : Int) := by omega
    have HYK := hid hyk
    clear hM1 hM2 hlt hbw hbr hyk hby hwh hcell hz hkz c0
    by_cases h1 : (yx == x) = true
    · by_cases h2 : (yb == b) = true
      · obtain ⟨v, hv⟩ : ∃ v, decide (bs = xs.take n) = v := ⟨_, rfl⟩
        have HV := hid hv
        clear hv
        cases v
        · have hkk : k + 1 ≤ i0 := by
            rcases Nat.lt_or_ge k i0 with h0 | h0
            · omega
            · exfalso
              have hki : k = i0 := by omega
              subst hki
              have he := HYK.out.symm.trans HI.out
              simp only [Option.some.injEq, Way.mk.injEq] at he
              have := HV.out; simp [he.1] at this
          go_wp2_with fail
          go_quiet ((go_at_call 10; exact Calls.quiet_of_same (same_told HV.out (HM1.out.drewN _) (HM2.out.1.drewN _) rfl HM2.out.2)))
          go_wp2
          go_roundw
          case rel => exact ⟨k + 1, hkk, by go_num, bdrewN HR5.out _⟩
          case measure => simp [intOf]; omega
        · go_wp2_with fail
          go_quiet ((go_at_call 10; exact Calls.quiet_of_same (same_told HV.out (HM1.out.drewN _) (HM2.out.1.drewN _) rfl HM2.out.2)))
          go_wp2
          go_ret
          exact ⟨rfl, bdrewN HB5.out _⟩
      · have hkk : k + 1 ≤ i0 := by
          rcases Nat.lt_or_ge k i0 with h0 | h0
          · omega
          · exfalso
            have hki : k = i0 := by omega
            subst hki
            have he := HYK.out.symm.trans HI.out
            simp only [Option.some.injEq, Way.mk.injEq] at he
            exact h2 (by simp [he.2.2])
        have h2' : (yb == b) = false := by simpa using h2
        clear h2
        go_wp2_with fail
        go_quiet (fail)
        go_wp2
        go_roundw
        case rel => exact ⟨k + 1, hkk, by go_num, bdrewN HR5.out _⟩
        case measure => simp [intOf]; omega
    · have hkk : k + 1 ≤ i0 := by
        rcases Nat.lt_or_ge k i0 with h0 | h0
        · omega
        · exfalso
          have hki : k = i0 := by omega
          subst hki
          have he := HYK.out.symm.trans HI.out
          simp only [Option.some.injEq, Way.mk.injEq] at he
          exact h1 (by simp [he.2.1])
      have h1' : (yx == x) = false := by simpa using h1
      clear h1
      go_wp2_with fail
      go_quiet (fail)
      go_wp2
      go_roundw
      case rel => exact ⟨k + 1, hkk, by go_num, bdrewN HR5.out _⟩
      case measure => simp [intOf]; omega

set_option maxHeartbeats 2000000 in
theorem found_mem (A : Option Addr) (m c : Nat) (xs : List Int) (x b f r p0 p1 p2 p3 p4 p5 : Int) (n i0 : Nat) (L : List Way) (w : World) (ht : Tz w) (hx : Mem w w.heap.size A xs) (hm : xs.length = m) (hc : m ≤ c) (h30 : m ≤ 30) (hn1 : 1 ≤ n) (hnm : n ≤ m) (hp4 : I64 p4) (hr : ¬ 0 ≤ r)
    (hR : readA xs 0 x b = (0, (⟨f, r, ⟨p0, p1, p2, p3, p4, p5, 0⟩, n⟩ : Sn), (n : Int))) (hE : allE f ⟨2, 0, 0, ⟨p0, p1, p2, p3, p4, p5, 0⟩, 0⟩ = 0) (hF : allF f ⟨2, 0, 0, ⟨p0, p1, p2, p3, p4, p5, 0⟩, 0⟩ = L) (hi : L[i0]? = some ⟨xs.take n, x, b⟩) :
    Calls Tryd.prog 7 #[.slice A m c, .int .i64 x, .int .i64 b] w fun e w' => e = .returned (.bool true) ∧ Below w.heap.size w w' := by
  have HT := hid ht
  have HX := hid hx
  have HR := hid hR
  have HM := hid hm
  have HE := hid (And.intro hE hF)
  have HI := hid hi
  have HP := hid hp4
  have hle : ¬ (30 : Int) < (m : Int) := by omega
  have n0 : (0 : Int) ≤ (n : Int) := by omega
  have n1 : ¬ (n : Int) < 1 := by omega
  have n2 : ¬ (m : Int) < (n : Int) := by omega
  have n3 : (n : Int) ≤ (c : Int) := by omega
  clear ht hx hR hm hE hF hi hp4
  go_enter Tryd.func7, Tryd.ntmps7
  go_wp2_with fail
  refine (lawake_any w HT.out).mono ?_
  rintro e w1 ⟨rfl, hb1⟩
  have HB1 := hid hb1
  clear hb1
  go_wp2_with fail
  have H2 := mread_any A m c 0 x b xs w1 HM.out hc (by omega) ((HX.out.below HB1.out).mono HB1.out.size)
  rw [HR.out] at H2
  refine H2.mono ?_
  clear H2
  rintro e w2 ⟨rfl, hb2⟩
  simp only [RV]
  have HB2 := hid (HB1.out.trans (hb2.mono HB1.out.size))
  clear hb2
  have HO := hid ((Own.nil w2).alloc w2.heap.size #[.int .i64 f, .int .i64 r, .int .i64 p0, .int .i64 p1, .int .i64 p2, .int .i64 p3, .int .i64 p4, .int .i64 p5, .int .i64 0, .int .i64 n] 41 rfl)
  go_wp2_with fail
  refine (lplace_any _ _ _ _ _ _ _ _).mono ?_
  rintro e w3 ⟨rfl, hb3⟩
  have HO := hid (HO.out.call hb3)
  have a0 := HO.out.a
  have z0 := HO.out.z
  clear hb3
  go_wp2_with fail
  have HO := hid (HO.out.alloc w3.heap.size #[.int .i64 2, .int .i64 0, .int .i64 0, .int .i64 p0, .int .i64 p1, .int .i64 p2, .int .i64 p3, .int .i64 p4, .int .i64 p5, .int .i64 0, .int .i64 0] 27 rfl)
  have H3 := mall_any f 2 0 0 p0 p1 p2 p3 p4 p5 0 0 (by first | exact HP.out | (unfold I64; omega)) _ (HT.out.below (HB2.out.trans (HO.out.below.mono HB2.out.size)))
  unfold AV MAll at H3
  rw [HE.out.1, HE.out.2] at H3
  refine H3.mono ?_
  clear H3 a0 z0
  rintro e w4 ⟨v, rfl, hb4, Z, hZ1, hZ2, hZ3, -⟩
  have HO := hid (HO.out.call hb4)
  obtain ⟨N, hN⟩ : ∃ N, Z.length = N := ⟨_, rfl⟩
  have hNL : L.length = N := by rw [← hN, ← hZ1, List.length_map]
  have hiN : i0 < N := by rw [← hNL]; exact (List.getElem?_eq_some_iff.1 HI.out).1
  have hN9 : N ≤ 9 := by rw [← hNL, ← HE.out.2]; exact allF_len _ _
  rw [hN] at hZ2
  obtain ⟨g, c', rfl, hle', hg, cs, hcs⟩ := row_form hZ2 (by omega)
  have hgl : g < w4.heap.size := (Array.getElem?_eq_some_iff.1 hcs).1
  have HZ := hid (And.intro hZ1 (And.intro hN (And.intro hZ2 hZ3)))
  have c0 := HO.out.swap.c
  have z0 := HO.out.swap.z
  clear hZ1 hN hZ2 hZ3 hcs hg hb4 hNL
  go_wp2_with fail
  go_loopw [13] (fun i wr => ∃ k : Nat, k ≤ i0 ∧ i = .int .i64 k ∧ Below w4.heap.size w4 wr) (fun i _ => N - (intOf i).toNat)
  case atStart => exact ⟨0, by omega, rfl, Below.refl _ _⟩
  case round =>
    obtain ⟨k, hk, rfl, hbr⟩ := hrel
    have hkz : k < Z.length := by rw [HZ.out.2.1]; omega
    have hz : Z[k]? = some Z[k] := List.getElem?_eq_getElem hkz
    generalize Z[k] = z at hz
    have hyk : L[k]? = some z.y := by rw [← HZ.out.1, List.getElem?_map, hz]; rfl
    have hby : isBytes z.y.bs := allF_bytes (by rw [HE.out.2]; exact List.mem_of_getElem? hyk)
    have hwh := (HZ.out.2.2.2 _ (List.mem_of_getElem? hz)).2
    have hcell := row_at HZ.out.2.2.1 HZ.out.2.1 hz
    have hM1 : Mem wr wr.heap.size (some ⟨z.g, 0, none⟩) z.y.bs := hwh.below hby hbr hbr.size
    have hbw : Below w.heap.size w wr := (HB2.out.trans (HO.out.below.mono HB2.out.size)).trans (hbr.mono (HB2.out.trans (HO.out.below.mono HB2.out.size)).size)
    have hM2 : Mem wr wr.heap.size A (xs.take n) := ((HX.out.below hbw).mono hbw.size).take n
    have hlt : (xs.take n).length = n := by rw [List.length_take, HM.out]; omega
    obtain ⟨q, kk, bs, yx, yb⟩ := z
    simp only at hyk hcell hM1
    have x0 := (hbr.cell (p := ⟨g, k * 3, none⟩) hgl).trans hcell.1
    have x1 := (hbr.cell (p := ⟨g, k * 3 + 1, none⟩) hgl).trans hcell.2.1
    have x2 := (hbr.cell (p := ⟨g, k * 3 + 2, none⟩) hgl).trans hcell.2.2
    have s9 : wr.cell? ⟨w2.heap.size, 9, none⟩ = some (.int .i64 n) := (hbr.cell (p := ⟨w2.heap.size, 9, none⟩) z0).trans (c0 9)
    have HM1 := hid hM1
    have HM2 := hid (And.intro hM2 hlt)
    have HB5 := hid hbw
    have HR5 := hid hbr
    have i1 : (0 : Int) ≤ (k : Int) := by omega
    have i2 : (k : Int) < (N : Int) := by omega
    have HYK := hid hyk
    clear hM1 hM2 hlt hbw hbr hyk hby hwh hcell hz hkz c0
    by_cases h1 : (yx == x) = true
    · by_cases h2 : (yb == b) = true
      · obtain ⟨v, hv⟩ : ∃ v, decide (bs = xs.take n) = v := ⟨_, rfl⟩
        have HV := hid hv
        clear hv
        cases v
        · have hkk : k + 1 ≤ i0 := by
            rcases Nat.lt_or_ge k i0 with h0 | h0
            · omega
            · exfalso
              have hki : k = i0 := by omega
              subst hki
              have he := HYK.out.symm.trans HI.out
              simp only [Option.some.injEq, Way.mk.injEq] at he
              have := HV.out; simp [he.1] at this
          go_wp2_with fail
          go_quiet ((go_at_call 10; exact Calls.quiet_of_same (same_told HV.out (HM1.out.drewN _) (HM2.out.1.drewN _) rfl HM2.out.2)))
          go_wp2
          go_roundw
          case rel => exact ⟨k + 1, hkk, by go_num, bdrewN HR5.out _⟩
          case measure => simp [intOf]; omega
        · go_wp2_with fail
          go_quiet ((go_at_call 10; exact Calls.quiet_of_same (same_told HV.out (HM1.out.drewN _) (HM2.out.1.drewN _) rfl HM2.out.2)))
          go_wp2
          go_ret
          exact ⟨rfl, bdrewN HB5.out _⟩
      · have hkk : k + 1 ≤ i0 := by
          rcases Nat.lt_or_ge k i0 with h0 | h0
          · omega
          · exfalso
            have hki : k = i0 := by omega
            subst hki
            have he := HYK.out.symm.trans HI.out
            simp only [Option.some.injEq, Way.mk.injEq] at he
            exact h2 (by simp [he.2.2])
        have h2' : (yb == b) = false := by simpa using h2
        clear h2
        go_wp2_with fail
        go_quiet (fail)
        go_wp2
        go_roundw
        case rel => exact ⟨k + 1, hkk, by go_num, bdrewN HR5.out _⟩
        case measure => simp [intOf]; omega
    · have hkk : k + 1 ≤ i0 := by
        rcases Nat.lt_or_ge k i0 with h0 | h0
        · omega
        · exfalso
          have hki : k = i0 := by omega
          subst hki
          have he := HYK.out.symm.trans HI.out
          simp only [Option.some.injEq, Way.mk.injEq] at he
          exact h1 (by simp [he.2.1])
      have h1' : (yx == x) = false := by simpa using h1
      clear h1
      go_wp2_with fail
      go_quiet (fail)
      go_wp2
      go_roundw
      case rel => exact ⟨k + 1, hkk, by go_num, bdrewN HR5.out _⟩
      case measure => simp [intOf]; omega
theorem found_law (A : Option Addr) (c : Nat) (xs : List Int) (x b : Int) (w : World) (ht : Tz w) (hx : Mem w w.heap.size A xs) (hc : xs.length ≤ c) (_ : c ≤ 9223372036854775807) (_ : I64 x) (_ : I64 b) :
    Calls Tryd.prog 7 #[.slice A xs.length c, .int .i64 x, .int .i64 b] w fun e w' => e = .returned (.bool true) ∧ Below w.heap.size w w' := by
  by_cases h30 : xs.length ≤ 30
  · have e0 : readA xs 0 x b = if (0 : Int) < 0 ∨ (xs.length : Int) < 0 ∨ ¬ (x = 0 ∨ x = 1) ∨ ¬ (b = 0 ∨ b = 1) then (5, zeroS, 0) else if (readF x b (xs.take 15)).1 = 0 then (0, (readF x b (xs.take 15)).2, (0 : Int) + (readF x b (xs.take 15)).2.n) else ((readF x b (xs.take 15)).1, zeroS, 0) := rfl
    by_cases hb : (0 : Int) < 0 ∨ (xs.length : Int) < 0 ∨ ¬ (x = 0 ∨ x = 1) ∨ ¬ (b = 0 ∨ b = 1)
    · rw [if_pos hb] at e0
      exact found_fail A _ c xs x b 5 w ht hx rfl hc h30 (by decide) e0
    · rw [if_neg hb] at e0
      by_cases h0 : (readF x b (xs.take 15)).1 = 0
      · rw [if_pos h0] at e0
        obtain ⟨⟨er, f, r, ⟨p0, p1, p2, p3, p4, p5, p6⟩, n⟩, hR⟩ : ∃ R, readF x b (xs.take 15) = R := ⟨_, rfl⟩
        rw [hR] at h0 e0
        simp only at h0 e0
        subst h0
        have hxb : (0 ≤ x ∧ x ≤ 1) ∧ (0 ≤ b ∧ b ≤ 1) := by omega
        obtain ⟨hf, hn1, hn2, hz, hcase⟩ := found_plain (hx.1.take 15) hxb.1 hxb.2 hR
        simp only at hz
        subst hz
        rw [List.length_take] at hn2
        have htk : (xs.take 15).take n = xs.take n := by rw [List.take_take]; congr 1; omega
        rw [htk] at hcase
        have hR0 : readA xs 0 x b = (0, (⟨f, r, ⟨p0, p1, p2, p3, p4, p5, 0⟩, n⟩ : Sn), (n : Int)) := by rw [e0]; simp
        rcases hcase with ⟨hr, hm, hv, hw⟩ | ⟨hr, hck, hcn, hw⟩
        · have hE : allE f ⟨1, 6, r, ⟨0, 0, 0, 0, 0, 0, 0⟩, 0⟩ = 0 := by
            unfold allE
            rw [if_neg (by omega), if_pos (by simp [argF, hv])]
            simp
          have hF : allF f ⟨1, 6, r, ⟨0, 0, 0, 0, 0, 0, 0⟩, 0⟩ = [regWay f 6 r] := by
            unfold allF
            rw [if_pos hE]
            simp
          simp only [zeroM, Pl.mk.injEq] at hm
          obtain ⟨rfl, rfl, rfl, rfl, rfl, rfl, -⟩ := hm
          exact found_reg A _ c xs x b f r 0 0 0 0 0 0 n 0 _ w ht hx rfl hc h30 hn1 (by omega) (by unfold I64; omega) hr hR0 hE hF (by rw [hw]; rfl)
        · have hE : allE f ⟨2, 0, 0, ⟨p0, p1, p2, p3, p4, p5, 0⟩, 0⟩ = 0 := by
            unfold allE
            rw [if_neg (by omega), if_pos (by simp [argF, hck])]
            simp
          have hF : allF f ⟨2, 0, 0, ⟨p0, p1, p2, p3, p4, p5, 0⟩, 0⟩ = waysF f ⟨p0, p1, p2, p3, p4, p5, 0⟩ := by
            unfold allF
            rw [if_pos hE, hcn]
            simp
          obtain ⟨i0, hi⟩ := List.getElem?_of_mem hw
          have hsh := (canon_shape hck).1
          rw [hcn] at hsh
          have hs4 : I64 p4 := by
            unfold Shape at hsh
            simp only at hsh
            unfold I64
            omega
          exact found_mem A _ c xs x b f r p0 p1 p2 p3 p4 p5 n i0 _ w ht hx rfl hc h30 hn1 (by omega) hs4 (by omega) hR0 hE hF hi
      · rw [if_neg h0] at e0
        exact found_fail A _ c xs x b _ w ht hx rfl hc h30 (by simpa using h0) e0
  · have HT := hid ht
    clear ht hx
    have hle : (30 : Int) < (xs.length : Int) := by omega
    go_enter Tryd.func7, Tryd.ntmps7
    go_wp2_with fail
    refine (lawake_any w HT.out).mono ?_
    rintro e w7 ⟨rfl, hb7⟩
    have HB7 := hid hb7
    clear hb7
    go_wp2
    go_ret
    exact ⟨rfl, HB7.out⟩
end Go.Proofs.YtiiepdgpnnjpiaaDoor
