/-
  Law 9: in which ways an operand is laid.
-/
import Derived.Test.YtiiepdgpnnjpiaaDoorMrTwo
import Derived.Test.YtiiepdgpnnjpiaaDoorMrBase
namespace Go.Proofs.YtiiepdgpnnjpiaaDoor
open Go.RowKit
set_option maxRecDepth 100000

theorem slice_form {w : World} {base n : Nat} {v : Value} {xs : List Value} {t : TypeId} {k : Nat} (h : w.ownsRow base t k v n xs) : ∃ A c, v = .slice A n c := by
  rcases h.2 with ⟨rfl, rfl⟩ | ⟨g, cap, cur, rfl, _⟩
  · exact ⟨none, 0, rfl⟩
  · exact ⟨_, _, rfl⟩
theorem allF_len (f : Int) (a : Ar) : (allF f a).length ≤ 9 := by
  unfold allF
  split
  · split
    · simp
    · exact waysF_len _ _
  · simp
theorem own_mono {w : World} {base base' n size : Nat} {e : TypeId} {v : Value} {xs : List Value} (h : w.ownsRow base e size v n xs) (hb : base' ≤ base) : w.ownsRow base' e size v n xs := by
  refine ⟨h.1, ?_⟩
  rcases h.2 with h0 | ⟨g, cap, cur, e1, e2, rest⟩
  · exact .inl h0
  · exact .inr ⟨g, cap, cur, e1, by omega, rest⟩
set_option maxHeartbeats 2000000 in
theorem lays_law (f k rc rn bc bn ic ix s d z n : Int) (w : World) (ht : Tz w) (_ : I64 f) (hs : I64 s) :
    Calls Tryd.prog 3 #[.int .i64 f, .agg #[.int .i64 k, .int .i64 rc, .int .i64 rn, .int .i64 bc, .int .i64 bn, .int .i64 ic, .int .i64 ix, .int .i64 s, .int .i64 d, .int .i64 z, .int .i64 n]] w fun e w' => e = .returned (.bool true) ∧ Below w.heap.size w w' := by
  have HT := hid ht
  have HS := hid hs
  have HO := hid ((Own.nil w).alloc w.heap.size #[.int .i64 k, .int .i64 rc, .int .i64 rn, .int .i64 bc, .int .i64 bn, .int .i64 ic, .int .i64 ix, .int .i64 s, .int .i64 d, .int .i64 z, .int .i64 n] 27 rfl)
  obtain ⟨er, her⟩ : ∃ er, allE f ⟨k, rc, rn, ⟨bc, bn, ic, ix, s, d, z⟩, n⟩ = er := ⟨_, rfl⟩
  obtain ⟨L, hL⟩ : ∃ L, allF f ⟨k, rc, rn, ⟨bc, bn, ic, ix, s, d, z⟩, n⟩ = L := ⟨_, rfl⟩
  have HE := hid (And.intro her hL)
  obtain ⟨N, hN⟩ : ∃ N, L.length = N := ⟨_, rfl⟩
  have HN := hid hN
  clear hN
  clear ht hs her hL
  go_enter Tryd.func3, Tryd.ntmps3
  go_wp2_with fail
  have H1 := mall_any f k rc rn bc bn ic ix s d z n HS.out _ (HT.out.below HO.out.below)
  unfold AV MAll at H1
  rw [HE.out.1, HE.out.2] at H1
  refine H1.mono ?_
  clear H1
  rintro e w1 ⟨v1, rfl, hb1, Z1, hy1, hr1, hh1, hn1⟩
  have HO := hid (HO.out.call hb1)
  have c0 := HO.out.c
  have z0 := HO.out.z
  have hl1 : Z1.length = N := by rw [← HN.out, ← hy1, List.length_map]
  rw [hl1] at hr1
  obtain ⟨A1, c1, rfl⟩ := slice_form hr1
  have HZ1 := hid (And.intro hy1 (And.intro hr1 (And.intro hh1 (And.intro hn1 hl1))))
  clear hl1 hy1 hr1 hh1 hn1 hb1
  go_wp2_with fail
  have H2 := rall_any f k rc rn bc bn ic ix s d z n w1
  unfold AV RAll at H2
  rw [HE.out.1, HE.out.2] at H2
  refine H2.mono ?_
  clear H2
  rintro e w2 ⟨v2, rfl, hb2, Z2, hy2, hr2, hh2⟩
  have HO := hid (HO.out.call hb2)
  have hl2 : Z2.length = N := by rw [← HN.out, ← hy2, List.length_map]
  rw [hl2] at hr2
  obtain ⟨A2, c2, rfl⟩ := slice_form hr2
  have hws : w.heap.size ≤ (w.alloc (.cells #[.int .i64 k, .int .i64 rc, .int .i64 rn, .int .i64 bc, .int .i64 bn, .int .i64 ic, .int .i64 ix, .int .i64 s, .int .i64 d, .int .i64 z, .int .i64 n] 27)).heap.size := by simp
  have HF := hid (show Fix w w1.heap.size N Z1 Z2 L from ⟨HZ1.out.1, hy2, fun z hz => ⟨Nat.le_trans hws (HZ1.out.2.2.1 z hz).1, (HZ1.out.2.2.1 z hz).2.lt⟩, HZ1.out.2.2.2.1, fun z hz => (hh2 z hz).1, HZ1.out.2.2.2.2, hl2⟩)
  have HB := hid (show Both w w1.heap.size N (.slice A1 N c1) (.slice A2 N c2) Z1 Z2 0 w2 from ⟨HO.out.below, own_mono ((Cells.below hb2).row HZ1.out.2.1) hws, fun j x _ hx => (Cells.below hb2).whole (HZ1.out.2.2.1 x (List.mem_of_getElem? hx)).2, hr2, fun x hx => (hh2 x hx).2⟩)
  have hn9 : N ≤ 9 := by rw [← HN.out, ← HE.out.2]; exact allF_len _ _
  clear hy2 hr2 hh2 hb2 hl2 HZ1 c0 z0 hws
  go_wp2
  go_loopw [9, 10] (fun i _ wr => ∃ k : Nat, k ≤ N ∧ i = .int .i64 k ∧ Both w w1.heap.size N (.slice A1 N c1) (.slice A2 N c2) Z1 Z2 k wr) (fun i _ _ => N - (intOf i).toNat)
  case atStart => exact ⟨0, by omega, rfl, HB.out⟩
  case round =>
    obtain ⟨k, hk, rfl, hbr⟩ := hrel
    have HR := hid hbr
    clear hbr
    by_cases hkn : k < N
    · obtain ⟨g1, g2, q1, q2, d1, d2, ⟨bs, yx, yb⟩, rfl, rfl, hg1, hg2, hz, ⟨x0, x1, x2⟩, ⟨y0, y1, y2⟩, hM1, hM2, hc1, hc2⟩ := HR.out.at_ HF.out (Nat.le_refl k) hkn
      simp only at x0 x1 x2 y0 y1 y2 hM1 hM2
      have HM1 := hid hM1
      have HM2 := hid hM2
      have HZ := hid hz
      clear hM1 hM2 hz
      have i0 : (0 : Int) ≤ (k : Int) := by omega
      have i1 : (k : Int) < (N : Int) := by omega
      go_wp2
      go_region_held3 (fun w' => Below wr.heap.size wr w' ∧ ∀ b o, b < wr.heap.size → w'.cell? ⟨b, o, none⟩ = wr.cell? ⟨b, o, none⟩) (first | with_reducible assumption | exact old_drew (Old.of (Below.refl wr.heap.size wr)) | exact Old.of (Below.refl wr.heap.size wr)) ((go_at_call 10; refine (same_yes (HM1.out.below (And.left ‹Below wr.heap.size wr _ ∧ _›)) (HM2.out.below (And.left ‹Below wr.heap.size wr _ ∧ _›)) rfl rfl).mono ?_; rintro e w5 ⟨rfl, rfl⟩))
      have hsz : wr.drew.heap.size = wr.heap.size := rfl
      obtain ⟨zs, hzb, hzl, _, _, hz63⟩ := HR.out.h1 k _ (Nat.le_refl _) HZ.out
      simp only at hzb hzl hz63
      have HOV := hid (overb_any q1 bs.length zs d1 hzl wr.drew hzb hz63)
      clear hzb hzl hz63 hsz
      go_wp2_with fail
      refine HOV.out.mono ?_
      rintro e w5 ⟨rfl, hg5⟩
      have HQ := hid (HR.out.drew.over HF.out HZ.out hg5)
      clear HR HM1 HM2 HZ hg5 HOV x0 x1 x2 y0 y1 y2 hg1 hg2
      go_wp2
      obtain ⟨wo, rfl⟩ : ∃ wo : World, wo = wr := ⟨_, rfl⟩
      go_loopw [10] (fun j wj => ∃ m : Nat, k + 1 ≤ m ∧ m ≤ N ∧ j = .int .i64 m ∧ Both w w1.heap.size N (.slice (some ⟨g1, 0, none⟩) N c1) (.slice (some ⟨g2, 0, none⟩) N c2) Z1 Z2 (k + 1) wj) (fun j _ => N - (intOf j).toNat)
      case atStart => exact ⟨k + 1, by omega, by omega, by go_num, HQ.out⟩
      case round =>
        obtain ⟨m, hkm, hm, rfl, hbj⟩ := hrel
        clear HQ
        have HR := hid hbj
        clear hbj
        by_cases hmn : m < N
        · obtain ⟨g1', g2', p1, p2, f1, f2, ⟨bs', yx', yb'⟩, e1, e2, hg1, hg2, hz, ⟨x0, x1, x2⟩, ⟨y0, y1, y2⟩, hM1, hM2, -, -⟩ := HR.out.at_ HF.out hkm hmn
          simp only [Option.some.injEq, Addr.mk.injEq, and_true] at e1 e2
          subst e1 e2
          simp only at x0 y0 hM1 hM2
          have HM1 := hid hM1
          have HM2 := hid hM2
          clear hM1 hM2 hz x1 x2 y1 y2
          have j0 : (0 : Int) ≤ (m : Int) := by omega
          have j1 : (m : Int) < (N : Int) := by omega
          go_wp2
          go_region_held3 (fun w' => Below wr.heap.size wr w' ∧ ∀ b o, b < wr.heap.size → w'.cell? ⟨b, o, none⟩ = wr.cell? ⟨b, o, none⟩) (first | with_reducible assumption | exact old_drew (Old.of (Below.refl wr.heap.size wr)) | exact Old.of (Below.refl wr.heap.size wr)) ((go_at_call 10; refine (same_yes (HM1.out.below (And.left ‹Below wr.heap.size wr _ ∧ _›)) (HM2.out.below (And.left ‹Below wr.heap.size wr _ ∧ _›)) rfl rfl).mono ?_; rintro e w5 ⟨rfl, rfl⟩))
          go_wp2
          go_roundw
          case rel => exact ⟨m + 1, by omega, by omega, by go_num, HR.out.drew⟩
          case measure => simp [intOf]; omega
        · go_wp2
          go_roundw
          case rel => exact ⟨k + 1, by omega, by go_num, HR.out⟩
          case measure => simp [intOf]; omega
    · have hk' : k = N := by omega
      subst hk'
      go_wp2_with fail
      refine (lawake_any wr (HT.out.below HR.out.bel)).mono ?_
      rintro e w5 ⟨rfl, hb5⟩
      have HB5 := hid (HR.out.bel.trans (hb5.mono HR.out.bel.size))
      clear hb5
      go_wp2
      go_ret
      exact ⟨rfl, HB5.out⟩
end Go.Proofs.YtiiepdgpnnjpiaaDoor
