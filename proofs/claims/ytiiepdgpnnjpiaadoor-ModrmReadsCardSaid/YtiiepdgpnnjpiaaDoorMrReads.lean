/-
  Law 9: what bytes tell, of both sides.
-/
import Derived.Test.YtiiepdgpnnjpiaaDoorMrBase
import Derived.Test.YtiiepdgpnnjpiaaDoorFKept
namespace Go.Proofs.YtiiepdgpnnjpiaaDoor
open Go.RowKit
set_option maxRecDepth 100000

theorem lent_mem {w : World} {g : Nat} {xs : List Int} (hx : isBytes xs) (h : ByB w g 5 (lent xs)) : Mem w w.heap.size (some ⟨g, 0, none⟩) xs := by
  have := (h.mem (B := w.heap.size) (lent_bytes hx) h.lt).take xs.length
  have e : (lent xs).take xs.length = xs := by simp [lent]
  rw [e] at this
  exact this
set_option maxHeartbeats 2000000 in
theorem reads_in (A : Option Addr) (c : Nat) (xs : List Int) (at_ x b : Int) (w : World) (ht : Tz w) (hx : Mem w w.heap.size A xs) (hc : xs.length ≤ c) (h100 : xs.length ≤ 100) :
    Calls Tryd.prog 4 #[.slice A xs.length c, .int .i64 at_, .int .i64 x, .int .i64 b] w fun e w' => e = .returned (.bool true) ∧ Below w.heap.size w w' := by
  obtain ⟨⟨er, ⟨f, r, ⟨p0, p1, p2, p3, p4, p5, p6⟩, n⟩, k⟩, hR⟩ : ∃ R, readA xs at_ x b = R := ⟨_, rfl⟩
  have HR := hid hR
  have HX := hid hx
  have HT := hid ht
  have heq := run_eql_seen (seenEq_self ⟨f, r, ⟨p0, p1, p2, p3, p4, p5, p6⟩, n⟩ k)
  simp only at heq
  clear hR hx ht
  have hle : ¬ (100 : Int) < (xs.length : Int) := by omega
  generalize hm : xs.length = m at *
  have HM := hid hm
  go_enter Tryd.func4, Tryd.ntmps4
  go_wp2_with fail
  have H1 := lent_any A c xs w w.heap.size HX.out (by rw [HM.out]; omega) (Nat.le_refl _)
  rw [HM.out] at H1
  refine H1.mono ?_
  rintro e w1 ⟨rfl, hb1, hk1⟩
  have HB1 := hid hb1
  have HK1 := hid hk1
  clear hb1 hk1 H1
  have hz1 : w.heap.size < w1.heap.size := HK1.out.lt
  go_wp2_with fail
  have H2 := mread_any (some ⟨w.heap.size, 0, none⟩) m (m + 3) at_ x b xs w1 HM.out (by omega) (by omega) (lent_mem HX.out.1 HK1.out)
  rw [HR.out] at H2
  refine H2.mono ?_
  rintro e w2 ⟨rfl, hb2⟩
  simp only [RV]
  have HB2 := hid hb2
  clear hb2 H2
  go_wp2_with fail
  have HO := hid ((Own.nil w2).alloc w2.heap.size #[.int .i64 f, .int .i64 r, .int .i64 p0, .int .i64 p1, .int .i64 p2, .int .i64 p3, .int .i64 p4, .int .i64 p5, .int .i64 p6, .int .i64 k] 41 rfl)
  generalize w2.alloc (.cells #[.int .i64 f, .int .i64 r, .int .i64 p0, .int .i64 p1, .int .i64 p2, .int .i64 p3, .int .i64 p4, .int .i64 p5, .int .i64 p6, .int .i64 k] 41) = w3 at *
  have HB3 := hid ((HB1.out.trans (HB2.out.mono HB1.out.size)).trans (HO.out.below.mono (Nat.le_trans HB1.out.size HB2.out.size)))
  have H3 := dread_any A m c at_ x b xs w3 HM.out (by omega) (by omega) ((HX.out.below HB3.out).mono HB3.out.size)
  rw [HR.out] at H3
  refine H3.mono ?_
  rintro e w4 ⟨rfl, hb4⟩
  simp only [RV]
  have HO := hid (HO.out.call hb4)
  have HB4 := hid hb4
  clear hb4 H3
  have a0 := HO.out.a
  have z0 := HO.out.z
  go_wp2_with fail
  have HO := hid (HO.out.alloc w4.heap.size #[.int .i64 f, .int .i64 r, .int .i64 p0, .int .i64 p1, .int .i64 p2, .int .i64 p3, .int .i64 p4, .int .i64 p5, .int .i64 p6, .int .i64 k] 41 rfl)
  generalize w4.alloc (.cells #[.int .i64 f, .int .i64 r, .int .i64 p0, .int .i64 p1, .int .i64 p2, .int .i64 p3, .int .i64 p4, .int .i64 p5, .int .i64 p6, .int .i64 k] 41) = w5 at *
  have HB5 := hid ((HB1.out.trans (HB2.out.mono HB1.out.size)).trans (HO.out.below.mono (Nat.le_trans HB1.out.size HB2.out.size)))
  have HK5 := hid (HK1.out.below (HB2.out.trans (HO.out.below.mono HB2.out.size)) HK1.out.lt)
  have H4 := keptb_any w.heap.size A c xs (lent xs) w5 w5.heap.size HK5.out (lent_bytes HX.out.1) (lent_length xs) ((HX.out.below HB5.out).mono HB5.out.size) (by rw [HM.out]; omega) (Nat.le_refl _)
  rw [HM.out] at H4
  refine H4.mono ?_
  rintro e w6 ⟨rfl, hb6⟩
  have hd : decide (lent xs = lent xs) = true := by simp
  rw [hd]
  have HB6 := hid (HB5.out.trans (hb6.mono HB5.out.size))
  clear hb6 H4 hd
  go_wp2_with fail
  refine (lawake_any w6 (HT.out.below HB6.out)).mono ?_
  rintro e w7 ⟨rfl, hb7⟩
  have HB7 := hid (HB6.out.trans (hb7.mono HB6.out.size))
  clear hb7
  go_wp2
  go_ret
  exact ⟨rfl, HB7.out⟩
theorem reads_law (A : Option Addr) (c : Nat) (xs : List Int) (at_ x b : Int) (w : World) (ht : Tz w) (hx : Mem w w.heap.size A xs) (hc : xs.length ≤ c) (_ : c ≤ 9223372036854775807) (_ : I64 at_) (_ : I64 x) (_ : I64 b) :
    Calls Tryd.prog 4 #[.slice A xs.length c, .int .i64 at_, .int .i64 x, .int .i64 b] w fun e w' => e = .returned (.bool true) ∧ Below w.heap.size w w' := by
  by_cases h : xs.length ≤ 100
  · exact reads_in A c xs at_ x b w ht hx hc h
  · have HT := hid ht
    clear ht hx
    have hle : (100 : Int) < (xs.length : Int) := by omega
    go_enter Tryd.func4, Tryd.ntmps4
    go_wp2_with fail
    refine (lawake_any w HT.out).mono ?_
    rintro e w7 ⟨rfl, hb7⟩
    have HB7 := hid hb7
    clear hb7
    go_wp2
    go_ret
    exact ⟨rfl, HB7.out⟩
end Go.Proofs.YtiiepdgpnnjpiaaDoor
