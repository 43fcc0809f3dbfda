/-
  The walks of LiteralScans and LiteralTells.
-/
import Derived.Test.YtibhpfddjlnbmaaDoorIs
namespace Go.Proofs.YtibhpfddjlnbmaaDoor
open Go.RowKit

set_option maxHeartbeats 2000000 in
set_option maxRecDepth 100000 in
theorem scans_walk (s : ByteArray) (at_ : Int) (w : World) (ht : Tabs w) (hs : s.size ≤ 300) :
    Calls Tryd.prog 3 #[.string s, .int .i64 at_] w fun e w' => e = .returned (.bool true) ∧ Below w.heap.size w w' := by
  have HT := hid ht
  clear ht
  obtain ⟨a, b, c, d, hr⟩ : ∃ a b c d, scan (nums s) at_ = (a, b, c, d) := ⟨_, _, _, _, rfl⟩
  have c1 : ∀ w, Calls Tryd.prog 9 #[.string s, .int .i64 at_] w fun e w' => e = .returned (.tuple #[.int .i64 a, .int .i64 b, .agg #[.int .i64 c, .int .i64 d]]) ∧ Below w.heap.size w w' := fun w => by
    have := scan_any s at_ w (by omega)
    rw [hr] at this
    exact this
  have c2 : ∀ w, Calls Tryd.prog 10 #[.string s, .int .i64 at_] w fun e w' => e = .returned (.tuple #[.int .i64 a, .int .i64 b, .agg #[.int .i64 c, .int .i64 d]]) ∧ Below w.heap.size w w' := fun w => by
    have := rscan_any s at_ w (by omega)
    rw [hr] at this
    exact this
  have C1 := hid c1
  have C2 := hid c2
  clear c1 c2 hr
  go_enter Tryd.func3, Tryd.ntmps3
  go_wp2_with fail
  refine (C1.out _).mono ?_
  rintro e w1 ⟨rfl, hb1⟩
  have B1 := hid hb1
  clear hb1
  go_wp2_with fail
  refine (C2.out _).mono ?_
  rintro e w2 ⟨rfl, hb2⟩
  have B2 := hid ((B1.out.alloc B1.out.size _).trans (hb2.mono (by have := B1.out.size; simp; omega)))
  obtain ⟨hc2, hf2⟩ := bcell hb2
  have hz2 : w1.heap.size < w2.heap.size := by have := hb2.size; simp at this; omega
  clear hb2
  go_wp2_with fail
  refine (awake_any _ (HT.out.below (B2.out.alloc B2.out.size _))).mono ?_
  rintro e w3 ⟨rfl, hb3⟩
  have B3 := hid ((B2.out.alloc B2.out.size _).trans (hb3.mono (by have := B2.out.size; simp; omega)))
  clear hb3
  go_wp2_with fail
  go_ret
  exact ⟨rfl, B3.out⟩
theorem scans_long (s : ByteArray) (at_ : Int) (w : World) (hs : 300 < s.size) :
    Calls Tryd.prog 3 #[.string s, .int .i64 at_] w fun e w' => e = .returned (.bool true) ∧ Below w.heap.size w w' := by
  go_enter Tryd.func3, Tryd.ntmps3
  go_wp2_with fail
  go_ret
  exact ⟨rfl, Below.refl _ _⟩
theorem scans_law (s : ByteArray) (at_ : Int) (w : World) (ht : Tabs w) (_ : s.size ≤ maxLen) (_ : I64 at_) :
    Calls Tryd.prog 3 #[.string s, .int .i64 at_] w fun e w' => e = .returned (.bool true) ∧ Below w.heap.size w w' := by
  by_cases hs : s.size ≤ 300
  · exact scans_walk s at_ w ht hs
  · exact scans_long s at_ w (by omega)
set_option maxHeartbeats 2000000 in
theorem tells_law (n : Int) (w : World) (ht : Tabs w) (hn : I64 n) :
    Calls Tryd.prog 4 #[.int .i64 n] w fun e w' => e = .returned (.bool true) ∧ Below w.heap.size w w' := by
  have HT := hid ht
  have HN := hid hn
  clear ht hn
  go_enter Tryd.func4, Tryd.ntmps4
  go_wp2_with fail
  refine (hex_any _ HN.out _ HT.out).mono ?_
  rintro e w1 ⟨T1, rfl, h1, hb1⟩
  have B1 := hid hb1
  have H1 := hid h1
  clear hb1 h1
  go_wp2_with fail
  refine (rhex_any _ HN.out _).mono ?_
  rintro e w2 ⟨T2, rfl, h2, hb2⟩
  have B2 := hid (B1.out.trans (hb2.mono B1.out.size))
  obtain rfl : T1 = T2 := nums_inj (H1.out.trans h2.symm)
  clear hb2 h2
  go_wp2_with fail
  refine (dec_any _ HN.out _ (HT.out.below B2.out)).mono ?_
  rintro e w3 ⟨T3, rfl, h3, hb3⟩
  have B3 := hid (B2.out.trans (hb3.mono B2.out.size))
  have H3 := hid h3
  clear hb3 h3
  go_wp2_with fail
  refine (rdec_any _ HN.out _).mono ?_
  rintro e w4 ⟨T4, rfl, h4, hb4⟩
  have B4 := hid (B3.out.trans (hb4.mono B3.out.size))
  obtain rfl : T3 = T4 := nums_inj (H3.out.trans h4.symm)
  clear hb4 h4
  go_wp2_with fail
  refine (awake_any _ (HT.out.below B4.out)).mono ?_
  rintro e w5 ⟨rfl, hb5⟩
  have B5 := hid (B4.out.trans (hb5.mono B4.out.size))
  clear hb5
  go_wp2_with fail
  go_ret
  exact ⟨rfl, B5.out⟩
end Go.Proofs.YtibhpfddjlnbmaaDoor
