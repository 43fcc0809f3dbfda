/-
  FieldTells: the walk of the law.
-/
import Derived.Test.YtlmhiokfkelflaaAwake
import Derived.Test.YtlmhiokfkelflaaBackPlain
namespace Go.Proofs.Ytlmhiokfkelflaa
open Go.RowKit
theorem rget_of (A : Option Addr) (m c : Nat) (xs : List Int) (at_ size : Int) (sg : Bool) (w : World) (hm : xs.length = m) (hx : ∃ B, Mem w B A xs) (hl : m ≤ 9223372036854775807) (hat : I64 at_) :
    Calls Try.prog 12 #[.slice A m c, .int .i64 at_, .int .i64 size, .bool sg] w
      fun e w' => e = .returned (.tuple #[.int .i64 (getN xs at_ size sg), .int .i64 (getE xs at_ size)]) ∧ w = w' := by
  subst hm
  obtain ⟨B, hx⟩ := hx
  exact rget_any A c xs at_ size sg w B hx hl hat
theorem lent_take (xs : List Int) : (lent xs).take xs.length = xs := by unfold lent; exact List.take_left
/-- A list that is too long: nothing is asked. -/
theorem tells_long (n b size : Int) (A : Option Addr) (c : Nat) (xs : List Int) (at_ : Int) (sg : Bool) (w : World) (hl : 100 < xs.length) :
    Calls Try.prog 3 #[.int .i64 n, .int .i64 b, .int .i64 size, .slice A xs.length c, .int .i64 at_, .bool sg] w fun e w' => e = .returned (.bool true) ∧ Below w.heap.size w w' := by
  go_enter Try.func3, Try.ntmps3
  go_wp2_with fail
  go_ret
  exact ⟨rfl, Below.refl _ _⟩
/-- What the two Puts leave, told of one number: bytes in a block of the call's own, and the same bytes somewhere. -/
theorem put_pair {n size : Int} {w1 w2 w3 : World} {A2 A3 : Option Addr} {s2 s3 : Nat} (h2 : Below w1.heap.size w1 w2) (h3 : Below w2.heap.size w2 w3)
    (k2 : (putE n size = 0 ∧ (s2 : Int) = size ∧ A2 = some ⟨w1.heap.size, 0, none⟩ ∧ Blk w2 w1.heap.size 5 (bytesOf n s2)) ∨ (putE n size ≠ 0 ∧ s2 = 0 ∧ A2 = none))
    (k3 : (putE n size = 0 ∧ (s3 : Int) = size ∧ Mem w3 w3.heap.size A3 (bytesOf n s3)) ∨ (putE n size ≠ 0 ∧ s3 = 0)) :
    ∃ zs : List Int, zs.length = s2 ∧ zs.length = s3 ∧ (∃ B, Mem w3 B A2 zs) ∧ (∃ B, Mem w3 B A3 zs) ∧ ((s2 = 0 ∧ A2 = none) ∨ (A2 = some ⟨w1.heap.size, 0, none⟩ ∧ Blk w3 w1.heap.size 5 zs)) := by
  have _ := h2
  rcases k2 with ⟨e0, es, rfl, hk⟩ | ⟨e0, rfl, rfl⟩
  · rcases k3 with ⟨_, es', hm⟩ | ⟨e1, _⟩
    · have : s3 = s2 := by omega
      subst this
      have hk3 := hk.below h3 hk.lt
      exact ⟨bytesOf n s3, bytesOf_length _ _, bytesOf_length _ _, ⟨_, hk3.mem (bytesOf_range _ _) hk3.lt⟩, ⟨_, hm⟩, .inr ⟨rfl, hk3⟩⟩
    · exact absurd e0 e1
  · rcases k3 with ⟨e1, _⟩ | ⟨_, rfl⟩
    · exact absurd e1 e0
    · exact ⟨[], rfl, rfl, ⟨0, Mem.nil _ _ _⟩, ⟨0, Mem.nil _ _ _⟩, .inl ⟨rfl, rfl⟩⟩
theorem over_of (A : Option Addr) (s g : Nat) (zs : List Int) (w : World) (hs : zs.length = s) (hl : s ≤ 9223372036854775807) (h : (s = 0 ∧ A = none) ∨ (A = some ⟨g, 0, none⟩ ∧ Blk w g 5 zs)) :
    Calls Try.prog 15 #[.slice A s s] w fun e w' => e = .returned (.tuple #[]) ∧ Below g w w' := by
  rcases h with ⟨rfl, rfl⟩ | ⟨rfl, hk⟩
  · exact (over_nil w).mono fun e w' ⟨h1, h2⟩ => ⟨h1, by subst h2; exact Below.refl _ _⟩
  · subst hs
    exact over_any g _ zs w hk hl
theorem putE_size {n size : Int} (h : putE n size = 0) : 1 ≤ size ∧ size ≤ 8 := by
  unfold putE at h
  cases hs : sizeOk size
  · rw [hs] at h; simp at h
  · exact size_le hs

set_option maxRecDepth 100000 in
set_option maxHeartbeats 4000000 in
theorem tells_walk (n b size : Int) (A : Option Addr) (c : Nat) (xs : List Int) (at_ : Int) (sg : Bool) (w : World) (hn : I64 n) (hat : I64 at_) (hx : Mem w w.heap.size A xs) (hl : xs.length ≤ 100) :
    Calls Try.prog 3 #[.int .i64 n, .int .i64 b, .int .i64 size, .slice A xs.length c, .int .i64 at_, .bool sg] w fun e w' => e = .returned (.bool true) ∧ Below w.heap.size w w' := by
  have HN := hid hn
  have HA := hid hat
  have HX := hid hx
  have hl' : xs.length ≤ 9223372036854775807 := by omega
  clear hn hat hx
  go_enter Try.func3, Try.ntmps3
  go_wp2_with fail
  refine (lent_any A c xs w _ HX.out (by omega) (Nat.le_refl _)).mono ?_
  rintro e w1 ⟨rfl, hb1, hk1⟩
  have HB1 := hid hb1
  have HK1 := hid hk1
  clear hb1 hk1
  go_wp2_with fail
  refine (put_any _ _ _ HN.out).mono ?_
  rintro e w2 ⟨A2, s2, rfl, hb2, hc2⟩
  have HB2 := hid hb2
  have HC2 := hid hc2
  clear hb2 hc2
  go_wp2_with fail
  refine (rput_any _ _ _ HN.out).mono ?_
  rintro e w3 ⟨A3, s3, c3, rfl, hb3, hc3⟩
  have HB3 := hid hb3
  have HC3 := hid hc3
  clear hb3 hc3
  obtain ⟨zs, z2, z3, m2, m3, ho⟩ := put_pair HB2.out HB3.out HC2.out HC3.out
  have hz2 : s2 ≤ 8 := by
    rcases HC2.out with ⟨e0, es, _⟩ | ⟨_, es, _⟩
    · have := putE_size e0; omega
    · omega
  have B3 := hid ((HB1.out.trans (HB2.out.mono HB1.out.size)).trans (HB3.out.mono (Nat.le_trans HB1.out.size HB2.out.size)))
  have HG := hid (show Blk w3 w.heap.size 5 (lent xs) from (HK1.out.below HB2.out HK1.out.lt).below HB3.out (Nat.lt_of_lt_of_le HK1.out.lt HB2.out.size))
  have HM := hid (show Mem w3 w3.heap.size (some ⟨w.heap.size, 0, none⟩) xs by
    have := (HG.out.mem (lent_bytes HX.out.1) HG.out.lt).take xs.length
    rw [lent_take] at this
    exact this)
  have HX3 := hid (HX.out.below B3.out)
  have Z2 := hid z2
  have Z3 := hid z3
  have M2 := hid m2
  have M3 := hid m3
  have HO := hid ho
  clear z2 z3 m2 m3 ho
  go_wp2_with (first | (go_at_call 11; refine (get_of _ _ _ xs _ _ _ _ rfl ⟨_, HM.out⟩ hl' HA.out).mono ?_; rintro e w' ⟨rfl, rfl⟩) | (go_at_call 12; refine (rget_of _ _ _ xs _ _ _ _ rfl ⟨_, HX3.out⟩ hl' HA.out).mono ?_; rintro e w' ⟨rfl, rfl⟩))
  refine (same_of _ _ _ _ _ _ zs zs _ M2.out M3.out Z2.out Z3.out).mono ?_
  rintro e w' ⟨rfl, rfl⟩
  go_wp2_with fail
  refine (kept_any w.heap.size A c xs (lent xs) _ _ HG.out (lent_bytes HX.out.1) (lent_length xs) HX3.out (by omega) B3.out.size).mono ?_
  rintro e w4 ⟨rfl, hb4⟩
  have HB4 := hid hb4
  clear hb4
  go_wp2_with fail
  have ho4 : (s2 = 0 ∧ A2 = none) ∨ (A2 = some ⟨w1.heap.size, 0, none⟩ ∧ Blk w4 w1.heap.size 5 zs) := by
    rcases HO.out with h | ⟨h, hk⟩
    · exact .inl h
    · exact .inr ⟨h, hk.below HB4.out hk.lt⟩
  refine (over_of A2 s2 w1.heap.size zs w4 Z2.out (by omega) ho4).mono ?_
  rintro e w5 ⟨rfl, hb5⟩
  have HB5 := hid (((B3.out.trans (HB4.out.mono B3.out.size))).trans (hb5.mono HB1.out.size))
  clear hb5 ho4
  go_wp2_with (first | (go_at_call 16; refine (fits_any _ _ _).mono ?_; rintro e w' ⟨rfl, rfl⟩) | (go_at_call 17; refine (rfits_any _ _ _).mono ?_; rintro e w' ⟨rfl, rfl⟩) | (go_at_call 18; refine (wide_any _ _ _ HN.out).mono ?_; rintro e w' ⟨rfl, rfl⟩) | (go_at_call 19; refine (rwide_any _ _ _ HN.out).mono ?_; rintro e w' ⟨rfl, rfl⟩) | (go_at_call 20; refine (sign_any _ _ _).mono ?_; rintro e w' ⟨rfl, rfl⟩) | (go_at_call 21; refine (rsign_any _ _ _ HN.out).mono ?_; rintro e w' ⟨rfl, rfl⟩) | (go_at_call 22; refine (low_any _ _ _ HN.out).mono ?_; rintro e w' ⟨rfl, rfl⟩) | (go_at_call 23; refine (rlow_any _ _ _ HN.out).mono ?_; rintro e w' ⟨rfl, rfl⟩))
  refine (awake_any w5).mono ?_
  rintro e w6 ⟨rfl, hb6⟩
  have HB6 := hid (HB5.out.trans (hb6.mono HB5.out.size))
  clear hb6
  go_wp2_with fail
  go_ret
  exact ⟨rfl, HB6.out⟩
theorem tells_law (n b size : Int) (A : Option Addr) (c : Nat) (xs : List Int) (at_ : Int) (sg : Bool) (w : World) (hn : I64 n) (_ : I64 b) (_ : I64 size) (hx : Mem w w.heap.size A xs) (_ : xs.length ≤ c) (_ : c ≤ 9223372036854775807) (hat : I64 at_) :
    Calls Try.prog 3 #[.int .i64 n, .int .i64 b, .int .i64 size, .slice A xs.length c, .int .i64 at_, .bool sg] w fun e w' => e = .returned (.bool true) ∧ Below w.heap.size w w' := by
  by_cases hl : xs.length ≤ 100
  · exact tells_walk n b size A c xs at_ sg w hn hat hx hl
  · exact tells_long n b size A c xs at_ sg w (by omega)
end Go.Proofs.Ytlmhiokfkelflaa
