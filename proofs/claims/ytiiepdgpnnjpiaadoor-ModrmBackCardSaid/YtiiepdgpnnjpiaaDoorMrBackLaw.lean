/-
  Law 9: each way is read as it was: the law, whole.
-/
import Derived.Test.YtiiepdgpnnjpiaaDoorMrBack
namespace Go.Proofs.YtiiepdgpnnjpiaaDoor
open Go.RowKit
set_option maxRecDepth 100000

set_option maxHeartbeats 1000000 in
theorem back_fail (f k rc rn bc bn ic ix s d z n : Int) (Aa Ab : Option Addr) (ca cb la lb : Nat) (cut : Int) (w : World) (ht : Tz w) (hs : I64 s) (hE : ¬ allE f ⟨k, rc, rn, ⟨bc, bn, ic, ix, s, d, z⟩, n⟩ = 0) :
    Calls Tryd.prog 6 #[.int .i64 f, .agg #[.int .i64 k, .int .i64 rc, .int .i64 rn, .int .i64 bc, .int .i64 bn, .int .i64 ic, .int .i64 ix, .int .i64 s, .int .i64 d, .int .i64 z, .int .i64 n], .slice Aa la ca, .slice Ab lb cb, .int .i64 cut] w fun e w' => e = .returned (.bool true) ∧ Below w.heap.size w w' := by
  have HT := hid ht
  have HS := hid hs
  obtain ⟨er, her⟩ : ∃ er, allE f ⟨k, rc, rn, ⟨bc, bn, ic, ix, s, d, z⟩, n⟩ = er := ⟨_, rfl⟩
  obtain ⟨L, hL⟩ : ∃ L, allF f ⟨k, rc, rn, ⟨bc, bn, ic, ix, s, d, z⟩, n⟩ = L := ⟨_, rfl⟩
  have HE := hid (And.intro her hL)
  have HO := hid ((Own.nil w).alloc w.heap.size #[.int .i64 k, .int .i64 rc, .int .i64 rn, .int .i64 bc, .int .i64 bn, .int .i64 ic, .int .i64 ix, .int .i64 s, .int .i64 d, .int .i64 z, .int .i64 n] 27 rfl)
  have HN := hid (show L = [] by rw [← hL]; unfold allF; rw [if_neg hE])
  rw [her] at hE
  have hEb : (er == 0) = false := by simpa using hE
  have hEc : (er != 0) = true := by simpa using hE
  clear hE
  clear ht hs her hL
  go_enter Tryd.func6, Tryd.ntmps6
  go_wp2_with fail
  refine (known_any _ (HT.out.below HO.out.below)).mono ?_
  rintro e w1 ⟨rfl, hb1⟩
  have HO := hid (HO.out.call hb1)
  have hcA := HO.out.c
  have z0 := HO.out.z
  clear hb1
  go_wp2_with fail
  have H3 := mall_any f k rc rn bc bn ic ix s d z n HS.out _ (HT.out.below HO.out.below)
  unfold AV MAll at H3
  rw [HE.out.1, HE.out.2] at H3
  refine H3.mono ?_
  clear H3 hcA z0
  rintro e w2 ⟨v, rfl, hb2, Z, hZ1, hZ2, -, -⟩
  have HO := hid (HO.out.call hb2)
  obtain ⟨N, hN⟩ : ∃ N, Z.length = N := ⟨_, rfl⟩
  have hNL : L.length = N := by rw [← hN, ← hZ1, List.length_map]
  rw [hN] at hZ2
  obtain ⟨g, c', rfl⟩ := slice_form hZ2
  have HB := hid HO.out.below
  clear hZ1 hZ2 hb2 hN
  have hn0 : N = 0 := by rw [← hNL, HN.out]; rfl
  subst hn0
  clear hNL
  go_wp2_with fail
  go_ret
  exact ⟨rfl, HB.out⟩
set_option maxHeartbeats 1000000 in
theorem back_ahead (f k rc rn bc bn ic ix s d z n : Int) (Aa Ab : Option Addr) (ca cb la lb : Nat) (cut : Int) (w : World) (ht : Tz w) (hs : I64 s) (hE : allE f ⟨k, rc, rn, ⟨bc, bn, ic, ix, s, d, z⟩, n⟩ = 0) (h30 : 30 < la) :
    Calls Tryd.prog 6 #[.int .i64 f, .agg #[.int .i64 k, .int .i64 rc, .int .i64 rn, .int .i64 bc, .int .i64 bn, .int .i64 ic, .int .i64 ix, .int .i64 s, .int .i64 d, .int .i64 z, .int .i64 n], .slice Aa la ca, .slice Ab lb cb, .int .i64 cut] w fun e w' => e = .returned (.bool true) ∧ Below w.heap.size w w' := by
  have HT := hid ht
  have HS := hid hs
  obtain ⟨er, her⟩ : ∃ er, allE f ⟨k, rc, rn, ⟨bc, bn, ic, ix, s, d, z⟩, n⟩ = er := ⟨_, rfl⟩
  obtain ⟨L, hL⟩ : ∃ L, allF f ⟨k, rc, rn, ⟨bc, bn, ic, ix, s, d, z⟩, n⟩ = L := ⟨_, rfl⟩
  have HE := hid (And.intro her hL)
  have HO := hid ((Own.nil w).alloc w.heap.size #[.int .i64 k, .int .i64 rc, .int .i64 rn, .int .i64 bc, .int .i64 bn, .int .i64 ic, .int .i64 ix, .int .i64 s, .int .i64 d, .int .i64 z, .int .i64 n] 27 rfl)
  rw [her] at hE
  subst hE
  have hle : (30 : Int) < (la : Int) := by omega
  clear h30
  clear ht hs her hL
  go_enter Tryd.func6, Tryd.ntmps6
  go_wp2_with fail
  refine (known_any _ (HT.out.below HO.out.below)).mono ?_
  rintro e w1 ⟨rfl, hb1⟩
  have HO := hid (HO.out.call hb1)
  have hcA := HO.out.c
  have z0 := HO.out.z
  clear hb1
  go_wp2_with fail
  have H3 := mall_any f k rc rn bc bn ic ix s d z n HS.out _ (HT.out.below HO.out.below)
  unfold AV MAll at H3
  rw [HE.out.1, HE.out.2] at H3
  refine H3.mono ?_
  clear H3 hcA z0
  rintro e w2 ⟨v, rfl, hb2, Z, hZ1, hZ2, -, -⟩
  have HO := hid (HO.out.call hb2)
  obtain ⟨N, hN⟩ : ∃ N, Z.length = N := ⟨_, rfl⟩
  have hNL : L.length = N := by rw [← hN, ← hZ1, List.length_map]
  rw [hN] at hZ2
  obtain ⟨g, c', rfl⟩ := slice_form hZ2
  have HB := hid HO.out.below
  clear hZ1 hZ2 hb2 hN
  clear hNL
  go_wp2_with fail
  go_ret
  exact ⟨rfl, HB.out⟩
set_option maxHeartbeats 1000000 in
theorem back_behind (f k rc rn bc bn ic ix s d z n : Int) (Aa Ab : Option Addr) (ca cb la lb : Nat) (cut : Int) (w : World) (ht : Tz w) (hs : I64 s) (hE : allE f ⟨k, rc, rn, ⟨bc, bn, ic, ix, s, d, z⟩, n⟩ = 0) (h30a : la ≤ 30) (h30 : 30 < lb) :
    Calls Tryd.prog 6 #[.int .i64 f, .agg #[.int .i64 k, .int .i64 rc, .int .i64 rn, .int .i64 bc, .int .i64 bn, .int .i64 ic, .int .i64 ix, .int .i64 s, .int .i64 d, .int .i64 z, .int .i64 n], .slice Aa la ca, .slice Ab lb cb, .int .i64 cut] w fun e w' => e = .returned (.bool true) ∧ Below w.heap.size w w' := by
  have HT := hid ht
  have HS := hid hs
  obtain ⟨er, her⟩ : ∃ er, allE f ⟨k, rc, rn, ⟨bc, bn, ic, ix, s, d, z⟩, n⟩ = er := ⟨_, rfl⟩
  obtain ⟨L, hL⟩ : ∃ L, allF f ⟨k, rc, rn, ⟨bc, bn, ic, ix, s, d, z⟩, n⟩ = L := ⟨_, rfl⟩
  have HE := hid (And.intro her hL)
  have HO := hid ((Own.nil w).alloc w.heap.size #[.int .i64 k, .int .i64 rc, .int .i64 rn, .int .i64 bc, .int .i64 bn, .int .i64 ic, .int .i64 ix, .int .i64 s, .int .i64 d, .int .i64 z, .int .i64 n] 27 rfl)
  rw [her] at hE
  subst hE
  have hle1 : ¬ (30 : Int) < (la : Int) := by omega
  have hle : (30 : Int) < (lb : Int) := by omega
  clear h30 h30a
  clear ht hs her hL
  go_enter Tryd.func6, Tryd.ntmps6
  go_wp2_with fail
  refine (known_any _ (HT.out.below HO.out.below)).mono ?_
  rintro e w1 ⟨rfl, hb1⟩
  have HO := hid (HO.out.call hb1)
  have hcA := HO.out.c
  have z0 := HO.out.z
  clear hb1
  go_wp2_with fail
  have H3 := mall_any f k rc rn bc bn ic ix s d z n HS.out _ (HT.out.below HO.out.below)
  unfold AV MAll at H3
  rw [HE.out.1, HE.out.2] at H3
  refine H3.mono ?_
  clear H3 hcA z0
  rintro e w2 ⟨v, rfl, hb2, Z, hZ1, hZ2, -, -⟩
  have HO := hid (HO.out.call hb2)
  obtain ⟨N, hN⟩ : ∃ N, Z.length = N := ⟨_, rfl⟩
  have hNL : L.length = N := by rw [← hN, ← hZ1, List.length_map]
  rw [hN] at hZ2
  obtain ⟨g, c', rfl⟩ := slice_form hZ2
  have HB := hid HO.out.below
  clear hZ1 hZ2 hb2 hN
  clear hNL
  go_wp2_with fail
  go_ret
  exact ⟨rfl, HB.out⟩
set_option maxHeartbeats 1000000 in
theorem back_law (f k rc rn bc bn ic ix s d z n : Int) (Aa : Option Addr) (ca : Nat) (xa : List Int) (Ab : Option Addr) (cb : Nat) (xb : List Int) (cut : Int) (w : World) (ht : Tz w) (_ : I64 f) (hs : I64 s)
    (ha : Mem w w.heap.size Aa xa) (_ : xa.length ≤ ca) (_ : ca ≤ 9223372036854775807) (hb : Mem w w.heap.size Ab xb) (_ : xb.length ≤ cb) (_ : cb ≤ 9223372036854775807) (hcut : I64 cut) :
    Calls Tryd.prog 6 #[.int .i64 f, .agg #[.int .i64 k, .int .i64 rc, .int .i64 rn, .int .i64 bc, .int .i64 bn, .int .i64 ic, .int .i64 ix, .int .i64 s, .int .i64 d, .int .i64 z, .int .i64 n], .slice Aa xa.length ca, .slice Ab xb.length cb, .int .i64 cut] w fun e w' => e = .returned (.bool true) ∧ Below w.heap.size w w' := by
  by_cases hE : allE f ⟨k, rc, rn, ⟨bc, bn, ic, ix, s, d, z⟩, n⟩ = 0
  · by_cases h1 : xa.length ≤ 30
    · by_cases h2 : xb.length ≤ 30
      · obtain ⟨hk, -, hc⟩ := all_facts hE
        rcases hc with ⟨h0, hx, hL⟩ | ⟨h0, hx, hL⟩
        · exact back_in f k rc rn bc bn ic ix s d z n Aa Ab ca cb xa xb _ _ cut _ rn 1 rc rn 0 0 0 0 0 0 0 0 0 0 0 0 0 0 (.inl ⟨rfl, rfl, rfl, rfl, rfl, rfl, rfl, rfl, rfl⟩) w ht hs hcut ha hb rfl rfl h1 h2 hE rfl hx hk hL
        · obtain ⟨⟨q0, q1, q2, q3, q4, q5, q6⟩, hq⟩ : ∃ q, canonF ⟨bc, bn, ic, ix, s, d, z⟩ = q := ⟨_, rfl⟩
          rw [hq] at hx hL
          exact back_in f k rc rn bc bn ic ix s d z n Aa Ab ca cb xa xb _ _ cut _ (-1) 2 0 0 q0 q1 q2 q3 q4 q5 q6 q0 q1 q2 q3 q4 q5 0 (.inr ⟨rfl, rfl, rfl, rfl, rfl, rfl, rfl, rfl, rfl⟩) w ht hs hcut ha hb rfl rfl h1 h2 hE rfl hx hk hL
      · exact back_behind f k rc rn bc bn ic ix s d z n Aa Ab ca cb _ _ cut w ht hs hE h1 (by omega)
    · exact back_ahead f k rc rn bc bn ic ix s d z n Aa Ab ca cb _ _ cut w ht hs hE (by omega)
  · exact back_fail f k rc rn bc bn ic ix s d z n Aa Ab ca cb _ _ cut w ht hs hE
end Go.Proofs.YtiiepdgpnnjpiaaDoor
