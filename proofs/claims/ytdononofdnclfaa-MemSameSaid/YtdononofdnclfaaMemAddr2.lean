/-
  The law MemAddresses.
-/
import Derived.Test.YtdononofdnclfaaMemAddresses
namespace Go.Proofs.Ytdononofdnclfaa
open Go.RowKit

theorem address_of {bc bn ic ix s d z : Int} {A : Option Addr} {cap : Nat} {xs : List Int} {next v k : Int} (hv : addrOut ⟨bc, bn, ic, ix, s, d, z⟩ xs next = v) (hk : addrErr ⟨bc, bn, ic, ix, s, d, z⟩ xs.length = k) (hs : I64 s) (w : World) (hI : Ints w w.heap.size A xs) :
    Calls Try.prog 16 #[.agg #[.int .i64 bc, .int .i64 bn, .int .i64 ic, .int .i64 ix, .int .i64 s, .int .i64 d, .int .i64 z], .slice A xs.length cap, .int .i64 next] w fun e w' => e = .returned (.tuple #[.int .i64 v, .int .i64 k]) ∧ Below w.heap.size w w' := by
  have := address_any bc bn ic ix s d z A cap xs next hs w hI
  rw [hv, hk] at this
  exact this
theorem raddress_of {bc bn ic ix s d z : Int} {A : Option Addr} {cap : Nat} {xs : List Int} {next v k : Int} (hv : addrOut ⟨bc, bn, ic, ix, s, d, z⟩ xs next = v) (hk : addrErr ⟨bc, bn, ic, ix, s, d, z⟩ xs.length = k) (w : World) (hI : Ints w w.heap.size A xs) :
    Calls Try.prog 17 #[.agg #[.int .i64 bc, .int .i64 bn, .int .i64 ic, .int .i64 ix, .int .i64 s, .int .i64 d, .int .i64 z], .slice A xs.length cap, .int .i64 next] w fun e w' => e = .returned (.tuple #[.int .i64 v, .int .i64 k]) ∧ Below w.heap.size w w' := by
  have := raddress_any bc bn ic ix s d z A cap xs next w hI
  rw [hv, hk] at this
  exact this
set_option maxHeartbeats 2000000 in
theorem addresses_law (bc bn ic ix s d z : Int) (A : Option Addr) (cap : Nat) (xs : List Int) (next : Int) (w : World) (hs : I64 s) (hI : Ints w w.heap.size A xs) (hlc : xs.length ≤ cap) (hcap : cap ≤ 9223372036854775807) (_hn : I64 next) :
    Calls Try.prog 4 #[.agg #[.int .i64 bc, .int .i64 bn, .int .i64 ic, .int .i64 ix, .int .i64 s, .int .i64 d, .int .i64 z], .slice A xs.length cap, .int .i64 next] w fun e w' => e = .returned (.bool true) ∧ Below w.heap.size w w' := by
  have el : (xs.length : Int) ≤ 9223372036854775807 := by omega
  by_cases hl : xs.length ≤ 20
  · obtain ⟨v, hv⟩ : ∃ v, addrOut ⟨bc, bn, ic, ix, s, d, z⟩ xs next = v := ⟨_, rfl⟩
    obtain ⟨k, hk⟩ : ∃ v, addrErr ⟨bc, bn, ic, ix, s, d, z⟩ xs.length = v := ⟨_, rfl⟩
    have HV := hid hv
    have HE := hid hk
    have HS := hid hs
    have HI := hid hI
    have HL := hid hl
    have hl2 : (xs.length : Int) ≤ 20 := by omega
    clear hv hk hs hI hlc hcap el
    go_enter Try.func4, Try.ntmps4
    go_wp2_with fail
    refine (lent_any A cap xs _ ((HI.out.below ((Below.refl _ _).alloc (Nat.le_refl _) _)).mono (by simp)) HL.out).mono ?_
    rintro e w1 ⟨rfl, hb1, hblk⟩
    obtain ⟨hc1, _⟩ := bcell hb1
    have c0 : w1.cell? ⟨w.heap.size, 0, none⟩ = some (.int .i64 bc) := by rw [hc1 _ _ (by simp)]; simp [cell_new]
    have c1 : w1.cell? ⟨w.heap.size, 1, none⟩ = some (.int .i64 bn) := by rw [hc1 _ _ (by simp)]; simp [cell_new]
    have c2 : w1.cell? ⟨w.heap.size, 2, none⟩ = some (.int .i64 ic) := by rw [hc1 _ _ (by simp)]; simp [cell_new]
    have c3 : w1.cell? ⟨w.heap.size, 3, none⟩ = some (.int .i64 ix) := by rw [hc1 _ _ (by simp)]; simp [cell_new]
    have c4 : w1.cell? ⟨w.heap.size, 4, none⟩ = some (.int .i64 s) := by rw [hc1 _ _ (by simp)]; simp [cell_new]
    have c5 : w1.cell? ⟨w.heap.size, 5, none⟩ = some (.int .i64 d) := by rw [hc1 _ _ (by simp)]; simp [cell_new]
    have c6 : w1.cell? ⟨w.heap.size, 6, none⟩ = some (.int .i64 z) := by rw [hc1 _ _ (by simp)]; simp [cell_new]
    have HB := hid (show Below w.heap.size w w1 from ((Below.refl _ _).alloc (Nat.le_refl _) _).trans (hb1.mono (by simp)))
    have HK := hid (show IBlk w1 (w.heap.size + 1) (lent xs) by simpa using hblk)
    have hz1 : w.heap.size + 1 < w1.heap.size := HK.out.lt
    have hz0 : w.heap.size < w1.heap.size := by omega
    clear hb1 hblk hc1
    go_wp2_with fail
    have hI2 := HK.out.ints HK.out.lt xs.length
    rw [lent_take] at hI2
    refine (address_of HV.out HE.out HS.out _ hI2).mono ?_
    rintro e w2 ⟨rfl, hb1⟩
    obtain ⟨hc1, _⟩ := bcell hb1
    have d0 : w2.cell? ⟨w.heap.size, 0, none⟩ = some (.int .i64 bc) := by rw [hc1 _ _ hz0]; exact c0
    have d1 : w2.cell? ⟨w.heap.size, 1, none⟩ = some (.int .i64 bn) := by rw [hc1 _ _ hz0]; exact c1
    have d2 : w2.cell? ⟨w.heap.size, 2, none⟩ = some (.int .i64 ic) := by rw [hc1 _ _ hz0]; exact c2
    have d3 : w2.cell? ⟨w.heap.size, 3, none⟩ = some (.int .i64 ix) := by rw [hc1 _ _ hz0]; exact c3
    have d4 : w2.cell? ⟨w.heap.size, 4, none⟩ = some (.int .i64 s) := by rw [hc1 _ _ hz0]; exact c4
    have d5 : w2.cell? ⟨w.heap.size, 5, none⟩ = some (.int .i64 d) := by rw [hc1 _ _ hz0]; exact c5
    have d6 : w2.cell? ⟨w.heap.size, 6, none⟩ = some (.int .i64 z) := by rw [hc1 _ _ hz0]; exact c6
    have HB2 := hid (HB.out.trans (hb1.mono HB.out.size))
    have HK2 := hid (HK.out.below hb1 hz1)
    have hz2 := HK2.out.lt
    have hz3 : w.heap.size < w2.heap.size := by omega
    clear hb1 hc1 hI2 c0 c1 c2 c3 c4 c5 c6
    go_wp2_with fail
    refine (raddress_of HV.out HE.out _ ((HI.out.below HB2.out).mono HB2.out.size)).mono ?_
    rintro e w3 ⟨rfl, hb1⟩
    have HB3 := hid (HB2.out.trans (hb1.mono HB2.out.size))
    have HK3 := hid (HK2.out.below hb1 hz2)
    clear hb1 d0 d1 d2 d3 d4 d5 d6
    go_wp2_with fail
    refine (kept_true _ A cap xs _ HK3.out ((HI.out.below HB3.out).mono HB3.out.size) HL.out).mono ?_
    rintro e w4 ⟨rfl, hb1⟩
    have HB4 := hid (HB3.out.trans (hb1.mono HB3.out.size))
    clear hb1
    go_wp2_with fail
    refine (awake_any _).mono ?_
    rintro e w5 ⟨rfl, hb1⟩
    have HB5 := hid (HB4.out.trans (hb1.mono HB4.out.size))
    clear hb1
    go_wp2_with fail
    go_returns
    exact ⟨rfl, HB5.out⟩
  · have hl2 : 20 < (xs.length : Int) := by omega
    clear hI hlc hcap hl hs
    go_enter Try.func4, Try.ntmps4
    go_wp2_with fail
    refine (awake_any _).mono ?_
    rintro e w5 ⟨rfl, hb1⟩
    have HB5 := hid (((Below.refl _ _).alloc (Nat.le_refl _) _).trans (hb1.mono (by simp)))
    clear hb1
    go_wp2_with fail
    go_returns
    exact ⟨rfl, HB5.out⟩
end Go.Proofs.Ytdononofdnclfaa
