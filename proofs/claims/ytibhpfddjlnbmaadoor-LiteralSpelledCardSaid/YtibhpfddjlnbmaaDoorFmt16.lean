/-
  strconv.FormatUint at base 16.
-/
import Derived.Test.YtibhpfddjlnbmaaDoorFmt10
import Derived.Test.YtibhpfddjlnbmaaDoorBytes
import Derived.Lib.Walk
namespace Go.Proofs.YtibhpfddjlnbmaaDoor
open Go.RowKit Go.Lib

theorem pow2_16 (w : World) : Calls Tryd.prog 59 #[.int .i64 16] w fun e w' => e = .returned (.bool true) ∧ w = w' := by
  go_enter Tryd.func59, Tryd.ntmps59
  go_wp2
  go_ret
  exact ⟨rfl, rfl⟩
theorem tz64_16 (w : World) (ht : Tabs w) : Calls Tryd.prog 67 #[.int .u64 16] w fun e w' => e = .returned (.int .i64 4) ∧ w = w' := by
  have hc := ht.2.cell (g := 6) (by kernel_rfl) 15 (by decide)
  have hc' : w.cell? ⟨6, 15, none⟩ = some (.int .u8 4) := hc
  clear hc ht
  have ea : bits .and .u64 16 (IntKind.u64.wrap (-16)) = 16 := by decide +kernel
  have em : IntKind.u64.wrap (16 * 285870213051353865) / 288230376151711744 = 15 := by decide +kernel
  go_enter Tryd.func67, Tryd.ntmps67
  go_wp2
  go_ret
  exact ⟨rfl, rfl⟩
theorem tz_16 (w : World) (ht : Tabs w) : Calls Tryd.prog 60 #[.int .u64 16] w fun e w' => e = .returned (.int .i64 4) ∧ w = w' := by
  go_enter Tryd.func60, Tryd.ntmps60
  go_wp2_with (go_at_call 67; refine (tz64_16 _ ht).mono ?_; rintro e w' ⟨rfl, rfl⟩)
  go_ret
  exact ⟨rfl, rfl⟩
theorem digits36_dc : ∀ d : Fin 16, ((digits36.data.toList.getD d.val 0).toNat : Int) = dc d.val := by decide +kernel
theorem idx_digits (z : Int) (d : Nat) (hz : z = (d : Int)) (hd : d < 16) (w : World) :
    (Instr.index 9 (.string digits36) (.int .u64 z)).run Tryd.prog w = .ok (.int .u8 (dc d)) w := by
  subst hz
  rw [run_index_string w 9 digits36 .u64 _ Tryd.underlying9, dif_pos ⟨by omega, by rw [digits36_size]; omega⟩]
  have e : ((d : Int)).toNat = d := by omega
  simp only [e]
  rw [getD_at _ _ (by rw [digits36_size]; omega), digits36_dc ⟨d, hd⟩]
theorem set_zero (m : Nat) (x : Int) (ds : List Int) : (List.replicate (m + 1) 0 ++ ds).set m x = List.replicate m 0 ++ (x :: ds) := by
  rw [List.replicate_succ', List.append_assoc, List.set_append_right _ _ (by simp)]
  simp

theorem zero65 : Tryd.zeroCells85 = Array.replicate 65 (.int .u8 0) := rfl
theorem and15 (v : Nat) (h : v < 18446744073709551616) : bits .and .u64 (v : Int) 15 = (v : Int) % 16 := by
  have e : bits .and .u64 (v : Int) 15 = IntKind.u64.wrap ((BitVec.ofInt 64 (v : Int) &&& BitVec.ofInt 64 15).toNat : Int) := rfl
  rw [e, BitVec.toNat_and, show (BitVec.ofInt 64 15).toNat = 2 ^ 4 - 1 from rfl, Nat.and_two_pow_sub_one_eq_mod, BitVec.toNat_ofInt, IntKind.wrap_u64]
  have : ((v : Int) % (2 ^ 64 : Nat)).toNat = v := by
    rw [Int.emod_eq_of_lt (by omega) (by omega)]; simp
  rw [this]
  omega
theorem Mem.drop_at {w : World} {B b off : Nat} {zs : List Int} (h : Mem w B (some ⟨b, off, none⟩) zs) (m : Nat) (hm : m < zs.length) : Mem w B (some ⟨b, off + m, none⟩) (zs.drop m) := by
  refine ⟨h.1.drop m, .inr ?_⟩
  rcases h.2 with rfl | ⟨b', off', he, hb, hc⟩
  · simp at hm
  · cases he
    refine ⟨b, off + m, rfl, hb, fun i hi => ?_⟩
    rw [List.length_drop] at hi
    have := hc (m + i) (by omega)
    rw [List.getElem?_drop, Nat.add_assoc]; exact this
set_option maxHeartbeats 4000000 in
set_option maxRecDepth 100000 in
theorem bits16_any (u : Nat) (hu : u < 18446744073709551616) (w : World) (ht : Tabs w) :
    Calls Tryd.prog 48 #[.slice none 0 0, .int .u64 u, .int .i64 16, .bool false, .bool false] w fun e w' => e = .returned (.tuple #[.slice none 0 0, .string (strOfNums (digs 16 u))]) ∧ Below w.heap.size w w' := by
  have HT := Lib.hid ht
  have HU := Lib.hid hu
  clear ht hu
  go_enter Tryd.func48, Tryd.ntmps48
  go_name_bytes_deep 38 MS hMS
  clear hMS
  go_name_bytes_deep 30 DG hDG
  have eDG : DG = digits36 := by rw [← hDG]; decide +kernel
  subst eDG
  clear hDG
  go_wp2_with (first | (go_at_call 59; refine (pow2_16 _).mono ?_; rintro e w' ⟨rfl, rfl⟩) | (go_at_call 60; refine (tz_16 _ (HT.out.below ((Below.refl _ _).alloc (Nat.le_refl _) _))).mono ?_; rintro e w' ⟨rfl, rfl⟩))
  go_loopw [1, 13] (fun a i wr => ∃ (k v : Nat) (ds : List Int), a = .int .u64 (v : Int) ∧ i = .int .i64 ((65 : Int) - k) ∧ k ≤ 15 ∧ Hid (ds.length = k ∧ v * 16 ^ k ≤ u ∧ digs 16 u = digs 16 v ++ ds) ∧ Hid (Below w.heap.size w wr) ∧ Hid (Blk wr w.heap.size 85 (List.replicate (65 - k) 0 ++ ds))) (fun a _ _ => (RowKit.intOf a).toNat)
  case atStart => exact ⟨0, u, [], rfl, rfl, by omega, Lib.hid ⟨rfl, by simp, by simp⟩, Lib.hid ((Below.refl _ _).alloc (Nat.le_refl _) _), Lib.hid (by rw [zero65]; simpa using Blk.zeros w 65 85)⟩
  case round =>
    obtain ⟨k, v, ds, rfl, rfl, hk, HI, HB, HK⟩ := hrel
    by_cases hv : 16 ≤ v
    · have hk14 : k ≤ 14 := by
        obtain ⟨_, h2, _⟩ := HI.out
        have hu := HU.out
        rcases Nat.lt_or_ge k 15 with h | h
        · omega
        · have : k = 15 := by omega
          subst this
          have : 16 * 16 ^ 15 ≤ v * 16 ^ 15 := Nat.mul_le_mul_right _ hv
          have : (16 : Nat) * 16 ^ 15 = 18446744073709551616 := by decide
          omega
      have eand := and15 v (by have := HU.out; obtain ⟨_, h2, _⟩ := HI.out; have : v * 1 ≤ v * 16 ^ k := Nat.mul_le_mul_left _ (Nat.one_le_pow _ _ (by omega)); omega)
      have hdg := idx_digits ((v : Int) % 16) (v % 16) (by omega) (Nat.mod_lt _ (by omega))
      have hcell := HK.out.cell (65 - k - 1) (by simp; omega)
      have hfr := HK.out.frozen (65 - k - 1)
      have hn : ((65 : Int) - k - 1).toNat = 65 - k - 1 := by omega
      have HS := Lib.hid (show Blk (wr.setCell ⟨w.heap.size, 65 - k - 1, none⟩ (.int .u8 (dc (v % 16)))) w.heap.size 85 (List.replicate (65 - (k + 1)) 0 ++ (dc (v % 16) :: ds)) by
        rw [← set_zero, show 65 - (k + 1) + 1 = 65 - k by omega, show 65 - (k + 1) = 65 - k - 1 by omega]; exact HK.out.set_ _ _)
      have HB2 := Lib.hid (HB.out.setCell (p := ⟨w.heap.size, 65 - k - 1, none⟩) (Nat.le_refl _) (.int .u8 (dc (v % 16))))
      go_wp2_with fail
      go_roundw
      case rel =>
        obtain ⟨h1, h2, h3⟩ := HI.out
        exact ⟨k + 1, v / 16, dc (v % 16) :: ds, by first | rfl | simp, by go_num, by omega, Lib.hid ⟨by simp [h1], Nat.le_trans (by rw [Nat.pow_succ, Nat.mul_comm (16 ^ k), ← Nat.mul_assoc]; exact Nat.mul_le_mul_right _ (Nat.div_mul_le_self _ _)) h2, by rw [h3, digs_big (by omega) hv, List.append_assoc]; rfl⟩, HB2, HS⟩
      case measure => simp [RowKit.intOf]; omega
    · have hdg := idx_digits (v : Int) v rfl (by omega)
      have hcell := HK.out.cell (65 - k - 1) (by simp; omega)
      have hfr := HK.out.frozen (65 - k - 1)
      have hn : ((65 : Int) - k - 1).toNat = 65 - k - 1 := by omega
      have HS := Lib.hid (show Blk (wr.setCell ⟨w.heap.size, 65 - k - 1, none⟩ (.int .u8 (dc v))) w.heap.size 85 (List.replicate (65 - (k + 1)) 0 ++ (dc v :: ds)) by
        rw [← set_zero, show 65 - (k + 1) + 1 = 65 - k by omega, show 65 - (k + 1) = 65 - k - 1 by omega]; exact HK.out.set_ _ _)
      have HB2 := Lib.hid (HB.out.setCell (p := ⟨w.heap.size, 65 - k - 1, none⟩) (Nat.le_refl _) (.int .u8 (dc v)))
      have hal : Tryd.prog.arrayLen 85 = 65 := by kernel_rfl
      have hel : Tryd.prog.underlying 85 = some (.array 65 5) := Tryd.underlying85
      have hsl : ∀ W, (Instr.sliceAt 85 (.pointer (some ⟨w.heap.size, 0, none⟩)) (some (.int .i64 ((65 : Int) - k - 1))) none none).run Tryd.prog W = .ok (.slice (some ⟨w.heap.size, 65 - k - 1, none⟩) (k + 1) (k + 1)) W := fun W => by
        rw [run_sliceAt_array_l W 85 ⟨w.heap.size, 0, none⟩ (by simp [Program.arrayLen, Program.elem, hel]) .i64 ((65 : Int) - k - 1) (by omega) (by rw [hal]; omega), hal, hn]
        have e1 : 65 - (65 - k - 1) = k + 1 := by omega
        have e2 : ¬ 65 = 65 - k - 1 := by omega
        have e3 : ¬ 65 - k - 1 = 65 := by omega
        go_simp
      have HI2 := Lib.hid (show digs 16 u = dc v :: ds by rw [HI.out.2.2, digs_small (by omega)]; rfl)
      have HL := Lib.hid (show ds.length = k from HI.out.1)
      have hM := HS.out.mem (B := w.heap.size + 1) (by
        intro z hz
        rw [List.mem_append] at hz
        rcases hz with hz | hz
        · have := List.eq_of_mem_replicate hz; omega
        · rw [← HI2.out] at hz; exact digs_range (by omega) (by omega) u z hz) (by omega)
      have hD := hM.drop_at (65 - k - 1) (by simp; omega)
      have hcv := conv_bytes _ (k + 1) _ _ _ hD
      rw [show 65 - (k + 1) = 65 - k - 1 by omega, List.drop_left' (by simp), ← HI2.out] at hcv
      have hlen : (digs 16 u).length = k + 1 := by rw [HI2.out]; simp [HL.out]
      rw [hlen, Nat.zero_add] at hcv
      clear hal hel hM hD hlen
      go_wp2_with fail
      go_ret2
      exact ⟨rfl, HB2.out⟩
theorem fmt16_any (u : Nat) (hu : u < 18446744073709551616) (w : World) (ht : Tabs w) :
    Calls Tryd.prog 38 #[.int .u64 u, .int .i64 16] w fun e w' => e = .returned (.string (strOfNums (digs 16 u))) ∧ Below w.heap.size w w' := by
  have c := bits16_any u hu
  go_enter Tryd.func38, Tryd.ntmps38
  go_wp2_with (go_at_call 48; refine (c _ ht).mono ?_; rintro e w1 ⟨rfl, hb1⟩)
  go_ret
  exact ⟨rfl, hb1⟩
/-- strconv.FormatUint at the two bases. -/
theorem format_any (b u : Nat) (hb : b = 10 ∨ b = 16) (hu : u < 18446744073709551616) (w : World) (ht : Tabs w) :
    Calls Tryd.prog 33 #[.int .u64 u, .int .i64 b] w fun e w' => ∃ T : ByteArray, e = .returned (.string T) ∧ nums T = digs b u ∧ Below w.heap.size w w' := by
  rcases hb with rfl | rfl
  · go_enter Tryd.func33, Tryd.ntmps33
    go_wp2_with (go_at_call 38; refine (fmt10_any u hu _ ht).mono ?_; rintro e w1 ⟨rfl, hb1⟩)
    go_ret
    exact ⟨_, rfl, by rw [byteArray_nums, decDigits_digs], hb1⟩
  · go_enter Tryd.func33, Tryd.ntmps33
    go_wp2_with (go_at_call 38; refine (fmt16_any u hu _ ht).mono ?_; rintro e w1 ⟨rfl, hb1⟩)
    go_ret
    exact ⟨_, rfl, nums_str _ (digs_range (by omega) (by omega) u), hb1⟩
end Go.Proofs.YtibhpfddjlnbmaaDoor
