/-
  The walk of LiteralBack.
-/
import Derived.Test.YtibhpfddjlnbmaaDoorIs
import Derived.Test.YtibhpfddjlnbmaaDoorRound
import Derived.Deep.DeepCutAuto
namespace Go.Proofs.YtibhpfddjlnbmaaDoor
open Go.RowKit

def U8 (n : Int) : Prop := 0 ≤ n ∧ n < 256
theorem U8.of {n : Int} (h : (Lit.int .u8 n).wf = true) : U8 n := by
  have h' := h
  simp [Lit.wf, IntKind.min, IntKind.max, IntKind.signed, IntKind.bits] at h'
  exact ⟨by omega, by omega⟩
/-- A text of which the statement holds. -/
def Good (n : Int) (T : ByteArray) : Prop := ∃ wd : List Int, 1 ≤ wd.length ∧ wd.length ≤ 30 ∧ nums T = (if n < 0 then 45 :: wd else wd) ∧
  ∀ (xs : List Int) (z : Int), isW z = false → scan (xs ++ wd ++ [z]) xs.length = (wrap64 (mag n), ((xs.length + wd.length : Nat) : Int), 0, 0)
theorem good_hex {n : Int} {T : ByteArray} (hn : I64 n) (h : nums T = hexT n) : Good n T := by
  have hm : mag n < 18446744073709551616 := by unfold mag; unfold I64 at hn; omega
  refine ⟨wordH (mag n), by simp [wordH], ?_, ?_, fun xs z hz => scan_hex xs (mag n) z hz hm⟩
  · have := digs_twenty (b := 16) (.inr rfl) hm
    simp [wordH]; omega
  · rw [h]; unfold hexT told wordH; split <;> rfl
theorem good_dec {n : Int} {T : ByteArray} (hn : I64 n) (h : nums T = decT n) : Good n T := by
  have hm : mag n < 18446744073709551616 := by unfold mag; unfold I64 at hn; omega
  refine ⟨wordD (mag n), ?_, ?_, ?_, fun xs z hz => scan_dec xs (mag n) z hz hm⟩
  · have := digs_ne 10 (mag n)
    cases h : wordD (mag n) with
    | nil => exact absurd h this
    | cons a r => simp
  · have := digs_twenty (b := 10) (.inl rfl) hm
    exact Nat.le_trans this (by omega)
  · rw [h]; unfold decT told wordD; split <;> rfl

theorem conv_one (wr : World) (c : Int) (hc : 0 ≤ c ∧ c < 256) : (convert 32 9 (.slice (some ⟨wr.heap.size, 0, none⟩) 1 1)).run Tryd.prog (wr.alloc (.cells #[.int .u8 c] 5)) = .ok (.string (strOfNums [c])) (wr.alloc (.cells #[.int .u8 c] 5)) := by
  refine conv_bytes (some ⟨wr.heap.size, 0, none⟩) 1 [c] _ (wr.heap.size + 1) ⟨by intro z hz; simp at hz; subst hz; exact hc, .inr ⟨wr.heap.size, 0, rfl, by omega, fun i hi => ?_⟩⟩
  have : i = 0 := by simpa using hi
  subst this
  simp
set_option maxHeartbeats 4000000 in
set_option maxRecDepth 100000 in
theorem back_out (n c : Int) (a : ByteArray) (w : World) (ht : Tabs w) (hn : I64 n) (hc : 0 ≤ c ∧ c < 256) :
    Calls Tryd.prog 5 #[.int .i64 n, .string a, .int .u8 c] w fun e w' => e = .returned (.bool true) ∧ Below w.heap.size w w' := by
  have HT := hid ht
  have HN := hid hn
  clear ht hn
  go_enter Tryd.func5, Tryd.ntmps5
  go_upto_region 2 with (go_at_call 11; refine (awake_any _ HT.out).mono ?_; rintro e w1 ⟨rfl, hb1⟩)
  go_cut [7, 8] (fun s7 s8 wx => s7 = .bool true ∧ s8 = .bool (isW c) ∧ wx = w1)
  case first =>
    go_wp2_with fail
    all_goals ((try subst c); go_meet; refine ⟨rfl, ?_, rfl⟩; rw [Value.bool.injEq, Bool.eq_iff_iff, isW_iff]; simp; try omega)
  case rest =>
    obtain ⟨rfl, rfl, rfl⟩ := hcut
    have HB1 := hid hb1
    clear hb1
    by_cases h50 : 50 < a.size
    · go_wp2_with fail
      go_ret
      exact ⟨rfl, HB1.out⟩
    · cases hw : isW c
      · have HW := hid hw
        go_wp2_with fail
        refine (hex_any n HN.out _ (HT.out.below HB1.out)).mono ?_
        rintro e w2 ⟨T1, rfl, h1, hb2⟩
        have HG1 := hid (good_hex HN.out h1)
        have HB2 := hid (HB1.out.trans (hb2.mono HB1.out.size))
        clear hb2 h1
        go_wp2_with fail
        refine (dec_any n HN.out _ (HT.out.below HB2.out)).mono ?_
        rintro e w3 ⟨T2, rfl, h2, hb3⟩
        have HG2 := hid (good_dec HN.out h2)
        have HB3 := hid (HB2.out.trans (hb3.mono HB2.out.size))
        clear hb3 h2
        go_wp2_with fail
        obtain ⟨W3, hW3⟩ : ∃ W3 : World, W3 = w3 := ⟨_, rfl⟩
        have C1 := hid (show (w3.alloc (.cells #[.string T1, .string T2] 9)).cell? ⟨w3.heap.size, 0, none⟩ = some (.string T1) by simp)
        have C2 := hid (show (w3.alloc (.cells #[.string T1, .string T2] 9)).cell? ⟨w3.heap.size, 1, none⟩ = some (.string T2) by simp)
        have HBL := hid (HB3.out.alloc HB3.out.size (.cells #[.string T1, .string T2] 9))
        have hG : w.heap.size ≤ w3.heap.size := HB3.out.size
        clear hW3
        go_loopw [10] (fun i wr => ∃ k : Nat, k ≤ 2 ∧ i = .int .i64 k ∧ Hid (Below w.heap.size w wr) ∧ w3.heap.size < wr.heap.size ∧ Hid (wr.cell? ⟨w3.heap.size, 0, none⟩ = some (.string T1)) ∧ Hid (wr.cell? ⟨w3.heap.size, 1, none⟩ = some (.string T2))) (fun i _ => 2 - (intOf i).toNat)
        case atStart => exact ⟨0, by omega, rfl, HBL, by simp, C1, C2⟩
        case round =>
          obtain ⟨k, hk, rfl, HB, hsz, D1, D2⟩ := hrel
          by_cases hk2 : k < 2
          · obtain ⟨T, HGT, hcell⟩ : ∃ T : ByteArray, Hid (Good n T) ∧ wr.cell? ⟨w3.heap.size, k, none⟩ = some (.string T) := by
              rcases (show k = 0 ∨ k = 1 by omega) with rfl | rfl
              · exact ⟨T1, HG1, D1.out⟩
              · exact ⟨T2, HG2, D2.out⟩
            obtain ⟨wd, hw1, hw30, hT, hsc⟩ := HGT.out
            have hcv := conv_one wr c hc
            have hs1 : (strOfNums [c]).size = 1 := strOfNums_size _
            by_cases hneg : n < 0
            · rw [if_pos hneg] at hT
              have hTs : T.size = wd.length + 1 := by rw [size_nums hT]; rfl
              have hx : nums (T.extract 1 T.size) = wd := by
                rw [nums_extract, ← nums_length, List.take_length, hT]; rfl
              have hxs : (T.extract 1 T.size).size = T.size - 1 := size_extract _ _ _ (Nat.le_refl _)
              have h0 : ch T 0 = 45 := by unfold ch; rw [hT]; rfl
              have h0' : (ch T 0 != 45) = false := by rw [h0]; rfl
              have hbT := get_ch T
              have hcs : ∀ w, Calls Tryd.prog 9 #[.string (a ++ T.extract 1 T.size ++ strOfNums [c]), .int .i64 a.size] w fun e w' => e = .returned (.tuple #[.int .i64 (wrap64 (-n)), .int .i64 ((a.size : Int) + (T.size - 1 : Nat)), .agg #[.int .i64 0, .int .i64 0]]) ∧ Below w.heap.size w w' := fun w => by
                have := scan_any (a ++ T.extract 1 T.size ++ strOfNums [c]) a.size w (by rw [ByteArray.size_append, ByteArray.size_append, hxs]; omega)
                rw [nums_append, nums_append, hx, nums_str _ (by intro z hz; simp at hz; subst hz; exact hc)] at this
                have h2 := hsc (nums a) c HW.out
                rw [nums_length] at h2
                rw [h2, show ((mag n : Nat) : Int) = -n by unfold mag; omega, show ((a.size + wd.length : Nat) : Int) = (a.size : Int) + (T.size - 1 : Nat) by omega] at this
                exact this
              have HCS := hid hcs
              have hTs30 : T.size ≤ 31 := by omega
              have hTs2 : 2 ≤ T.size := by omega
              clear hcs hsc hT hTs hw30 hw1 hx h0
              go_wp2_with (go_at_call 9; (with_reducible refine (HCS.out _).mono ?_); rintro e w5 ⟨rfl, hb5⟩)
              go_roundw
              case rel =>
                have hbl := (((Below.refl wr.heap.size wr).alloc (Nat.le_refl _) (.cells #[.int .u8 c] 5)).trans (hb5.mono (by simp))).alloc (by have := hb5.size; simp at this; omega) (.cells #[.int .i64 0, .int .i64 0] 24)
                exact ⟨k + 1, by omega, by go_num, hid (HB.out.trans (hbl.mono HB.out.size)), by have := hb5.size; simp at this ⊢; omega, hid ((hbl.cell (p := ⟨w3.heap.size, 0, none⟩) hsz).trans D1.out), hid ((hbl.cell (p := ⟨w3.heap.size, 1, none⟩) hsz).trans D2.out)⟩
              case measure => simp [intOf]; omega
            · rw [if_neg hneg] at hT
              have hTs : T.size = wd.length := size_nums hT
              have hcs : ∀ w, Calls Tryd.prog 9 #[.string (a ++ T ++ strOfNums [c]), .int .i64 a.size] w fun e w' => e = .returned (.tuple #[.int .i64 n, .int .i64 ((a.size : Int) + T.size), .agg #[.int .i64 0, .int .i64 0]]) ∧ Below w.heap.size w w' := fun w => by
                have := scan_any (a ++ T ++ strOfNums [c]) a.size w (by rw [ByteArray.size_append, ByteArray.size_append]; omega)
                rw [nums_append, nums_append, hT, nums_str _ (by intro z hz; simp at hz; subst hz; exact hc)] at this
                have h2 := hsc (nums a) c HW.out
                rw [nums_length] at h2
                rw [h2, show wrap64 (mag n : Int) = n by rw [show ((mag n : Nat) : Int) = n by unfold mag; omega]; exact wrap64_of HN.out, hTs.symm] at this
                simpa using this
              have HCS := hid hcs
              have hTs30 : T.size ≤ 30 := by omega
              clear hcs hsc hT hTs hw30 hw1
              go_wp2_with (go_at_call 9; refine (HCS.out _).mono ?_; rintro e w5 ⟨rfl, hb5⟩)
              go_roundw
              case rel =>
                have hbl := (((Below.refl wr.heap.size wr).alloc (Nat.le_refl _) (.cells #[.int .u8 c] 5)).trans (hb5.mono (by simp))).alloc (by have := hb5.size; simp at this; omega) (.cells #[.int .i64 0, .int .i64 0] 24)
                exact ⟨k + 1, by omega, by go_num, hid (HB.out.trans (hbl.mono HB.out.size)), by have := hb5.size; simp at this ⊢; omega, hid ((hbl.cell (p := ⟨w3.heap.size, 0, none⟩) hsz).trans D1.out), hid ((hbl.cell (p := ⟨w3.heap.size, 1, none⟩) hsz).trans D2.out)⟩
              case measure => simp [intOf]; omega
          · have HBo := HB
            have e2 : ¬ (k : Int) < 2 := by omega
            clear hk2
            go_wp2_with fail
            go_ret
            exact ⟨rfl, HBo.out⟩
      · go_wp2_with fail
        go_ret
        exact ⟨rfl, HB1.out⟩
theorem back_law (n : Int) (a : ByteArray) (c : Int) (w : World) (ht : Tabs w) (hn : I64 n) (_ : a.size ≤ maxLen) (hc : U8 c) :
    Calls Tryd.prog 5 #[.int .i64 n, .string a, .int .u8 c] w fun e w' => e = .returned (.bool true) ∧ Below w.heap.size w w' := back_out n c a w ht hn hc
end Go.Proofs.YtibhpfddjlnbmaaDoor
