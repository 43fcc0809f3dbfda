/-
  Hex and Dec: of package literal, and the document's.
-/
import Derived.Test.YtibhpfddjlnbmaaDoorFmt16
import Derived.Laws.Concat
namespace Go.Proofs.YtibhpfddjlnbmaaDoor
open Go.RowKit

theorem told_neg {b : Nat} {before : List Int} {n : Int} (h : n < 0) : told b before n = 45 :: (before ++ digs b (mag n)) := by unfold told; rw [if_pos h]; rfl
theorem told_pos {b : Nat} {before : List Int} {n : Int} (h : ¬ n < 0) : told b before n = before ++ digs b (mag n) := by unfold told; rw [if_neg h]
theorem digs_twenty {b u : Nat} (hb : b = 10 ∨ b = 16) (hu : u < 18446744073709551616) : (digs b u).length ≤ 20 := by
  rcases hb with rfl | rfl
  · exact digs_length (by omega) 19 u (by omega)
  · exact Nat.le_trans (digs_length (by omega) 15 u (by omega)) (by omega)
theorem size_nums {T : ByteArray} {xs : List Int} (h : nums T = xs) : T.size = xs.length := by rw [← h, nums_length]
theorem nums_minus : nums ⟨#[45]⟩ = [45] := rfl
set_option maxHeartbeats 2000000 in
theorem signed_any (n : Int) (B : ByteArray) (b : Nat) (hb : b = 10 ∨ b = 16) (hn : I64 n) (hB : B.size ≤ 2) (w : World) (ht : Tabs w) :
    Calls Tryd.prog 27 #[.int .i64 n, .string B, .int .i64 b] w fun e w' => ∃ T : ByteArray, e = .returned (.string T) ∧ nums T = told b (nums B) n ∧ Below w.heap.size w w' := by
  have HT := hid ht
  clear ht
  by_cases h : n < 0
  · have H2 := hid (told_neg (b := b) (before := nums B) h)
    have hw : IntKind.u64.wrap (-IntKind.u64.wrap n) = ((mag n : Nat) : Int) := by
      rw [IntKind.wrap_u64, IntKind.wrap_u64]; unfold mag; unfold I64 at hn; omega
    have hm : mag n < 18446744073709551616 := by unfold mag; unfold I64 at hn; omega
    clear hn
    go_enter Tryd.func27, Tryd.ntmps27
    go_wp2_with (go_at_call 33; refine (format_any b (mag n) hb hm _ HT.out).mono ?_; rintro e w1 ⟨T, rfl, hT, hb1⟩; have hTs : T.size ≤ 20 := by rw [size_nums hT]; exact digs_twenty hb hm)
    go_ret
    exact ⟨_, rfl, by rw [H2.out, nums_append, nums_append, hT]; rfl, hb1⟩
  · have H2 := hid (told_pos (b := b) (before := nums B) h)
    have hw : IntKind.u64.wrap n = ((mag n : Nat) : Int) := by
      rw [IntKind.wrap_u64]; unfold mag; unfold I64 at hn; omega
    have hm : mag n < 18446744073709551616 := by unfold mag; unfold I64 at hn; omega
    clear hn
    go_enter Tryd.func27, Tryd.ntmps27
    go_wp2_with (go_at_call 33; refine (format_any b (mag n) hb hm _ HT.out).mono ?_; rintro e w1 ⟨T, rfl, hT, hb1⟩; have hTs : T.size ≤ 20 := by rw [size_nums hT]; exact digs_twenty hb hm)
    go_ret
    exact ⟨_, rfl, by rw [H2.out, nums_append, hT], hb1⟩
theorem hex_any (n : Int) (hn : I64 n) (w : World) (ht : Tabs w) :
    Calls Tryd.prog 12 #[.int .i64 n] w fun e w' => ∃ T : ByteArray, e = .returned (.string T) ∧ nums T = hexT n ∧ Below w.heap.size w w' := by
  have c := fun (w : World) ht => signed_any n ⟨#[48, 120]⟩ 16 (.inr rfl) hn (by decide) w ht
  have C := hid c
  have HT := hid ht
  clear c ht hn
  go_enter Tryd.func12, Tryd.ntmps12
  go_wp2_with (go_at_call 27; refine (C.out _ HT.out).mono ?_; rintro e w1 ⟨T, rfl, hT, hb1⟩)
  go_ret
  exact ⟨_, rfl, hT, hb1⟩
theorem dec_any (n : Int) (hn : I64 n) (w : World) (ht : Tabs w) :
    Calls Tryd.prog 14 #[.int .i64 n] w fun e w' => ∃ T : ByteArray, e = .returned (.string T) ∧ nums T = decT n ∧ Below w.heap.size w w' := by
  have c := fun (w : World) ht => signed_any n ⟨#[]⟩ 10 (.inl rfl) hn (by decide) w ht
  have C := hid c
  have HT := hid ht
  clear c ht hn
  go_enter Tryd.func14, Tryd.ntmps14
  go_wp2_with (go_at_call 27; refine (C.out _ HT.out).mono ?_; rintro e w1 ⟨T, rfl, hT, hb1⟩)
  go_ret
  exact ⟨_, rfl, hT, hb1⟩
end Go.Proofs.YtibhpfddjlnbmaaDoor
