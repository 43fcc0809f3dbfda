/-
  The walk of LiteralBytes.
-/
import Derived.Test.YtibhpfddjlnbmaaDoorIs
import Derived.Test.YtibhpfddjlnbmaaDoorTextLit
namespace Go.Proofs.YtibhpfddjlnbmaaDoor
open Go.RowKit

theorem nums_q : nums ⟨#[39]⟩ = [39] := rfl
theorem okT_dec (z : Int) : okT z ∨ z < 32 ∨ 126 < z ∨ z = 39 := by unfold okT; omega
set_option maxHeartbeats 4000000 in
set_option maxRecDepth 100000 in
theorem bytes_walk (A : Option Addr) (c : Nat) (xs : List Int) (w : World) (ht : Tabs w) (hx : Mem w w.heap.size A xs) (hcap : xs.length ≤ c) (h1 : 1 ≤ xs.length) (h8 : xs.length ≤ 8) :
    Calls Tryd.prog 7 #[.slice A xs.length c] w fun e w' => e = .returned (.bool true) ∧ Below w.heap.size w w' := by
  have HT := hid ht
  have HX := hid hx
  obtain ⟨hb, h0 | ⟨b, off, rfl, hlt, hcell⟩⟩ := hx
  · subst h0; simp at h1
  have HBY := hid hb
  clear hb hlt hcell ht
  obtain ⟨i0, hi, hz0, hz1, hz2⟩ := info_parts infoByte
  have I0 := hid hz0; have I1 := hid hz1; have I2 := hid hz2; have I3 := hid hi
  clear hi hz0 hz1 hz2
  go_enter Tryd.func7, Tryd.ntmps7
  go_wp2_with (go_at_call 11; refine (awake_any _ HT.out).mono ?_; rintro e w1 ⟨rfl, hb1⟩)
  have HB1 := hid hb1
  have HX1 := hid (HX.out.below hb1)
  clear hb1
  go_loop [4] (fun i => ∃ k : Nat, k ≤ xs.length ∧ i = .int .i64 k ∧ Hid (∀ z ∈ xs.take k, okT z)) (fun i => xs.length - (intOf i).toNat)
  case atStart => exact ⟨0, by omega, rfl, hid (by simp)⟩
  case round =>
    obtain ⟨k, hk, rfl, HO⟩ := hrel
    by_cases hlt : k < xs.length
    · have hcell : w1.cell? ⟨b, off + k, none⟩ = some (.int .u8 (xs[k]?.getD 0)) := by
        rcases HX1.out.2 with h | ⟨b', off', he, _, hc⟩
        · rw [h] at hlt; simp at hlt
        · cases he; exact hc k hlt
      have hr := HBY.out.getD k
      obtain ⟨z, hz⟩ : ∃ z, xs[k]?.getD 0 = z := ⟨_, rfl⟩
      rw [hz] at hcell hr
      have HZ := hid hz
      clear hz
      rcases okT_dec z with hok | hbad | hbad | hbad
      · have HOK := hid hok
        obtain ⟨o1, o2, o3⟩ := hok
        have o3' : (z == 39) = false := by simp [o3]
        clear o3
        go_wp2_with fail
        go_round
        case rel => exact ⟨k + 1, by omega, by go_num, hid (by
          rw [List.take_succ_eq_append_getElem hlt]
          intro y hy
          rcases List.mem_append.1 hy with h | h
          · exact HO.out y h
          · simp at h
            have := HZ.out
            rw [List.getElem?_eq_getElem hlt] at this
            simp at this
            rw [h, this]; exact HOK.out)⟩
        case measure => simp [intOf]; omega
      · go_wp2_with fail
        go_ret
        exact ⟨rfl, HB1.out⟩
      · go_wp2_with fail
        go_ret
        exact ⟨rfl, HB1.out⟩
      · have hb' : (z == 39) = true := by simp [hbad]
        have t1 : ¬ z < 32 := by omega
        have t2 : ¬ 126 < z := by omega
        clear hbad
        go_wp2_with fail
        go_ret
        exact ⟨rfl, HB1.out⟩
    · have hall : ∀ z ∈ xs, okT z := by
        have := HO.out
        rw [List.take_of_length_le (by omega)] at this
        exact this
      have hsc : ∀ w, Calls Tryd.prog 9 #[.string (⟨#[39]⟩ ++ str xs ++ ⟨#[39]⟩), .int .i64 0] w fun e w' => e = .returned (.tuple #[.int .i64 (le xs), .int .i64 ((xs.length : Int) + 2), .agg #[.int .i64 0, .int .i64 0]]) ∧ Below w.heap.size w w' := fun w => by
        have := scan_any (⟨#[39]⟩ ++ str xs ++ ⟨#[39]⟩) 0 w (by rw [ByteArray.size_append, ByteArray.size_append, show (str xs).size = xs.length from strOfNums_size xs, show (⟨#[39]⟩ : ByteArray).size = 1 from rfl]; omega)
        rw [nums_append, nums_append, nums_q, show nums (str xs) = xs from nums_str xs HBY.out] at this
        have e := scan_text xs hall h1 h8
        rw [show [39] ++ xs ++ [39] = 39 :: xs ++ [39] from rfl, e] at this
        exact this
      have HSC := hid hsc
      have HL := hid (le_small xs hall h8)
      have hcv := conv_bytes (some ⟨b, off, none⟩) c xs w1 w.heap.size HX1.out
      have hss : (str xs).size = xs.length := strOfNums_size xs
      clear hsc hall
      go_wp2_with (go_at_call 9; (with_reducible refine (HSC.out _).mono ?_); rintro e w2 ⟨rfl, hb2⟩)
      have HB2 := hid ((HB1.out.trans (hb2.mono HB1.out.size)).alloc (Nat.le_trans HB1.out.size hb2.size) (.cells #[.int .i64 0, .int .i64 0] 24))
      have hw2 : w.heap.size ≤ w2.heap.size := Nat.le_trans HB1.out.size hb2.size
      clear hb2
      go_loopw [8, 9] (fun v i wr => ∃ k : Nat, k ≤ xs.length ∧ i = .int .i64 k ∧ Hid (Below w.heap.size w wr) ∧ Hid (wr.ownsRow w.heap.size 5 1 v k ((bytesOf (le xs) k).map (Value.int .u8)))) (fun _ i _ => xs.length - (intOf i).toNat)
      case atStart => exact ⟨0, by omega, rfl, HB2, hid (by simpa [bytesOf] using World.ownsRow_nil _ _ _ _)⟩
      case round =>
        obtain ⟨j, hj, rfl, HB, HO⟩ := hrel
        by_cases hjl : j < xs.length
        · have e8 := hid (show (8 * (j : Int)).toNat = 8 * j by omega)
          go_wp2_with (at_builtin; refine wpList_append_own _ rfl _ _ 32 rfl w.heap.size 5 i0 (.int .u8 0) 1 1 Tryd.underlying32 I3.out I0.out I1.out I2.out rfl (by decide) _ _ _ rfl (HO.out.alloc _) ⟨wr.heap.size, 0, none⟩ 1 1 [.int .u8 (le xs / 2 ^ (8 * j) % 256)] rfl rfl ?c1 ?c2 ?c3 ?c4 ?c5 ?_)
          case c1 => exact one_new _ _ _
          case c2 => simp [Value.oneCell']
          case c3 => simp [maxLen]; omega
          case c4 => omega
          case c5 => have := HB.out.size; simp; omega
          intro v' w5 hown' hgrow _
          have HB1 := hid (((HB.out.alloc HB.out.size _).grown hgrow (by have := HB.out.size; simp; omega) (fun k hk => (HO.out.lt k hk).1)))
          have HO1 := hid (show w5.ownsRow w.heap.size 5 1 v' (j + 1) ((bytesOf (le xs) (j + 1)).map (Value.int .u8)) by rw [bytesOf_succ, List.map_append]; exact hown')
          clear hown' hgrow
          go_wp2
          go_roundw
          case rel => exact ⟨j + 1, by omega, by go_num, HB1, HO1⟩
          case measure => simp [intOf]; omega
        · have hjx : j = xs.length := by omega
          have HO2 := HO.out
          rw [hjx] at HO2
          have e := bytesOf_le xs HBY.out 0
          rw [Int.zero_mul, Int.add_zero] at e
          rw [e] at HO2
          obtain ⟨A', c', hv⟩ := own_form HO2
          subst hv
          have HM := hid (own_mem HO2 HBY.out (Nat.le_refl _)).1
          have HXR := hid (HX.out.below HB.out)
          have e8 := hid (show (8 * (xs.length : Int)).toNat = 8 * xs.length by omega)
          have HZ := hid (show le xs / 2 ^ (8 * xs.length) = 0 from Int.ediv_eq_zero_of_lt HL.out.1 HL.out.2.1)
          clear hjx HO2 e
          go_wp2_with (go_at_call 17; refine (same_of _ _ _ _ _ _ xs xs _ ⟨_, HM.out⟩ ⟨_, HXR.out⟩ rfl rfl).mono ?_; rintro e w' ⟨rfl, rfl⟩)
          all_goals
            go_ret
            first | exact ⟨rfl, HB.out⟩ | exact ⟨ret_b (by rw [HZ.out]; simp), HB.out⟩
theorem bytes_none (A : Option Addr) (c : Nat) (xs : List Int) (w : World) (ht : Tabs w) (h : xs.length < 1 ∨ 8 < xs.length) :
    Calls Tryd.prog 7 #[.slice A xs.length c] w fun e w' => e = .returned (.bool true) ∧ Below w.heap.size w w' := by
  have HT := hid ht
  clear ht
  rcases h with h | h
  all_goals
    go_enter Tryd.func7, Tryd.ntmps7
    go_wp2_with (go_at_call 11; refine (awake_any _ HT.out).mono ?_; rintro e w1 ⟨rfl, hb1⟩)
    go_ret
    exact ⟨rfl, hb1⟩
theorem bytes_law (A : Option Addr) (c : Nat) (xs : List Int) (w : World) (ht : Tabs w) (hx : Mem w w.heap.size A xs) (hcap : xs.length ≤ c) (_ : c ≤ 9223372036854775807) :
    Calls Tryd.prog 7 #[.slice A xs.length c] w fun e w' => e = .returned (.bool true) ∧ Below w.heap.size w w' := by
  by_cases h : 1 ≤ xs.length ∧ xs.length ≤ 8
  · exact bytes_walk A c xs w ht hx hcap h.1 h.2
  · exact bytes_none A c xs w ht (by omega)
end Go.Proofs.YtibhpfddjlnbmaaDoor
