/-
  Words: where one ends, its base, its digits.
-/
import Derived.Test.YtibhpfddjlnbmaaDoorChar
import Derived.Test.YtibhpfddjlnbmaaDoorShelf
import Derived.Handy
namespace Go.Proofs.YtibhpfddjlnbmaaDoor
open Go.RowKit

theorem fails_any (er a : Int) (w : World) :
    Calls Tryd.prog 19 #[.int .i64 er, .int .i64 a] w fun e w' => e = .returned (R.val (fault er a)) ∧ Below w.heap.size w w' := by
  go_enter Tryd.func19, Tryd.ntmps19
  go_wp2
  go_returns
  exact ⟨rfl, by go_grown⟩

theorem wordEnd_any (s : ByteArray) (a : Nat) (w : World) (hs : s.size ≤ 9223372036854775807) (ha : a ≤ s.size) :
    Calls Tryd.prog 29 #[.string s, .int .i64 a] w fun e w' => e = .returned (.int .i64 ((a + run ((nums s).drop a) : Nat) : Int)) ∧ w = w' := by
  have hb := get_ch s
  go_enter Tryd.func29, Tryd.ntmps29
  go_wp2
  go_loop [1] (fun i => ∃ k : Nat, k ≤ s.size ∧ i = .int .i64 k ∧ Hid (k + run ((nums s).drop k) = a + run ((nums s).drop a))) (fun i => s.size - (intOf i).toNat)
  case atStart => exact ⟨a, ha, rfl, hid rfl⟩
  case round =>
    obtain ⟨k, hk, rfl, HR⟩ := hrel
    by_cases hlt : k < s.size
    · have hc := ch_range s k
      cases hw : isW (ch s k)
      · have H2 := hid (show run ((nums s).drop k) = 0 by rw [drop_ch s k hlt]; simp [run, hw])
        go_wp2_with (go_at_call 34; refine (inWord_any _ _ hc.1 hc.2).mono ?_; rintro e w' ⟨rfl, rfl⟩)
        go_ret
        exact ⟨ret_i (by have := HR.out; have := H2.out; omega), rfl⟩
      · have H2 := hid (show run ((nums s).drop k) = run ((nums s).drop (k + 1)) + 1 by rw [drop_ch s k hlt]; simp [run, hw])
        go_wp2_with (go_at_call 34; refine (inWord_any _ _ hc.1 hc.2).mono ?_; rintro e w' ⟨rfl, rfl⟩)
        go_round
        case rel => exact ⟨k + 1, by omega, by go_num, hid (by have := HR.out; have := H2.out; omega)⟩
        case measure => simp [intOf]; omega
    · have H2 := hid (show run ((nums s).drop k) = 0 by rw [List.drop_of_length_le (by rw [nums_length]; omega)]; rfl)
      go_wp2
      go_ret
      exact ⟨ret_i (by have := HR.out; have := H2.out; omega), rfl⟩
/-- Is there a _ at place a, and allowed? -/
def dvd (s : ByteArray) (a : Nat) : Bool := ch s a == 95 && decide (0 < a) && decide (a + 1 < s.size) && !(ch s (a - 1) == 95)
theorem divides_any (s : ByteArray) (a : Nat) (w : World) (hs : s.size ≤ 9223372036854775807) (ha : a < s.size) :
    Calls Tryd.prog 36 #[.string s, .int .i64 a] w fun e w' => e = .returned (.bool (dvd s a)) ∧ w = w' := by
  have hb := get_ch s
  by_cases h1 : ch s a = 95
  · have e1 : (ch s a == 95) = true := by simp [h1]
    by_cases h2 : 0 < a
    · by_cases h3 : a + 1 < s.size
      · have h3' : (a : Int) < (s.size : Int) - 1 := by omega
        cases h4 : ch s (a - 1) == 95
        · have h4' : (ch s (a - 1) != 95) = true := by simp [bne, h4]
          have H := hid (show dvd s a = true by simp [dvd, e1, h2, h3, h4])
          clear h1
          go_enter Tryd.func36, Tryd.ntmps36
          go_wp2
          go_ret
          exact ⟨ret_b H.out.symm, rfl⟩
        · have h4' : (ch s (a - 1) != 95) = false := by simp [bne, h4]
          have H := hid (show dvd s a = false by simp [dvd, h4])
          clear h1
          go_enter Tryd.func36, Tryd.ntmps36
          go_wp2
          go_ret
          exact ⟨ret_b H.out.symm, rfl⟩
      · have H := hid (show dvd s a = false by simp [dvd, h3])
        clear h1
        go_enter Tryd.func36, Tryd.ntmps36
        go_wp2
        go_ret
        exact ⟨ret_b H.out.symm, rfl⟩
    · have H := hid (show dvd s a = false by simp [dvd, h2])
      clear h1
      go_enter Tryd.func36, Tryd.ntmps36
      go_wp2
      go_ret
      exact ⟨ret_b H.out.symm, rfl⟩
  · have e1 : (ch s a == 95) = false := by simp [h1]
    have H := hid (show dvd s a = false by simp [dvd, h1])
    clear h1
    go_enter Tryd.func36, Tryd.ntmps36
    go_wp2
    go_ret
    exact ⟨ret_b H.out.symm, rfl⟩
end Go.Proofs.YtibhpfddjlnbmaaDoor
