/-
  The condition of a name: a name's place among a condition's names, the first condition that has it.
-/
import Derived.Test.YtinbgkflbphknaaDoorCondList
namespace Go.Proofs.YtinbgkflbphknaaDoor
open Go.RowKit

/-- Whether a text stands in a list. -/
def hasF (s : ByteArray) : List ByteArray → Bool
  | [] => false
  | b :: l => (s.toList == b.toList) || hasF s l
theorem hasF_drop {s : ByteArray} {l : List ByteArray} {k : Nat} {b : ByteArray} (h : l[k]? = some b) : hasF s (l.drop k) = ((s.toList == b.toList) || hasF s (l.drop (k + 1))) := by
  obtain ⟨hlt, rfl⟩ := List.getElem?_eq_some_iff.1 h
  rw [List.drop_eq_getElem_cons hlt, hasF]
theorem index_any (B : Nat) (A : Option Addr) (l : List ByteArray) (s : ByteArray) (w : World) (hs : Strs B A l w) (hl : l.length ≤ 3) :
    Calls Tryd.prog 41 #[.slice A l.length l.length, .string s] w fun e w' => (∃ i : Int, e = .returned (.int .i64 i) ∧ decide (0 ≤ i) = hasF s l) ∧ w = w' := by
  have el : (0 : Int) ≤ (l.length : Int) := by omega
  go_enter Tryd.func41, Tryd.ntmps41
  have HS := hid hs
  clear hs
  go_wp2
  go_loopw [8] (fun i wr => ∃ k : Nat, k ≤ l.length ∧ i = .int .i64 k ∧ w = wr ∧ Hid (hasF s l = hasF s (l.drop k))) (fun i _ => l.length - (intOf i).toNat)
  case atStart => exact ⟨0, by omega, rfl, rfl, hid rfl⟩
  case round =>
    obtain ⟨k, hk, rfl, rfl, HF⟩ := hrel
    by_cases hlt : k < l.length
    · obtain ⟨t, ht⟩ : ∃ t, l[k]? = some t := ⟨_, List.getElem?_eq_getElem hlt⟩
      rcases HS.out with ⟨rfl, rfl⟩ | ⟨h, rfl, _, hrow⟩
      · simp at hlt
      have hcell := hrow.2 k t ht
      have HN := hid (HF.out.trans (hasF_drop ht))
      clear ht hrow
      cases hm : s.toList == t.toList
      · go_wp2
        go_roundw
        case rel => exact ⟨k + 1, by omega, by go_num, trivial, hid (by rw [HN.out, hm]; rfl)⟩
        case measure => simp [intOf]; omega
      · go_wp2
        go_ret
        exact ⟨⟨k, rfl, by rw [HN.out, hm]; simp⟩, rfl⟩
    · go_wp2
      go_ret
      exact ⟨⟨-1, rfl, by rw [HF.out, List.drop_of_length_le (by omega)]; rfl⟩, rfl⟩
theorem contains_any (B : Nat) (A : Option Addr) (l : List ByteArray) (s : ByteArray) (w : World) (hs : Strs B A l w) (hl : l.length ≤ 3) :
    Calls Tryd.prog 36 #[.slice A l.length l.length, .string s] w fun e w' => e = .returned (.bool (hasF s l)) ∧ w = w' := by
  have HS := hid hs
  clear hs
  go_enter Tryd.func36, Tryd.ntmps36
  go_wp2_with (go_at_call 41; refine (index_any B A l s _ HS.out hl).mono ?_; rintro e w1 ⟨⟨i, rfl, hi⟩, rfl⟩)
  go_ret
  exact ⟨ret_b rfl, rfl⟩

/-- The first condition, from a number on, that has a name. -/
def fromF (s : ByteArray) (n : Nat) : Nat → Option Nat
  | 0 => none
  | j + 1 => if hasF s (NB n) then some n else fromF s (n + 1) j
def parseF (s : ByteArray) : Option Nat := fromF s 0 16
abbrev PV (o : Option Nat) : Value := match o with
  | none => .tuple #[.int .i64 0, .bool false]
  | some n => .tuple #[.int .i64 n, .bool true]
theorem fromF_next {s : ByteArray} {k : Nat} (hk : k < 16) : fromF s k (16 - k) = if hasF s (NB k) then some k else fromF s (k + 1) (16 - (k + 1)) := by
  rw [show 16 - k = (16 - (k + 1)) + 1 by omega]; rfl
set_option maxHeartbeats 1000000 in
theorem parse_any (s : ByteArray) (w : World) :
    Calls Tryd.prog 32 #[.string s] w fun e w' => e = .returned (PV (parseF s)) ∧ Below w.heap.size w w' := by
  go_enter Tryd.func32, Tryd.ntmps32
  go_wp2_with fail
  refine (names_any _).mono ?_
  rintro e w1 ⟨xs, rfl, HX, _, hb1⟩
  have HB := hid hb1
  clear hb1
  go_wp2_with fail
  go_loopw [7] (fun i wr => ∃ k : Nat, k ≤ 16 ∧ i = .int .i64 k ∧ w1 = wr ∧ Hid (parseF s = fromF s k (16 - k))) (fun i _ => 16 - (intOf i).toNat)
  case atStart => exact ⟨0, by omega, rfl, rfl, hid rfl⟩
  case round =>
    obtain ⟨k, hk, rfl, rfl, HF⟩ := hrel
    by_cases hlt : k < 16
    · obtain ⟨h, hx, hge, hrow⟩ := HX.out k hlt
      have ix := index_at hx hlt
      have HR := hid (show Strs w.heap.size (some ⟨h, 0, none⟩) (NB k) w1 from .inr ⟨h, rfl, hge, hrow⟩)
      have hl3 := (NB_length k hlt).2
      have HN := hid (HF.out.trans (fromF_next hlt))
      clear hrow
      cases hm : hasF s (NB k)
      · have HM := hid hm
        clear hm
        go_wp2_with (go_at_call 36; refine (contains_any _ _ _ s _ HR.out hl3).mono ?_; rw [HM.out]; rintro e w2 ⟨rfl, rfl⟩)
        go_roundw
        case rel => exact ⟨k + 1, by omega, by go_num, trivial, hid (by rw [HN.out, HM.out]; rfl)⟩
        case measure => simp [intOf]; omega
      · have HM := hid hm
        clear hm
        go_wp2_with (go_at_call 36; refine (contains_any _ _ _ s _ HR.out hl3).mono ?_; rw [HM.out]; rintro e w2 ⟨rfl, rfl⟩)
        go_returns
        exact ⟨by rw [HN.out, HM.out]; rfl, HB.out⟩
    · have HN := hid (show parseF s = none by rw [HF.out, show 16 - k = 0 by omega]; rfl)
      go_wp2_with fail
      go_returns
      exact ⟨by rw [HN.out]; rfl, HB.out⟩
end Go.Proofs.YtinbgkflbphknaaDoor
