/-
  Put: a number's bytes, told by package field, in new memory.
-/
import Derived.Test.YtiiepdgpnnjpiaaDoorFBase
namespace Go.Proofs.YtiiepdgpnnjpiaaDoor
open Go.RowKit

def putE (n size : Int) : Int := if sizeOk size then (if wideB n (8 * size) then 0 else 5) else 2
def putTo (n : Int) (s k : Nat) : List Int := bytesOf n k ++ List.replicate (s - k) 0
theorem putTo_length (n : Int) (s k : Nat) (h : k ≤ s) : (putTo n s k).length = s := by simp [putTo, bytesOf_length]; omega
theorem putTo_set (n : Int) (s k : Nat) (h : k < s) : (putTo n s k).set k (n / 2 ^ (8 * k) % 256) = putTo n s (k + 1) := by
  unfold putTo
  rw [List.set_append_right _ _ (by rw [bytesOf_length]; omega), bytesOf_length, Nat.sub_self, bytesOf_succ, List.append_assoc]
  congr 1
  obtain ⟨d, hd⟩ : ∃ d, s - k = d + 1 := ⟨s - k - 1, by omega⟩
  rw [hd, show s - (k + 1) = d by omega]
  rfl
theorem putTo_zero (n : Int) (s : Nat) : putTo n s 0 = List.replicate s 0 := by simp [putTo, bytesOf]
theorem putTo_all (n : Int) (s : Nat) : putTo n s s = bytesOf n s := by simp [putTo]
theorem put_ok (n : Int) (s : Nat) (w : World) (hn : I64 n) (hs : sizeOk s = true) (hw : wideB n (8 * s) = true) :
    Calls Tryd.prog 95 #[.int .i64 n, .int .i64 s] w fun e w' =>
      e = .returned (.tuple #[.slice (some ⟨w.heap.size, 0, none⟩) s s, .int .i64 0]) ∧ Below w.heap.size w w' ∧ ByB w' w.heap.size 5 (bytesOf n s) := by
  have hs8 := (sizeOk_iff _).1 hs
  have h8 : (s : Int) ≤ 8 := by omega
  have HN := hid hn; clear hn
  have hmk := make_bytes s (by omega)
  clear hs8
  go_enter Tryd.func95, Tryd.ntmps95
  go_wp2_with (first | (go_at_call 86; refine (fsized_any _ _).mono ?_; rintro e w' ⟨rfl, rfl⟩) | (go_at_call 103; refine (fwide_any _ _ _ HN.out).mono ?_; rintro e w' ⟨rfl, rfl⟩))
  go_loopw [19] (fun i wr => ∃ k : Nat, k ≤ s ∧ i = .int .i64 k ∧ Below w.heap.size w wr ∧ ByB wr w.heap.size 5 (putTo n s k)) (fun i _ => s - (intOf i).toNat)
  case atStart => exact ⟨0, by omega, rfl, (Below.refl _ _).alloc (Nat.le_refl _) _, by rw [putTo_zero]; exact ByB.zeros _ _ _⟩
  case round =>
    obtain ⟨k, hk, rfl, hbel, hblk⟩ := hrel
    by_cases hks : k < s
    · have hcell := hblk.cell k (by rw [putTo_length _ _ _ hk]; exact hks)
      have hfr := hblk.frozen k
      have HB := hid hbel
      have HL := hid (show ByB (wr.setCell ⟨w.heap.size, k, none⟩ (.int .u8 (n / 2 ^ (8 * k) % 256))) _ _ (putTo n s (k + 1)) by rw [← putTo_set n s k hks]; exact hblk.set_ k _)
      clear hbel hblk
      go_wp2
      go_roundw
      case rel => exact ⟨k + 1, by omega, by go_num, HB.out.setCell (Nat.le_refl _) _, HL.out⟩
      case measure => simp [intOf]; omega
    · have HB := hid hbel
      have hks' : k = s := by omega
      rw [hks', putTo_all] at hblk
      have HL := hid hblk
      clear hks'
      clear hbel hblk
      go_wp2
      go_ret2
      exact ⟨rfl, HB.out, HL.out⟩
/-- What Put answers, whatever it is given. -/
def Put (n size : Int) (w : World) (e : Ending) (w' : World) : Prop :=
  ∃ (A : Option Addr) (s : Nat), e = .returned (.tuple #[.slice A s s, .int .i64 (putE n size)]) ∧ Below w.heap.size w w' ∧
    ((putE n size = 0 ∧ (s : Int) = size ∧ A = some ⟨w.heap.size, 0, none⟩ ∧ ByB w' w.heap.size 5 (bytesOf n s)) ∨ (putE n size ≠ 0 ∧ s = 0 ∧ A = none))
theorem put_any (n size : Int) (w : World) (hn : I64 n) :
    Calls Tryd.prog 95 #[.int .i64 n, .int .i64 size] w (Put n size w) := by
  by_cases hs : sizeOk size = true
  · have hs8 := (sizeOk_iff _).1 hs
    by_cases hw : wideB n (8 * size) = true
    · obtain ⟨s, rfl⟩ := Int.eq_ofNat_of_zero_le (by omega : 0 ≤ size)
      have e0 : putE n s = 0 := by unfold putE; rw [if_pos hs, if_pos hw]
      refine (put_ok n s w hn hs hw).mono fun e w' ⟨he, hb, hk⟩ => ⟨_, s, by rw [he, e0], hb, .inl ⟨e0, rfl, rfl, hk⟩⟩
    · have hw' : wideB n (8 * size) = false := by simpa using hw
      have e0 : putE n size = 5 := by unfold putE; rw [if_pos hs, if_neg hw]
      have E0 := hid e0; clear e0
      have HN := hid hn; clear hn hw
      have b8 : size ≤ 8 := by omega
      have b0 : 0 ≤ size := by omega
      clear hs8
      go_enter Tryd.func95, Tryd.ntmps95
      go_wp2_with (first | (go_at_call 86; refine (fsized_any _ _).mono ?_; rintro e w' ⟨rfl, rfl⟩) | (go_at_call 103; refine (fwide_any _ _ _ HN.out).mono ?_; rintro e w' ⟨rfl, rfl⟩))
      go_ret2
      exact ⟨none, 0, by rw [E0.out]; rfl, Below.refl _ _, .inr ⟨by rw [E0.out]; decide, rfl, rfl⟩⟩
  · have hs' : sizeOk size = false := by simpa using hs
    have e0 : putE n size = 2 := by unfold putE; rw [if_neg hs]
    have E0 := hid e0; clear e0 hn hs
    go_enter Tryd.func95, Tryd.ntmps95
    go_wp2_with (go_at_call 86; refine (fsized_any _ _).mono ?_; rintro e w' ⟨rfl, rfl⟩)
    go_ret2
    exact ⟨none, 0, by rw [E0.out]; rfl, Below.refl _ _, .inr ⟨by rw [E0.out]; decide, rfl, rfl⟩⟩
end Go.Proofs.YtiiepdgpnnjpiaaDoor
