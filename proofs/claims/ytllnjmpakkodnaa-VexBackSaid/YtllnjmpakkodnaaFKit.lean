/-
  LentBytes: a list lent with room behind it.
-/
import Derived.Test.YtllnjmpakkodnaaBBytes
namespace Go.Proofs.Ytllnjmpakkodnaa
open Go.RowKit

def fill (i : Nat) : Int := 160 + (i : Int) % 90
def lentTo (xs : List Int) (k : Nat) : List Int := xs ++ (List.range k).map (fun j => fill (xs.length + j)) ++ List.replicate (3 - k) 0
def lent (xs : List Int) : List Int := xs ++ (List.range 3).map (fun j => fill (xs.length + j))
theorem lent_length (xs : List Int) : (lent xs).length = xs.length + 3 := by simp [lent]
theorem lent_bytes {xs : List Int} (h : isBytes xs) : isBytes (lent xs) := by
  refine h.append fun z hz => ?_
  simp only [List.mem_map] at hz
  obtain ⟨j, _, rfl⟩ := hz
  unfold fill; omega
theorem lentTo_length (xs : List Int) (k : Nat) (h : k ≤ 3) : (lentTo xs k).length = xs.length + 3 := by simp [lentTo]; omega
theorem lentTo_set (xs : List Int) (k : Nat) (h : k < 3) : (lentTo xs k).set (xs.length + k) (fill (xs.length + k)) = lentTo xs (k + 1) := by
  unfold lentTo
  rw [List.set_append_right _ _ (by simp)]
  simp only [List.length_append, List.length_map, List.length_range, Nat.sub_self, List.range_succ, List.map_append, List.map_cons, List.map_nil, List.append_assoc]
  congr 2
  obtain ⟨d, hd⟩ : ∃ d, 3 - k = d + 1 := ⟨3 - k - 1, by omega⟩
  rw [hd, show 3 - (k + 1) = d by omega]
  rfl
theorem lentTo_all (xs : List Int) : lentTo xs 3 = lent xs := by simp [lentTo, lent]
theorem splice_zero (xs : List Int) : splice (List.replicate (xs.length + 3) 0) 0 (xs.take (xs.length + 3)) = lentTo xs 0 := by
  rw [List.take_of_length_le (by omega)]
  simp [splice, lentTo]
theorem lent_any (A : Option Addr) (c : Nat) (xs : List Int) (w : World) (B : Nat) (hx : Mem w B A xs) (hl : xs.length ≤ 100000000) (hB : B ≤ w.heap.size) :
    Calls Try.prog 15 #[.slice A xs.length c] w fun e w' =>
      e = .returned (.slice (some ⟨w.heap.size, 0, none⟩) xs.length (xs.length + 3)) ∧ Below w.heap.size w w' ∧ ByB w' w.heap.size 5 (lent xs) := by
  have hmk := make_bytes' ((xs.length : Int) + 3) (by omega) (by omega)
  have HX := hid hx
  clear hx
  go_enter Try.func15, Try.ntmps15
  go_wp2_with (refine wpList_copy_bytes rfl _ _ rfl w.heap.size 0 (xs.length + 3) (xs.length + 3) A c xs (List.replicate (xs.length + 3) 0) w.heap.size rfl rfl 5 (ByB.zeros _ _ _) ?c1 ?c2 w.heap.size w ((Below.refl _ _).alloc (Nat.le_refl _) _) (Nat.le_refl _) ?_)
  case c1 => exact (HX.out.mono hB).keep fun p hp => World.cell?_alloc_lt w _ p hp
  case c2 => simp
  intro w1 hblk hbel
  have HK := hid (show ByB w1 w.heap.size 5 (lentTo xs 0) by rw [← splice_zero]; exact hblk.out)
  have HB := hid hbel
  clear hblk hbel hmk
  go_wp2
  go_loopw [4] (fun i wr => ∃ k : Nat, k ≤ 3 ∧ i = .int .i64 ((xs.length : Int) + k) ∧ Below w.heap.size w wr ∧ ByB wr w.heap.size 5 (lentTo xs k)) (fun i _ => xs.length + 3 - (intOf i).toNat)
  case atStart => exact ⟨0, by omega, by simp, HB.out, HK.out⟩
  case round =>
    obtain ⟨k, hk, rfl, hbel, hblk⟩ := hrel
    by_cases hk3 : k < 3
    · have hcell := hblk.cell (xs.length + k) (by rw [lentTo_length _ _ hk]; omega)
      have hfr := hblk.frozen (xs.length + k)
      have HB1 := hid hbel
      have hm : fill (xs.length + k) = 160 + ((xs.length : Int) + (k : Int)) % 90 := by simp [fill]
      have HL := hid (show ByB (wr.setCell ⟨w.heap.size, xs.length + k, none⟩ (.int .u8 (160 + ((xs.length : Int) + (k : Int)) % 90))) _ _ (lentTo xs (k + 1)) by rw [← lentTo_set xs k hk3, ← hm]; exact hblk.set_ _ _)
      clear hbel hblk hm
      go_wp2
      go_roundw
      case rel => exact ⟨k + 1, by omega, by go_num, HB1.out.setCell (Nat.le_refl _) _, HL.out⟩
      case measure => simp [intOf]; omega
    · have hk' : k = 3 := by omega
      rw [hk', lentTo_all] at hblk
      have HB1 := hid hbel
      have HL := hid hblk
      clear hbel hblk hk'
      go_wp2
      go_ret
      exact ⟨rfl, HB1.out, HL.out⟩
end Go.Proofs.Ytllnjmpakkodnaa
