/-
  SameLists and OverBytes: two lists that read alike; one block alone written over.
-/
import Derived.Test.YtllnjmpakkodnaaVxLists
import Derived.Test.YtllnjmpakkodnaaOld
namespace Go.Proofs.Ytllnjmpakkodnaa
open Go.RowKit
set_option maxRecDepth 100000

/-- A slice that reads as lists of bytes. -/
def LR (w : World) (A : Option Addr) (L : List (List Int)) : Prop :=
  L = [] ∨ ∃ g, A = some ⟨g, 0, none⟩ ∧ g < w.heap.size ∧ ∀ (j : Nat) (l : List Int), L[j]? = some l → ∃ q, w.cell? ⟨g, j, none⟩ = some (.slice (some ⟨q, 0, none⟩) l.length l.length) ∧ Mem w w.heap.size (some ⟨q, 0, none⟩) l
theorem LR.below {w w' : World} {A : Option Addr} {L : List (List Int)} (h : LR w A L) (hb : Below w.heap.size w w') : LR w' A L := by
  rcases h with h | ⟨g, e, hg, h⟩
  · exact .inl h
  · refine .inr ⟨g, e, Nat.lt_of_lt_of_le hg hb.size, fun j l hj => ?_⟩
    obtain ⟨q, h1, h2⟩ := h j l hj
    exact ⟨q, (hb.cell (p := ⟨g, j, none⟩) hg).trans h1, (h2.below hb).mono hb.size⟩
theorem LR.at {w : World} {A : Option Addr} {L : List (List Int)} (h : LR w A L) {j : Nat} (hj : j < L.length) : ∃ g q l, A = some ⟨g, 0, none⟩ ∧ L[j]? = some l ∧ w.cell? ⟨g, j, none⟩ = some (.slice (some ⟨q, 0, none⟩) l.length l.length) ∧ Mem w w.heap.size (some ⟨q, 0, none⟩) l := by
  rcases h with rfl | ⟨g, e, hg, h⟩
  · simp at hj
  · obtain ⟨q, h1, h2⟩ := h j L[j] (List.getElem?_eq_getElem hj)
    exact ⟨g, q, L[j], e, List.getElem?_eq_getElem hj, h1, h2⟩
theorem Lists.read {w : World} {base : Nat} {v : Value} {Z : List Zr} (h : Lists w base v Z) (hb : ∀ z ∈ Z, isBytes z.bs) : ∃ A c, v = .slice A Z.length c ∧ Z.length ≤ c ∧ c ≤ 9223372036854775807 ∧ LR w A (Z.map Zr.bs) := by
  have hc := h.1
  rcases h.1.2 with ⟨rfl, hl⟩ | ⟨g, cap, cur, rfl, _, hg, h1, h2, _⟩
  · exact ⟨none, 0, by rw [hl], by omega, by omega, .inl (by rw [List.length_eq_zero_iff.1 hl]; rfl)⟩
  · refine ⟨_, cap, rfl, h1, by unfold maxLen at h2; omega, .inr ⟨g, rfl, (Array.getElem?_eq_some_iff.1 hg).1, fun j l hj => ?_⟩⟩
    rw [List.getElem?_map] at hj
    obtain ⟨z, hz, rfl⟩ := Option.map_eq_some_iff.1 hj
    have hm := List.mem_of_getElem? hz
    refine ⟨z.g, ?_, (h.2.1 z hm).2.mem (hb z hm) (h.2.1 z hm).2.lt⟩
    have := hc.cells rfl j (zv z) (by rw [List.getElem?_map, hz]; rfl)
    have hadd : (⟨g, 0, none⟩ : Addr).add j = ⟨g, j, none⟩ := by unfold Addr.add; split <;> simp_all
    rw [hadd] at this
    exact this
set_option maxHeartbeats 1000000 in
theorem samelists_yes (L : List (List Int)) (n : Nat) (hn : L.length = n) (h3 : n ≤ 10) (A A' : Option Addr) (c c' : Nat) (w : World) (h1 : LR w A L) (h2 : LR w A' L) :
    Calls Try.prog 11 #[.slice A n c, .slice A' n c'] w fun e w' => e = .returned (.bool true) ∧ Below w.heap.size w w' := by
  have H1 := hid h1
  have H2 := hid h2
  have HN := hid hn
  have n10 : (n : Int) ≤ 10 := by omega
  clear h1 h2 hn
  go_enter Try.func11, Try.ntmps11
  go_wp2
  go_loopw [5] (fun i wr => ∃ k : Nat, k ≤ n ∧ i = .int .i64 k ∧ Hid (Below w.heap.size w wr)) (fun i _ => n - (intOf i).toNat)
  case atStart => exact ⟨0, by omega, rfl, hid (Below.refl _ _)⟩
  case round =>
    obtain ⟨k, hk, rfl, HB⟩ := hrel
    by_cases hkn : k < n
    · have i0 : (0 : Int) ≤ (k : Int) := by omega
      have i1 : (k : Int) < (n : Int) := by omega
      obtain ⟨g1, q1, l, rfl, hl, x1, hM1⟩ := (H1.out.below HB.out).at (j := k) (by rw [HN.out]; exact hkn)
      obtain ⟨g2, q2, l', rfl, hl', x2, hM2⟩ := (H2.out.below HB.out).at (j := k) (by rw [HN.out]; exact hkn)
      obtain rfl : l = l' := by rw [hl] at hl'; exact Option.some.inj hl'
      have HM1 := hid hM1
      have HM2 := hid hM2
      have g1l : g1 < wr.heap.size := World.block_lt_of_cell? wr _ x1
      have g2l : g2 < wr.heap.size := World.block_lt_of_cell? wr _ x2
      clear hl hl' hM1 hM2
      go_wp2
      go_region_held3 (fun w' => Below wr.heap.size wr w' ∧ ∀ b o, b < wr.heap.size → w'.cell? ⟨b, o, none⟩ = wr.cell? ⟨b, o, none⟩) (first | with_reducible assumption | exact old_drew (Old.of (Below.refl wr.heap.size wr)) | exact Old.of (Below.refl wr.heap.size wr)) ((go_at_call 13; refine (same_of _ _ _ _ _ _ l l _ ⟨_, HM1.out.below (And.left ‹Below wr.heap.size wr _ ∧ _›)⟩ ⟨_, HM2.out.below (And.left ‹Below wr.heap.size wr _ ∧ _›)⟩ rfl rfl).mono ?_; rintro e w5 ⟨rfl, rfl⟩))
      go_wp2
      go_roundw
      case rel => exact ⟨k + 1, by omega, by go_num, hid HB.out.drew⟩
      case measure => simp [intOf]; omega
    · have hk' : k = n := by omega
      subst hk'
      go_wp2
      go_ret
      exact ⟨rfl, HB.out⟩
theorem turn_set (w : World) (g i : Nat) (v : Value) : w.grownBy (w.setCell ⟨g, i, none⟩ v) (some g) :=
  ⟨rfl, rfl, rfl, by simp [World.setCell], fun _ _ hr => Below.heap_setCell _ _ _ _ (fun e => hr (by rw [e]))⟩
theorem overb_any (g n : Nat) (zs : List Int) (c : Nat) (hc : zs.length = c) (w : World) (hg : ByB w g 5 zs) (hz : c ≤ 9223372036854775807) :
    Calls Try.prog 12 #[.slice (some ⟨g, 0, none⟩) n c] w fun e w' => e = .returned (.tuple #[]) ∧ w.grownBy w' (some g) := by
  subst hc
  have HG := hid hg
  clear hg
  have e2 : (0 : Int) ≤ (zs.length : Int) := by omega
  go_enter Try.func12, Try.ntmps12
  go_wp2
  go_loopw [3] (fun i wr => ∃ (k : Nat) (ys : List Int), k ≤ zs.length ∧ ys.length = zs.length ∧ i = .int .i64 k ∧ w.grownBy wr (some g) ∧ ByB wr g 5 ys) (fun i _ => zs.length - (intOf i).toNat)
  case atStart => exact ⟨0, zs, by omega, rfl, rfl, World.grownBy.refl _ _, HG.out⟩
  case round =>
    obtain ⟨k, ys, hk, hys, rfl, hbel, hblk⟩ := hrel
    by_cases hks : k < zs.length
    · have hcell := hblk.cell k (by omega)
      have hfr := hblk.frozen k
      have HB := hid hbel
      have HL := hid (hblk.set_ k (bits .xor .u8 (ys[k]?.getD 0) 90))
      have HY := hid (show (ys.set k (bits .xor .u8 (ys[k]?.getD 0) 90)).length = zs.length by simpa using hys)
      clear hbel hblk hys
      go_wp2
      go_roundw
      case rel => exact ⟨k + 1, _, by omega, HY.out, by go_num, turn_trans HB.out (turn_set _ _ _ _), HL.out⟩
      case measure => simp [intOf]; omega
    · have HB := hid hbel
      clear hbel hblk hys
      go_wp2
      go_end0
      exact ⟨rfl, HB.out⟩
end Go.Proofs.Ytllnjmpakkodnaa
