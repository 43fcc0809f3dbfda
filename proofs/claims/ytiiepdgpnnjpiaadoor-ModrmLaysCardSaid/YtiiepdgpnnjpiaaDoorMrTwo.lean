/-
  OverBytes: one block alone is written over.
  Law 9: two lists of ways, of which the first ones of the program's own have been written over.
-/
import Derived.Test.YtiiepdgpnnjpiaaDoorFCur
import Derived.Test.YtiiepdgpnnjpiaaDoorFBase
import Derived.Test.YtiiepdgpnnjpiaaDoorMrAt
import Derived.Test.YtiiepdgpnnjpiaaDoorRPlaces
section
namespace Go.Proofs.YtiiepdgpnnjpiaaDoor
open Go.RowKit
set_option maxRecDepth 100000

theorem overb_any (g n : Nat) (zs : List Int) (c : Nat) (hc : zs.length = c) (w : World) (hg : ByB w g 5 zs) (hz : c ≤ 9223372036854775807) :
    Calls Tryd.prog 11 #[.slice (some ⟨g, 0, none⟩) n c] w fun e w' => e = .returned (.tuple #[]) ∧ w.grownBy w' (some g) := by
  subst hc
  have HG := hid hg
  clear hg
  have e2 : (0 : Int) ≤ (zs.length : Int) := by omega
  go_enter Tryd.func11, Tryd.ntmps11
  go_wp2
  go_loopw [3] (fun i wr => ∃ (k : Nat) (ys : List Int), k ≤ zs.length ∧ ys.length = zs.length ∧ i = .int .i64 k ∧ w.grownBy wr (some g) ∧ ByB wr g 5 ys) (fun i _ => zs.length - (intOf i).toNat)
  case atStart => exact ⟨0, zs, by omega, rfl, rfl, World.grownBy.refl _ _, HG.out⟩
  case round =>
    obtain ⟨k, ys, hk, hys, rfl, hbel, hblk⟩ := hrel
    by_cases hks : k < zs.length
    · have hcell := hblk.cell k (by omega)
      have hfr := hblk.frozen k
      have HB := hid hbel
      have HL := hid (hblk.set_ k (bits .xor .u8 (ys[k]?.getD 0) 90))
      have HY := hid (show (ys.set k (bits .xor .u8 (ys[k]?.getD 0) 90)).length = zs.length by simpa using hys)
      clear hbel hblk hys
      go_wp2
      go_roundw
      case rel => exact ⟨k + 1, _, by omega, HY.out, by go_num, turn_trans HB.out (turn_set _ _ _ _), HL.out⟩
      case measure => simp [intOf]; omega
    · have HB := hid hbel
      clear hbel hblk hys
      go_wp2
      go_end0
      exact ⟨rfl, HB.out⟩
end Go.Proofs.YtiiepdgpnnjpiaaDoor
end
section
namespace Go.Proofs.YtiiepdgpnnjpiaaDoor
open Go.RowKit
set_option maxRecDepth 100000

structure Both (w : World) (B n : Nat) (v1 v2 : Value) (Z1 Z2 : List Zb) (k : Nat) (wr : World) : Prop where
  bel : Below w.heap.size w wr
  r1 : wr.ownsRow w.heap.size 34 3 v1 n (zcells Z1)
  h1 : ∀ (j : Nat) (z : Zb), k ≤ j → Z1[j]? = some z → Whole wr z
  r2 : wr.ownsRow B 34 3 v2 n (zcells Z2)
  h2 : ∀ z ∈ Z2, RowB wr z
/-- What does not turn. -/
structure Fix (w : World) (B n : Nat) (Z1 Z2 : List Zb) (L : List Way) : Prop where
  y1 : Z1.map Zb.y = L
  y2 : Z2.map Zb.y = L
  b1 : ∀ z ∈ Z1, w.heap.size ≤ z.g ∧ z.g < B
  nd : (Z1.map Zb.g).Nodup
  b2 : ∀ z ∈ Z2, B ≤ z.g
  l1 : Z1.length = n
  l2 : Z2.length = n
variable {w wr w' : World} {B n k : Nat} {v1 v2 : Value} {Z1 Z2 : List Zb} {L : List Way}
theorem Both.drew (h : Both w B n v1 v2 Z1 Z2 k wr) : Both w B n v1 v2 Z1 Z2 k wr.drew := ⟨h.bel.drew, h.r1, h.h1, h.r2, h.h2⟩
theorem row_ne {base m : Nat} {v : Value} {xs : List Value} {z : Zb} (h : wr.ownsRow base 34 3 v m xs) (hz : Whole wr z) : v.ownBlock = none ∨ v.ownBlock ≠ some z.g := by
  refine .inr fun e => ?_
  obtain ⟨zs, hz1, _⟩ := hz
  rcases h.2 with ⟨rfl, _⟩ | ⟨q, cap, cur, rfl, _, hq, _⟩
  · simp [Value.ownBlock] at e
  · simp [Value.ownBlock] at e
    subst e
    unfold ByB at hz1
    rw [hz1] at hq
    simp at hq
theorem Both.over {z : Zb} (h : Both w B n v1 v2 Z1 Z2 k wr) (hf : Fix w B n Z1 Z2 L) (hz : Z1[k]? = some z) (hg : wr.grownBy w' (some z.g)) : Both w B n v1 v2 Z1 Z2 (k + 1) w' := by
  have hw := h.h1 k z (Nat.le_refl _) hz
  have hb := hf.b1 z (List.mem_of_getElem? hz)
  refine ⟨h.bel.trans (turn_below hg hb.1 h.bel.size), h.r1.kept hg (row_ne h.r1 hw), fun j x hj hx => ?_, h.r2.kept hg (row_ne h.r2 hw), fun x hx => ?_⟩
  · have hx1 := h.h1 j x (by omega) hx
    refine hx1.same (hg.block _ hx1.lt ?_)
    intro e
    have e' : x.g = z.g := by simpa using e
    have n1 : (Z1.map Zb.g)[j]? = some x.g := by rw [List.getElem?_map, hx]; rfl
    have n2 : (Z1.map Zb.g)[k]? = some z.g := by rw [List.getElem?_map, hz]; rfl
    have hj1 := (List.getElem?_eq_some_iff.1 n1)
    have hk1 := (List.getElem?_eq_some_iff.1 n2)
    obtain ⟨hj1, hj2⟩ := hj1
    obtain ⟨hk1, hk2⟩ := hk1
    exact List.pairwise_iff_getElem.1 hf.nd k j hk1 hj1 (by omega) (by rw [hj2, hk2, e'])
  · have hx1 := h.h2 x hx
    refine hx1.same (hg.block _ hx1.lt ?_)
    intro e
    have e' : x.g = z.g := by simpa using e
    have := hf.b2 x hx
    omega
/-- The two ways at one place: their cells, their bytes. -/
theorem Both.at_ {A1 A2 : Option Addr} {c1 c2 j : Nat} (h : Both w B n (.slice A1 n c1) (.slice A2 n c2) Z1 Z2 k wr) (hf : Fix w B n Z1 Z2 L) (hk : k ≤ j) (hj : j < n) :
    ∃ g1 g2 q1 q2 d1 d2 y, A1 = some ⟨g1, 0, none⟩ ∧ A2 = some ⟨g2, 0, none⟩ ∧ g1 < wr.heap.size ∧ g2 < wr.heap.size ∧ Z1[j]? = some ⟨q1, d1, y⟩ ∧
      (wr.cell? ⟨g1, j * 3, none⟩ = some (.slice (some ⟨q1, 0, none⟩) y.bs.length d1) ∧ wr.cell? ⟨g1, j * 3 + 1, none⟩ = some (.int .i64 y.x) ∧ wr.cell? ⟨g1, j * 3 + 2, none⟩ = some (.int .i64 y.b)) ∧
      (wr.cell? ⟨g2, j * 3, none⟩ = some (.slice (some ⟨q2, 0, none⟩) y.bs.length d2) ∧ wr.cell? ⟨g2, j * 3 + 1, none⟩ = some (.int .i64 y.x) ∧ wr.cell? ⟨g2, j * 3 + 2, none⟩ = some (.int .i64 y.b)) ∧
      Mem wr wr.heap.size (some ⟨q1, 0, none⟩) y.bs ∧ Mem wr wr.heap.size (some ⟨q2, 0, none⟩) y.bs ∧ n ≤ c1 ∧ n ≤ c2 := by
  obtain ⟨g1, d1, e1, hle1, _, cs1, hc1⟩ := row_form h.r1 (by omega)
  obtain ⟨g2, d2, e2, hle2, _, cs2, hc2⟩ := row_form h.r2 (by omega)
  simp only [Value.slice.injEq] at e1 e2
  obtain ⟨rfl, -, rfl⟩ := e1
  obtain ⟨rfl, -, rfl⟩ := e2
  have k1 : j < Z1.length := by rw [hf.l1]; exact hj
  have k2 : j < Z2.length := by rw [hf.l2]; exact hj
  have z1 : Z1[j]? = some Z1[j] := List.getElem?_eq_getElem k1
  have z2 : Z2[j]? = some Z2[j] := List.getElem?_eq_getElem k2
  generalize Z1[j] = x1 at z1
  generalize Z2[j] = x2 at z2
  have hy : x1.y = x2.y := by
    have a1 := congrArg (fun l => l[j]?) hf.y1
    have a2 := congrArg (fun l => l[j]?) hf.y2
    simp only [List.getElem?_map, z1, z2, Option.map_some] at a1 a2
    rw [← a2] at a1
    simpa using a1
  have r1 := row_at h.r1 hf.l1 z1
  have r2 := row_at h.r2 hf.l2 z2
  have w1 := h.h1 j x1 hk z1
  have w2 := h.h2 x2 (List.mem_of_getElem? z2)
  obtain ⟨q1, f1, y⟩ := x1
  obtain ⟨q2, f2, y'⟩ := x2
  simp only at hy
  subst hy
  refine ⟨g1, g2, q1, q2, f1, f2, y, rfl, rfl, (Array.getElem?_eq_some_iff.1 hc1).1, (Array.getElem?_eq_some_iff.1 hc2).1, z1, r1, r2, (w1.mem w2.1).mono w1.lt, ?_, hle1, hle2⟩
  refine ⟨w2.1, .inr ⟨q2, 0, rfl, w2.lt, fun i hi => ?_⟩⟩
  obtain ⟨_, _, cs, hcs, ht⟩ := w2
  simp only at hcs ht hi
  rw [Nat.zero_add, cell_of_row wr q2 i cs _ (0, 0) hcs]
  have := congrArg (fun l => l[i]?) ht
  simp only [List.getElem?_take, if_pos hi, List.getElem?_map, Array.getElem?_toList] at this
  rw [this, List.getElem?_eq_getElem hi]
  rfl
end Go.Proofs.YtiiepdgpnnjpiaaDoor
end
