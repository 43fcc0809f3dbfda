/-
  Words for bytes in memory: a slice that reads as a list of numbers, in old memory or in a block that the call made.
-/
import Derived.WalkKit
import Derived.WalkSpells
import Derived.Test.YtllnjmpakkodnaaNum
namespace Go.Proofs.Ytllnjmpakkodnaa
open Go.RowKit

def isBytes (zs : List Int) : Prop := ∀ z ∈ zs, 0 ≤ z ∧ z < 256
/-- From A on the bytes zs stand, in a block below B. -/
def Mem (w : World) (B : Nat) (A : Option Addr) (zs : List Int) : Prop :=
  isBytes zs ∧ (zs = [] ∨ ∃ b off, A = some ⟨b, off, none⟩ ∧ b < B ∧ ∀ i, i < zs.length → w.cell? ⟨b, off + i, none⟩ = some (.int .u8 (zs[i]?.getD 0)))
theorem isBytes.getD {zs : List Int} (h : isBytes zs) (i : Nat) : 0 ≤ zs[i]?.getD 0 ∧ zs[i]?.getD 0 < 256 := by
  rcases Nat.lt_or_ge i zs.length with hi | hi
  · rw [List.getElem?_eq_getElem hi]; exact h _ (List.getElem_mem hi)
  · rw [List.getElem?_eq_none hi]; simp
theorem isBytes.take {zs : List Int} (h : isBytes zs) (n : Nat) : isBytes (zs.take n) := fun z hz => h z (List.mem_of_mem_take hz)
theorem isBytes.drop {zs : List Int} (h : isBytes zs) (n : Nat) : isBytes (zs.drop n) := fun z hz => h z (List.mem_of_mem_drop hz)
theorem isBytes.append {xs ys : List Int} (h : isBytes xs) (k : isBytes ys) : isBytes (xs ++ ys) := fun z hz => by
  rcases List.mem_append.1 hz with h1 | h1
  · exact h z h1
  · exact k z h1
theorem Mem.take {w : World} {B : Nat} {A : Option Addr} {zs : List Int} (h : Mem w B A zs) (n : Nat) : Mem w B A (zs.take n) := by
  refine ⟨h.1.take n, ?_⟩
  rcases h.2 with rfl | ⟨b, off, rfl, hb, hc⟩
  · left; simp
  · refine .inr ⟨b, off, rfl, hb, fun i hi => ?_⟩
    rw [List.length_take] at hi
    rw [hc i (by omega), List.getElem?_take, if_pos (by omega)]
theorem Mem.mono {w : World} {B B' : Nat} {A : Option Addr} {zs : List Int} (h : Mem w B A zs) (hB : B ≤ B') : Mem w B' A zs := by
  refine ⟨h.1, ?_⟩
  rcases h.2 with rfl | ⟨b, off, rfl, hb, hc⟩
  · left; rfl
  · exact .inr ⟨b, off, rfl, by omega, hc⟩
theorem Mem.keep {w w' : World} {B : Nat} {A : Option Addr} {zs : List Int} (h : Mem w B A zs) (hk : ∀ p : Addr, p.block < B → w'.cell? p = w.cell? p) : Mem w' B A zs := by
  refine ⟨h.1, ?_⟩
  rcases h.2 with rfl | ⟨b, off, rfl, hb, hc⟩
  · left; rfl
  · exact .inr ⟨b, off, rfl, hb, fun i hi => by rw [hk _ hb]; exact hc i hi⟩
theorem Mem.below {w w' : World} {B : Nat} {A : Option Addr} {zs : List Int} (h : Mem w B A zs) (hb : Below B w w') : Mem w' B A zs := h.keep fun _ hp => hb.cell hp
theorem Mem.nil (w : World) (B : Nat) (A : Option Addr) : Mem w B A [] := ⟨by simp [isBytes], .inl rfl⟩
/-- Block g, from B on, is just the bytes zs, and may be written. -/
def ByB (w : World) (g : Nat) (t : TypeId) (zs : List Int) : Prop := w.heap[g]? = some (.cells (zs.map (Value.int .u8)).toArray t (0, 0))
theorem ByB.lt {w : World} {g : Nat} {t : TypeId} {zs : List Int} (h : ByB w g t zs) : g < w.heap.size := by
  rcases Nat.lt_or_ge g w.heap.size with hlt | hge
  · exact hlt
  · unfold ByB at h; rw [Array.getElem?_eq_none hge] at h; cases h
theorem ByB.cell {w : World} {g : Nat} {t : TypeId} {zs : List Int} (h : ByB w g t zs) (i : Nat) (hi : i < zs.length) : w.cell? ⟨g, i, none⟩ = some (.int .u8 (zs[i]?.getD 0)) := by
  have := cell_of_row w g i _ t (0, 0) h
  rw [this]
  simp [hi]
theorem ByB.frozen {w : World} {g : Nat} {t : TypeId} {zs : List Int} (h : ByB w g t zs) (i : Nat) : w.frozen? ⟨g, i, none⟩ = false := by
  unfold ByB at h
  simp [World.frozen?, h]
theorem ByB.mem {w : World} {g B : Nat} {t : TypeId} {zs : List Int} (h : ByB w g t zs) (hz : isBytes zs) (hB : g < B) : Mem w B (some ⟨g, 0, none⟩) zs :=
  ⟨hz, .inr ⟨g, 0, rfl, hB, fun i hi => by rw [Nat.zero_add]; exact h.cell i hi⟩⟩
theorem ByB.below {w w' : World} {g B : Nat} {t : TypeId} {zs : List Int} (h : ByB w g t zs) (hb : Below B w w') (hg : g < B) : ByB w' g t zs := (hb.block g hg).trans h
theorem ByB.set_ {w : World} {g : Nat} {t : TypeId} {zs : List Int} (h : ByB w g t zs) (i : Nat) (z : Int) : ByB (w.setCell ⟨g, i, none⟩ (.int .u8 z)) g t (zs.set i z) := by
  unfold ByB at h ⊢
  simp [World.setCell, Array.getElem?_modify, h, List.map_set]
end Go.Proofs.Ytllnjmpakkodnaa
