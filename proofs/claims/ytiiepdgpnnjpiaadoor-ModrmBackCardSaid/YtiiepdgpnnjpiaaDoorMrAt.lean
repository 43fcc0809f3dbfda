/-
  Ways in memory, read at a place of their list.
-/
import Derived.Test.YtiiepdgpnnjpiaaDoorMrBase
namespace Go.Proofs.YtiiepdgpnnjpiaaDoor
open Go.RowKit
set_option maxRecDepth 100000

theorem zcells_at {Z : List Zb} {k : Nat} {z : Zb} (hk : Z[k]? = some z) : ∀ j, j < 3 → (zcells Z)[k * 3 + j]? = (ZV z)[j]? := by
  induction Z generalizing k with
  | nil => simp at hk
  | cons x Z ih =>
    intro j hj
    have e : zcells (x :: Z) = ZV x ++ zcells Z := rfl
    have hl : (ZV x).length = 3 := rfl
    rw [e]
    cases k with
    | zero =>
      simp at hk
      subst hk
      rw [List.getElem?_append_left (by rw [hl]; omega)]
      simp
    | succ k =>
      rw [List.getElem?_append_right (by rw [hl]; omega), hl, show (k + 1) * 3 + j - 3 = k * 3 + j by omega]
      exact ih (by simpa using hk) j hj
/-- The row of a slice of ways: where its cells stand. -/
theorem row_at {w : World} {base g n c k : Nat} {Z : List Zb} {z : Zb} (h : w.ownsRow base 34 3 (.slice (some ⟨g, 0, none⟩) n c) n (zcells Z)) (hn : Z.length = n) (hk : Z[k]? = some z) :
    w.cell? ⟨g, k * 3, none⟩ = some (.slice (some ⟨z.g, 0, none⟩) z.y.bs.length z.c) ∧ w.cell? ⟨g, k * 3 + 1, none⟩ = some (.int .i64 z.y.x) ∧ w.cell? ⟨g, k * 3 + 2, none⟩ = some (.int .i64 z.y.b) := by
  have hlt : k < Z.length := (List.getElem?_eq_some_iff.1 hk).1
  have hc : ∀ j, j < 3 → w.cell? ⟨g, k * 3 + j, none⟩ = (ZV z)[j]? := by
    intro j hj
    rw [h.cellAt (k * 3 + j) (by omega), zcells_at hk j hj]
  have c0 := hc 0 (by omega)
  have c1 := hc 1 (by omega)
  have c2 := hc 2 (by omega)
  exact ⟨by simpa [ZV] using c0, by simpa [ZV] using c1, by simpa [ZV] using c2⟩
theorem row_form {w : World} {base n : Nat} {v : Value} {xs : List Value} {t : TypeId} {k : Nat} (h : w.ownsRow base t k v n xs) (hn : n ≠ 0) : ∃ g c, v = .slice (some ⟨g, 0, none⟩) n c ∧ n ≤ c ∧ base ≤ g ∧ ∃ cs, w.heap[g]? = some (.cells cs t (0, 0)) := by
  rcases h.2 with ⟨_, he⟩ | ⟨g, cap, cur, rfl, hg, hgg, hle, _⟩
  · exact absurd he hn
  · exact ⟨g, cap, rfl, hle, hg, cur, hgg⟩
theorem same_yes {A A' : Option Addr} {n m c c' : Nat} {xs : List Int} {w : World} {B B' : Nat} (hx : Mem w B A xs) (hy : Mem w B' A' xs) (hn : xs.length = n) (hm : xs.length = m) :
    Calls Tryd.prog 10 #[.slice A n c, .slice A' m c'] w fun e w' => e = .returned (.bool true) ∧ w = w' := by
  have h := same_of A A' n m c c' xs xs w ⟨B, hx⟩ ⟨B', hy⟩ hn hm
  simpa using h
theorem Whole.below {w w' : World} {z : Zb} {B : Nat} (h : Whole w z) (hb : isBytes z.y.bs) (hw : Below w.heap.size w w') (hB : w.heap.size ≤ B) : Mem w' B (some ⟨z.g, 0, none⟩) z.y.bs :=
  ((h.mem hb).below (hw.mono h.lt)).mono (Nat.le_trans h.lt hB)
theorem slice_form {w : World} {base n : Nat} {v : Value} {xs : List Value} {t : TypeId} {k : Nat} (h : w.ownsRow base t k v n xs) : ∃ A c, v = .slice A n c := by
  rcases h.2 with ⟨rfl, rfl⟩ | ⟨g, cap, cur, rfl, _⟩
  · exact ⟨none, 0, rfl⟩
  · exact ⟨_, _, rfl⟩
theorem allF_len (f : Int) (a : Ar) : (allF f a).length ≤ 9 := by
  unfold allF
  split
  · split
    · simp
    · exact waysF_len _ _
  · simp
theorem allF_bytes {f : Int} {a : Ar} {y : Way} (h : y ∈ allF f a) : isBytes y.bs := by
  unfold allF at h
  split at h
  · rename_i h0
    have hf : 0 ≤ f ∧ f ≤ 7 := by
      unfold allE at h0
      split at h0
      · exact absurd h0 (by decide)
      · omega
    split at h
    · simp at h
      subst h
      have := low_range a.rc a.rn
      intro z hz
      simp [regWay] at hz
      omega
    · simp only [waysF, List.mem_flatMap, List.mem_map] at h
      obtain ⟨hd, h1, t, h2, rfl⟩ := h
      exact wayF_bytes hf (headsF_ok _ _ h1) (tailsF_ok _ _ _ _ h2)
  · cases h
theorem Mem.drewN {w : World} {B : Nat} {A : Option Addr} {xs : List Int} (h : Mem w B A xs) (k : Nat) : Mem (w.drewN k) B A xs := h.keep fun _ _ => rfl
theorem same_told {A A' : Option Addr} {n m c c' : Nat} {xs ys : List Int} {v : Bool} (hv : decide (xs = ys) = v) {w : World} {B B' : Nat} (hx : Mem w B A xs) (hy : Mem w B' A' ys) (hn : xs.length = n) (hm : ys.length = m) :
    Calls Tryd.prog 10 #[.slice A n c, .slice A' m c'] w fun e w' => e = .returned (.bool v) ∧ w' = w := by
  have h := same_of A A' n m c c' xs ys w ⟨B, hx⟩ ⟨B', hy⟩ hn hm
  rw [hv] at h
  exact h.mono fun _ _ ⟨h1, h2⟩ => ⟨h1, h2.symm⟩
end Go.Proofs.YtiiepdgpnnjpiaaDoor
