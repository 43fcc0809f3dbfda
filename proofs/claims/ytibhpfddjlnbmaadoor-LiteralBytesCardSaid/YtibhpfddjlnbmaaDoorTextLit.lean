/-
  The literal of a text, plainly: the number whose bytes are its own.
-/
import Derived.Test.YtibhpfddjlnbmaaDoorText
namespace Go.Proofs.YtibhpfddjlnbmaaDoor
open Go.RowKit

/-- A byte that may stand in the literal of a text. -/
def okT (z : Int) : Prop := 32 ≤ z ∧ z ≤ 126 ∧ z ≠ 39
theorem txt_all (a full : Nat) (l : List Int) : ∀ (p : List Int), (∀ z ∈ p, okT z) → (∀ z ∈ l, okT z) → p.length + l.length ≤ 8 → 1 ≤ p.length + l.length →
    txt a full p.length (le p) (l ++ [39]) = (le (p ++ l), ((a : Int) + 1 + (p.length + l.length : Nat) + 1), 0, 0) := by
  induction l with
  | nil =>
    intro p _ _ _ h1
    simp only [List.nil_append, List.append_nil, List.length_nil, Nat.add_zero]
    rw [txt, if_pos ⟨rfl, h1⟩]
  | cons c r ih =>
    intro p hp hl h8 _
    have hc := hl c (by simp)
    unfold okT at hc
    simp only [List.length_cons] at h8
    have hb := le_bound p (fun z hz => by have := hp z hz; unfold okT at this; omega)
    have hs := txt_shift (le p) c p.length hb.1 hb.2 (by omega) (by omega) hc.2.1
    rw [List.cons_append, txt, if_neg (by omega), if_neg (by omega), if_neg (by omega), hs.2.1, ← le_snoc]
    have := ih (p ++ [c]) (fun z hz => by
      rcases List.mem_append.1 hz with h | h
      · exact hp z h
      · simp at h; subst h; exact hc) (fun z hz => hl z (by simp [hz])) (by simp; omega) (by simp; omega)
    rw [List.length_append, List.length_singleton] at this
    rw [this]
    simp only [List.append_assoc, List.singleton_append, List.length_cons]
    rw [show p.length + 1 + r.length = p.length + (r.length + 1) by omega]
theorem scan_text (xs : List Int) (h : ∀ z ∈ xs, okT z) (h1 : 1 ≤ xs.length) (h8 : xs.length ≤ 8) : scan (39 :: xs ++ [39]) 0 = (le xs, ((xs.length : Int) + 2), 0, 0) := by
  have := txt_all 0 (39 :: xs ++ [39]).length xs [] (by simp) h (by simpa using h8) (by simpa using h1)
  unfold scan
  rw [if_neg (by omega), if_neg (by simp; omega)]
  rw [if_pos (by simp)]
  unfold scanT
  refine Eq.trans (show _ = txt 0 (39 :: xs ++ [39]).length ([] : List Int).length (le []) (xs ++ [39]) from rfl) (this.trans ?_)
  simp only [List.nil_append, List.length_nil, Nat.zero_add]
  rw [show ((0 : Nat) : Int) + 1 + (xs.length : Int) + 1 = (xs.length : Int) + 2 by omega]
theorem le_small (xs : List Int) (h : ∀ z ∈ xs, okT z) (h8 : xs.length ≤ 8) : 0 ≤ le xs ∧ le xs < 2 ^ (8 * xs.length) ∧ le xs < 9223372036854775808 := by
  have hb := le_bound xs (fun z hz => by have := h z hz; unfold okT at this; omega)
  refine ⟨hb.1, hb.2, ?_⟩
  rcases List.eq_nil_or_concat xs with rfl | ⟨p, c, rfl⟩
  · simp [le]
  · rw [List.concat_eq_append] at *
    rw [le_snoc]
    have hc := h c (by simp)
    unfold okT at hc
    simp only [List.length_append, List.length_singleton] at h8
    have hp := le_bound p (fun z hz => by have := h z (by simp [hz]); unfold okT at this; omega)
    exact (txt_shift (le p) c p.length hp.1 hp.2 (by omega) (by omega) hc.2.1).2.2.2.2
end Go.Proofs.YtibhpfddjlnbmaaDoor
