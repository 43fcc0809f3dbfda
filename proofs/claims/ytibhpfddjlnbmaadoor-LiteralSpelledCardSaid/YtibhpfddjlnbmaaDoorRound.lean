/-
  What is told of a number is read as it: plainly.
-/
import Derived.Test.YtibhpfddjlnbmaaDoorNumeral
namespace Go.Proofs.YtibhpfddjlnbmaaDoor
open Go.RowKit

theorem isW_dc {d : Nat} (h : d < 16) : isW (dc d) = true := by unfold dc isW; split <;> simp <;> omega
theorem dval_dc {d : Nat} (h : d < 16) : dval (dc d) = d := by unfold dc dval; split <;> (repeat' split) <;> omega
theorem dc_ne {d : Nat} (h : d < 16) : dc d ≠ 95 := by unfold dc; split <;> omega
/-- Digits from the highest on: of the number so far. -/
def horner (b : Nat) : Nat → List Nat → Nat
  | n, [] => n
  | n, d :: r => horner b (n * b + d) r
theorem horner_append (b : Nat) (l : List Nat) : ∀ (n : Nat) (r : List Nat), horner b n (l ++ r) = horner b (horner b n l) r := by
  induction l with
  | nil => intro n r; rfl
  | cons d t ih => intro n r; exact ih _ r
theorem horner_ge {b : Nat} (hb : 2 ≤ b) (l : List Nat) : ∀ n, n ≤ horner b n l := by
  induction l with
  | nil => intro n; exact Nat.le_refl _
  | cons d t ih => intro n; exact Nat.le_trans (by have := Nat.le_mul_of_pos_right n (show 0 < b by omega); omega) (ih (n * b + d))
/-- The digits of a number, as numbers. -/
def dgts (b u : Nat) : List Nat := if _h : 2 ≤ b ∧ b ≤ u then dgts b (u / b) ++ [u % b] else [u]
termination_by u
decreasing_by exact Nat.div_lt_self (by omega) (by omega)
theorem dgts_small {b u : Nat} (h : u < b) : dgts b u = [u] := by rw [dgts, dif_neg (by omega)]
theorem dgts_big {b u : Nat} (hb : 2 ≤ b) (h : b ≤ u) : dgts b u = dgts b (u / b) ++ [u % b] := by rw [dgts, dif_pos ⟨hb, h⟩]
theorem digs_dgts {b : Nat} (hb : 2 ≤ b) (u : Nat) : digs b u = (dgts b u).map dc := by
  induction u using Nat.strongRecOn with
  | _ u ih =>
    rcases Nat.lt_or_ge u b with h | h
    · rw [digs_small h, dgts_small h]; rfl
    · rw [digs_big hb h, dgts_big hb h, ih _ (Nat.div_lt_self (by omega) (by omega)), List.map_append]; rfl
theorem dgts_lt {b : Nat} (hb : 2 ≤ b) (u : Nat) : ∀ d ∈ dgts b u, d < b := by
  induction u using Nat.strongRecOn with
  | _ u ih =>
    intro d hd
    rcases Nat.lt_or_ge u b with h | h
    · rw [dgts_small h] at hd; simp at hd; omega
    · rw [dgts_big hb h, List.mem_append] at hd
      rcases hd with hd | hd
      · exact ih _ (Nat.div_lt_self (by omega) (by omega)) d hd
      · simp at hd; subst hd; exact Nat.mod_lt _ (by omega)
theorem horner_dgts {b : Nat} (hb : 2 ≤ b) (u : Nat) : horner b 0 (dgts b u) = u := by
  induction u using Nat.strongRecOn with
  | _ u ih =>
    rcases Nat.lt_or_ge u b with h | h
    · rw [dgts_small h]; simp [horner]
    · rw [dgts_big hb h, horner_append, ih _ (Nat.div_lt_self (by omega) (by omega))]
      simp only [horner]
      have := Nat.div_add_mod u b
      rw [Nat.mul_comm] at this
      omega
theorem dig_digits {b : Nat} (hb : 2 ≤ b) (hb16 : b ≤ 16) (l : List Nat) : ∀ (n : Nat) (p : Int) (k : Nat), (∀ d ∈ l, d < b) → horner b n l < 18446744073709551616 →
    dig b p n false k (l.map dc) = (((horner b n l : Nat) : Int), false, -1) := by
  induction l with
  | nil => intro n p k _ _; rfl
  | cons d t ih =>
    intro n p k hl hn
    have hd : d < b := hl d (by simp)
    have hv := dval_dc (d := d) (by omega)
    have hge := horner_ge hb t (n * b + d)
    have hlt : n * b + d < 18446744073709551616 := Nat.lt_of_le_of_lt hge hn
    rw [List.map_cons, dig, if_neg (fun h => dc_ne (by omega) h.1), if_neg (by omega), hv]
    have e1 : ((n : Int) * b + d) % 18446744073709551616 = ((n * b + d : Nat) : Int) := by
      rw [show ((n : Int) * b + d) = ((n * b + d : Nat) : Int) by simp]
      exact Int.emod_eq_of_lt (by omega) (by omega)
    have e2 : decide ((18446744073709551615 - (d : Int)) / b < n) = false := by
      rw [decide_eq_false_iff_not, Int.not_lt]
      refine Int.le_ediv_of_mul_le (by omega) ?_
      have : ((n : Int) * b) = ((n * b : Nat) : Int) := by simp
      omega
    rw [e1, e2, Bool.or_false]
    exact ih _ _ _ (fun x hx => hl x (by simp [hx])) hn
theorem horner_zero_dgts {b : Nat} (hb : 2 ≤ b) (hb16 : b ≤ 16) (u : Nat) (hu : u < 18446744073709551616) (p : Int) : dig b p 0 false 0 (digs b u) = ((u : Int), false, -1) := by
  rw [digs_dgts hb]
  have := dig_digits hb hb16 (dgts b u) 0 p 0 (dgts_lt hb u) (by rw [horner_dgts hb]; exact hu)
  rw [horner_dgts hb] at this
  exact this
theorem digs_isW {b : Nat} (hb : 2 ≤ b) (hb16 : b ≤ 16) (u : Nat) : ∀ c ∈ digs b u, isW c = true := by
  intro c hc
  rw [digs_dgts hb, List.mem_map] at hc
  obtain ⟨d, hd, rfl⟩ := hc
  exact isW_dc (by have := dgts_lt hb u d hd; omega)
/-- The words of Hex and Dec, without a sign. -/
def wordH (u : Nat) : List Int := 48 :: 120 :: digs 16 u
def wordD (u : Nat) : List Int := digs 10 u
theorem note_hex (u : Nat) : note (wordH u) = (16, 2, (wordH u).length) := by
  have hl : 0 < (digs 16 u).length := List.length_pos_iff.2 (digs_ne 16 u)
  unfold note wordH
  simp only [List.length_cons]
  rw [if_pos (by simp; omega)]
theorem digs10_mem (u : Nat) : ∀ c ∈ digs 10 u, 48 ≤ c ∧ c ≤ 57 := by
  intro c hc
  rw [digs_dgts (by omega), List.mem_map] at hc
  obtain ⟨d, hd, rfl⟩ := hc
  have := dgts_lt (b := 10) (by omega) u d hd
  unfold dc; rw [if_pos this]; omega
theorem getD_mem {l : List Int} {P : Int → Prop} (h : ∀ c ∈ l, P c) (h0 : P 0) (i : Nat) : P (l[i]?.getD 0) := by
  rcases Nat.lt_or_ge i l.length with hi | hi
  · rw [List.getElem?_eq_getElem hi]; exact h _ (List.getElem_mem hi)
  · rw [List.getElem?_eq_none hi]; exact h0
theorem note_dec (u : Nat) : note (wordD u) = (10, 0, (wordD u).length) := by
  have h1 := getD_mem (P := fun c => c ≤ 57) (fun c hc => (digs10_mem u c hc).2) (by omega) 1
  have h2 := getD_mem (P := fun c => c ≤ 57) (fun c hc => (digs10_mem u c hc).2) (by omega) ((digs 10 u).length - 1)
  unfold note wordD
  simp only []
  generalize (digs 10 u)[1]?.getD 0 = c1 at h1 ⊢
  generalize (digs 10 u)[(digs 10 u).length - 1]?.getD 0 = l at h2 ⊢
  have a1 : (c1 == 120) = false := by simp; omega
  have a2 : (c1 == 88) = false := by simp; omega
  have a3 : (c1 == 98) = false := by simp; omega
  have a4 : (c1 == 66) = false := by simp; omega
  have a5 : (c1 == 111) = false := by simp; omega
  have a6 : (c1 == 79) = false := by simp; omega
  have a7 : (l == 104) = false := by simp; omega
  have a8 : (l == 72) = false := by simp; omega
  simp [a1, a2, a3, a4, a5, a6, a7, a8]
/-- A word with what is no word character behind it. -/
theorem scanW_word (xs w : List Int) (z : Int) (hw : ∀ c ∈ w, isW c = true) (hz : isW z = false) (b : Int) (f : Nat) (hn : note w = (b, f, w.length)) (v : Int) (hd : dig b 95 0 false 0 (w.drop f) = (v, false, -1)) :
    scanW (xs ++ w ++ [z]) xs.length = (wrap64 v, ((xs.length + w.length : Nat) : Int), 0, 0) := by
  have hr : run ((xs ++ w ++ [z]).drop xs.length) = w.length := by
    rw [List.append_assoc, List.drop_left]
    exact run_all w [z] hw (by simp [run, hz])
  have ht : ((xs ++ w ++ [z]).take (xs.length + w.length)).drop xs.length = w := by
    rw [← List.length_append, List.take_left, List.drop_left]
  unfold scanW
  simp only [hr, ht, hn]
  rw [List.take_length, hd]
  simp
theorem scan_word (xs w : List Int) (z : Int) (c : Int) (r : List Int) (hwc : w = c :: r) (hc : dval c < 10) (hw : ∀ c ∈ w, isW c = true) (hz : isW z = false) (b : Int) (f : Nat) (hn : note w = (b, f, w.length)) (v : Int) (hd : dig b 95 0 false 0 (w.drop f) = (v, false, -1)) :
    scan (xs ++ w ++ [z]) xs.length = (wrap64 v, ((xs.length + w.length : Nat) : Int), 0, 0) := by
  have hl : (xs ++ w ++ [z]).length = xs.length + w.length + 1 := by simp; omega
  have hg : (xs ++ w ++ [z])[xs.length]?.getD 0 = c := by subst hwc; simp
  have h39 : c ≠ 39 := by rintro rfl; revert hc; decide
  unfold scan
  rw [if_neg (by omega), if_neg (by rw [hl]; omega), Int.toNat_natCast, hg, if_neg h39, if_pos hc]
  exact scanW_word xs w z hw hz b f hn v hd
theorem scan_hex (xs : List Int) (u : Nat) (z : Int) (hz : isW z = false) (hu : u < 18446744073709551616) :
    scan (xs ++ wordH u ++ [z]) xs.length = (wrap64 u, ((xs.length + (wordH u).length : Nat) : Int), 0, 0) := by
  refine scan_word xs (wordH u) z 48 (120 :: digs 16 u) rfl (by decide) ?_ hz 16 2 (note_hex u) u (horner_zero_dgts (b := 16) (by omega) (by omega) u hu 95)
  intro c hc
  simp only [wordH, List.mem_cons] at hc
  rcases hc with rfl | rfl | hc
  · decide
  · decide
  · exact digs_isW (by omega) (by omega) u c hc
theorem scan_dec (xs : List Int) (u : Nat) (z : Int) (hz : isW z = false) (hu : u < 18446744073709551616) :
    scan (xs ++ wordD u ++ [z]) xs.length = (wrap64 u, ((xs.length + (wordD u).length : Nat) : Int), 0, 0) := by
  cases hw : wordD u with
  | nil => exact absurd hw (digs_ne 10 u)
  | cons c r =>
    rw [← hw]
    have hc := digs10_mem u c (by unfold wordD at hw; rw [hw]; simp)
    refine scan_word xs (wordD u) z c r hw ?_ (digs_isW (by omega) (by omega) u) hz 10 0 (note_dec u) u (horner_zero_dgts (b := 10) (by omega) (by omega) u hu 95)
    unfold dval; rw [if_pos hc]; omega
end Go.Proofs.YtibhpfddjlnbmaaDoor
