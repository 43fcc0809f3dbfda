/-
  Words in capitals, and without their _: plainly.
-/
import Derived.Test.YtibhpfddjlnbmaaDoorRefScan
import Derived.Test.YtibhpfddjlnbmaaDoorRound
namespace Go.Proofs.YtibhpfddjlnbmaaDoor
open Go.RowKit

def cap (c : Int) : Int := if 97 ≤ c ∧ c ≤ 122 then c - 32 else c
def nou (l : List Int) : List Int := l.filter (fun c => !(c == 95))
theorem isW_cap (c : Int) : isW (cap c) = isW c := by
  rw [Bool.eq_iff_iff, isW_iff, isW_iff]; unfold cap; split <;> omega
theorem dval_cap (c : Int) : dval (cap c) = dval c := by unfold dval cap; (repeat' split) <;> omega
theorem cap_95 (c : Int) : cap c = 95 ↔ c = 95 := by unfold cap; split <;> omega
theorem dig_cap (b : Int) (l : List Int) : ∀ (p n : Int) (ab : Bool) (k : Nat), dig b (cap p) n ab k (l.map cap) = dig b p n ab k l := by
  induction l with
  | nil => intro p n ab k; rfl
  | cons c r ih =>
    intro p n ab k
    rw [List.map_cons, dig, dig, dval_cap, ih, ih]
    simp only [cap_95, Ne, List.map_eq_nil_iff]
theorem cap_eq {c d D : Int} (hd : cap d = D) (hl : 97 ≤ d ∧ d ≤ 122) : (cap c == d || cap c == D) = (c == d || c == D) := by
  unfold cap at *
  rw [if_pos hl] at hd
  rw [Bool.eq_iff_iff]
  simp only [Bool.or_eq_true, beq_iff_eq]
  split <;> omega
theorem cap_48 (c : Int) : (cap c == 48) = (c == 48) := by
  rw [Bool.eq_iff_iff]; simp only [beq_iff_eq]; unfold cap; split <;> omega
theorem cap_getD (l : List Int) (i : Nat) : (l.map cap)[i]?.getD 0 = cap (l[i]?.getD 0) := by
  rw [List.getElem?_map]
  cases l[i]? <;> rfl
theorem note_cap (w : List Int) : note (w.map cap) = note w := by
  unfold note
  simp only [List.length_map, cap_getD, cap_48, cap_eq (d := 120) (D := 88) rfl (by omega), cap_eq (d := 104) (D := 72) rfl (by omega), cap_eq (d := 98) (D := 66) rfl (by omega), cap_eq (d := 111) (D := 79) rfl (by omega)]
/-- A list that is one word. -/
theorem scan_one (w : List Int) (c : Int) (r : List Int) (hwc : w = c :: r) (hc : dval c < 10) (hw : ∀ c ∈ w, isW c = true) (b : Int) (f t : Nat) (hn : note w = (b, f, t)) (n : Int) (hd : dig b 95 0 false 0 ((w.take t).drop f) = (n, false, -1)) :
    scan w 0 = (wrap64 n, (w.length : Int), 0, 0) := by
  have h39 : c ≠ 39 := by rintro rfl; revert hc; decide
  have hr : run w = w.length := by have := run_all w [] hw rfl; simpa using this
  unfold scan
  rw [if_neg (by omega), if_neg (by rw [hwc]; simp)]
  rw [show w[(0 : Int).toNat]?.getD 0 = c by rw [hwc]; rfl, if_neg h39, if_pos hc]
  unfold scanW
  simp only [List.drop_zero, Int.toNat_zero, hr, Nat.zero_add, List.take_length, hn, hd]
  simp
theorem scan_caps {w : List Int} {c : Int} {r : List Int} (hwc : w = c :: r) (hc : dval c < 10) (hw : ∀ c ∈ w, isW c = true) {b : Int} {f t : Nat} (hn : note w = (b, f, t)) {n : Int} (hd : dig b 95 0 false 0 ((w.take t).drop f) = (n, false, -1)) :
    scan (w.map cap) 0 = (wrap64 n, (w.length : Int), 0, 0) := by
  have := scan_one (w.map cap) (cap c) (r.map cap) (by rw [hwc]; rfl) (by rw [dval_cap]; exact hc) (fun z hz => by
    obtain ⟨y, hy, rfl⟩ := List.mem_map.1 hz
    rw [isW_cap]; exact hw y hy) b f t (by rw [note_cap]; exact hn) n (by
    rw [← List.map_take, ← List.map_drop]
    have := dig_cap b ((w.take t).drop f) 95 0 false 0
    rw [show cap 95 = 95 from rfl] at this
    rw [this]; exact hd)
  rw [List.length_map] at this
  exact this

/-! ### without _ -/
theorem dig_ok {b : Int} (hb : b ≤ 16) (l : List Int) : ∀ (p n : Int) (ab : Bool) (k : Nat) (v : Int) (ab' : Bool), dig b p n ab k l = (v, ab', -1) →
    (∀ c ∈ l, c = 95 ∨ dval c < b) ∧ ∀ (p' : Int) (k' : Nat), dig b p' n ab k' (nou l) = (v, ab', -1) := by
  induction l with
  | nil => intro p n ab k v ab' h; exact ⟨by simp, fun p' k' => h⟩
  | cons c r ih =>
    intro p n ab k v ab' h
    rw [dig] at h
    split at h
    · next hu =>
      obtain ⟨i1, i2⟩ := ih _ _ _ _ _ _ h
      refine ⟨fun z hz => ?_, fun p' k' => ?_⟩
      · rcases List.mem_cons.1 hz with rfl | hz
        · exact .inl hu.1
        · exact i1 z hz
      · rw [show nou (c :: r) = nou r by unfold nou; rw [List.filter_cons_of_neg (by simp [hu.1])]]
        exact i2 p' k'
    · split at h
      · simp at h
      · next hu hv =>
        obtain ⟨i1, i2⟩ := ih _ _ _ _ _ _ h
        have hc : c ≠ 95 := by rintro rfl; rw [dval_95] at hv; omega
        refine ⟨fun z hz => ?_, fun p' k' => ?_⟩
        · rcases List.mem_cons.1 hz with rfl | hz
          · exact .inr (by omega)
          · exact i1 z hz
        · rw [show nou (c :: r) = c :: nou r by unfold nou; rw [List.filter_cons_of_pos (by simp [hc])]]
          rw [dig, if_neg (fun h => hc h.1), if_neg hv]
          exact i2 _ _
/-- The first of digits is no _. -/
theorem dig_first {b : Int} (hb : b ≤ 16) {c : Int} {r : List Int} {n : Int} {ab : Bool} {v : Int} {ab' : Bool} (h : dig b 95 n ab 0 (c :: r) = (v, ab', -1)) : c ≠ 95 := by
  rintro rfl
  rw [dig, if_neg (by simp), if_pos (by rw [dval_95]; exact hb)] at h
  simp at h
theorem nou_append (l r : List Int) : nou (l ++ r) = nou l ++ nou r := by simp [nou]
theorem nou_mem {l : List Int} {c : Int} (h : c ∈ nou l) : c ∈ l ∧ c ≠ 95 := by simpa [nou] using h
theorem nou_cons {c : Int} {r : List Int} (h : c ≠ 95) : nou (c :: r) = c :: nou r := by unfold nou; rw [List.filter_cons_of_pos (by simp [h])]
theorem last_mem {l : List Int} (h : l ≠ []) : l[l.length - 1]?.getD 0 ∈ l := by
  have : l.length - 1 < l.length := by have := List.length_pos_iff.2 h; omega
  rw [List.getElem?_eq_getElem this]
  exact List.getElem_mem this
theorem dval_120 : dval 120 = 16 := by decide
theorem dval_88 : dval 88 = 16 := by decide
theorem dval_104 : dval 104 = 16 := by decide
theorem dval_72 : dval 72 = 16 := by decide
theorem dval_98 : dval 98 = 11 := by decide
theorem dval_66 : dval 66 = 11 := by decide
theorem dval_111 : dval 111 = 16 := by decide
theorem dval_79 : dval 79 = 16 := by decide
/-- What note says, by what it looks at. -/
theorem note_x {l : List Int} (h2 : 2 < l.length) (h0 : l[0]?.getD 0 = 48) (h1 : l[1]?.getD 0 = 120 ∨ l[1]?.getD 0 = 88) : note l = (16, 2, l.length) := by
  unfold note
  simp only [h2, h0, decide_true, Bool.true_and, beq_self_eq_true]
  rw [if_pos (by rcases h1 with h | h <;> rw [h] <;> rfl)]
theorem note_h {l : List Int} (hx : ¬(l[1]?.getD 0 = 120 ∨ l[1]?.getD 0 = 88) ∨ l.length ≤ 2) (hl : l[l.length - 1]?.getD 0 = 104 ∨ l[l.length - 1]?.getD 0 = 72) : note l = (16, 0, l.length - 1) := by
  unfold note
  simp only []
  rw [if_neg, if_pos (by rcases hl with h | h <;> rw [h] <;> rfl)]
  simp only [Bool.and_eq_true, Bool.or_eq_true, beq_iff_eq, decide_eq_true_iff]
  rintro ⟨⟨h2, _⟩, h1⟩
  rcases hx with hx | hx
  · exact hx h1
  · omega
theorem note_rest {l : List Int} (hx : ¬(l[1]?.getD 0 = 120 ∨ l[1]?.getD 0 = 88)) (hl : ¬(l[l.length - 1]?.getD 0 = 104 ∨ l[l.length - 1]?.getD 0 = 72)) :
    note l = if 2 < l.length ∧ l[0]?.getD 0 = 48 ∧ (l[1]?.getD 0 = 98 ∨ l[1]?.getD 0 = 66) then (2, 2, l.length) else if 2 < l.length ∧ l[0]?.getD 0 = 48 ∧ (l[1]?.getD 0 = 111 ∨ l[1]?.getD 0 = 79) then (8, 2, l.length) else (10, 0, l.length) := by
  unfold note
  simp only []
  rw [if_neg, if_neg]
  · simp only [Bool.and_eq_true, Bool.or_eq_true, beq_iff_eq, decide_eq_true_iff, and_assoc]
  · simp only [Bool.or_eq_true, beq_iff_eq]; exact hl
  · simp only [Bool.and_eq_true, Bool.or_eq_true, beq_iff_eq, decide_eq_true_iff]
    rintro ⟨_, h1⟩
    exact hx h1
/-- Digits that are valid, without their _. -/
theorem nou_digits {b : Int} (hb : b ≤ 16) {D : List Int} (hD : D ≠ []) {n : Int} (hd : dig b 95 0 false 0 D = (n, false, -1)) :
    (∀ c ∈ nou D, dval c < b) ∧ nou D ≠ [] ∧ dig b 95 0 false 0 (nou D) = (n, false, -1) := by
  obtain ⟨h1, h2⟩ := dig_ok hb D _ _ _ _ _ _ hd
  refine ⟨fun c hc => ?_, ?_, h2 95 0⟩
  · obtain ⟨m, hne⟩ := nou_mem hc
    rcases h1 c m with h | h
    · exact absurd h hne
    · exact h
  · cases D with
    | nil => exact absurd rfl hD
    | cons c r =>
      rw [nou_cons (dig_first hb hd)]
      simp
theorem three_of {W : List Int} (h : 2 < W.length) : ∃ a b D, W = a :: b :: D ∧ D ≠ [] := by
  rcases W with _ | ⟨a, _ | ⟨b, _ | ⟨d, r⟩⟩⟩
  · simp at h
  · simp at h
  · simp at h
  · exact ⟨a, b, d :: r, rfl, by simp⟩
theorem nou_len2 {D : List Int} (h : nou D ≠ []) (a b : Int) : 2 < (a :: b :: nou D).length := by
  have := List.length_pos_iff.2 h
  simp; omega
theorem last_two {D : List Int} (h : D ≠ []) (a b : Int) : (a :: b :: D)[(a :: b :: D).length - 1]?.getD 0 ∈ D := by
  have hl := List.length_pos_iff.2 h
  have := last_mem h
  rw [show (a :: b :: D).length - 1 = (D.length - 1) + 1 + 1 by simp; omega]
  simpa using this
theorem note_nou {W : List Int} {b : Int} {f t : Nat} (hn : note W = (b, f, t)) (hft : f < t) {c : Int} {r : List Int} (hwc : W = c :: r) {n : Int} (hd : dig b 95 0 false 0 ((W.take t).drop f) = (n, false, -1)) :
    ∃ t', note (nou W) = (b, f, t') ∧ dig b 95 0 false 0 (((nou W).take t').drop f) = (n, false, -1) := by
  by_cases hx : 2 < W.length ∧ W[0]?.getD 0 = 48 ∧ (W[1]?.getD 0 = 120 ∨ W[1]?.getD 0 = 88)
  · have h := note_x hx.1 hx.2.1 hx.2.2
    rw [hn] at h
    simp only [Prod.mk.injEq] at h
    obtain ⟨rfl, rfl, rfl⟩ := h
    obtain ⟨a, d, D, rfl, hD⟩ := three_of hx.1
    simp only [List.take_length, List.drop_succ_cons, List.drop_zero] at hd
    obtain ⟨_, d2, d3⟩ := nou_digits (by omega) hD hd
    have ha : a = 48 := hx.2.1
    have hd' : d = 120 ∨ d = 88 := hx.2.2
    have e : nou (a :: d :: D) = a :: d :: nou D := by rw [nou_cons (by omega), nou_cons (by omega)]
    rw [e]
    exact ⟨_, note_x (nou_len2 d2 a d) ha hd', by simpa using d3⟩
  · by_cases hh : W[W.length - 1]?.getD 0 = 104 ∨ W[W.length - 1]?.getD 0 = 72
    · have h : note W = (16, 0, W.length - 1) := by
        unfold note
        simp only []
        rw [if_neg, if_pos (by rcases hh with h | h <;> rw [h] <;> rfl)]
        simp only [Bool.and_eq_true, Bool.or_eq_true, beq_iff_eq, decide_eq_true_iff, and_assoc]
        exact hx
      rw [hn] at h
      simp only [Prod.mk.injEq] at h
      obtain ⟨rfl, rfl, rfl⟩ := h
      have hne : W ≠ [] := by rw [hwc]; simp
      have hsplit : W = W.take (W.length - 1) ++ [W[W.length - 1]?.getD 0] := by
        have hl : W.length - 1 < W.length := by omega
        rw [List.getElem?_eq_getElem hl]
        simp only [Option.getD_some]
        rw [← List.take_succ_eq_append_getElem hl, List.take_of_length_le (by omega)]
      obtain ⟨D, hD⟩ : ∃ D, W.take (W.length - 1) = D := ⟨_, rfl⟩
      obtain ⟨l, hl⟩ : ∃ l, W[W.length - 1]?.getD 0 = l := ⟨_, rfl⟩
      rw [hD, hl] at hsplit
      rw [hl] at hh
      rw [hD, List.drop_zero] at hd
      have hDn : D ≠ [] := by
        intro h0
        have := congrArg List.length hsplit
        rw [h0] at this
        simp at this
        omega
      obtain ⟨d1, d2, d3⟩ := nou_digits (by omega) hDn hd
      have e : nou W = nou D ++ [l] := by rw [hsplit, nou_append]; congr 1; exact nou_cons (by omega)
      have hlen : (nou D ++ [l]).length - 1 = (nou D).length := by simp
      rw [e]
      refine ⟨(nou D ++ [l]).length - 1, note_h ?_ ?_, ?_⟩
      · rcases Nat.lt_or_ge 1 (nou D).length with h1 | h1
        · left
          have : (nou D ++ [l])[1]?.getD 0 = (nou D)[1] := by rw [List.getElem?_append_left h1, List.getElem?_eq_getElem h1]; rfl
          rw [this]
          have hv := d1 _ (List.getElem_mem h1)
          rintro (h | h) <;> rw [h] at hv
          · rw [dval_120] at hv; omega
          · rw [dval_88] at hv; omega
        · right; simp; omega
      · rw [hlen, List.getElem?_append_right (by omega)]; simpa using hh
      · rw [hlen, List.take_left, List.drop_zero]; exact d3
    · have hl0 : W.length ≤ 2 ∨ W[0]?.getD 0 ≠ 48 ∨ ¬(W[1]?.getD 0 = 120 ∨ W[1]?.getD 0 = 88) := by
        rcases Nat.lt_or_ge 2 W.length with h | h
        · by_cases h48 : W[0]?.getD 0 = 48
          · exact .inr (.inr fun h1 => hx ⟨h, h48, h1⟩)
          · exact .inr (.inl h48)
        · exact .inl h
      by_cases hb2 : 2 < W.length ∧ W[0]?.getD 0 = 48 ∧ (W[1]?.getD 0 = 98 ∨ W[1]?.getD 0 = 66 ∨ W[1]?.getD 0 = 111 ∨ W[1]?.getD 0 = 79)
      · obtain ⟨a, d, D, rfl, hD⟩ := three_of hb2.1
        have ha : a = 48 := hb2.2.1
        have hdd : d = 98 ∨ d = 66 ∨ d = 111 ∨ d = 79 := hb2.2.2
        have hnx : ¬(d = 120 ∨ d = 88) := by omega
        have h := note_rest (l := a :: d :: D) hnx hh
        rw [hn] at h
        have key : ∃ bb, (b, f, t) = (bb, 2, (a :: d :: D).length) ∧ bb ≤ 8 ∧ ∀ D' : List Int, D' ≠ [] → (∀ c ∈ D', dval c < bb) → note (a :: d :: D') = (bb, 2, (a :: d :: D').length) := by
          have hlast : ∀ (bb : Int) (D' : List Int), bb ≤ 16 → D' ≠ [] → (∀ c ∈ D', dval c < bb) → ¬((a :: d :: D')[(a :: d :: D').length - 1]?.getD 0 = 104 ∨ (a :: d :: D')[(a :: d :: D').length - 1]?.getD 0 = 72) := by
            intro bb D' hbb h1 h2 h3
            have hv := h2 _ (last_two h1 a d)
            rcases h3 with h | h <;> rw [h] at hv
            · rw [dval_104] at hv; omega
            · rw [dval_72] at hv; omega
          have hlen : ∀ D' : List Int, D' ≠ [] → 2 < (a :: d :: D').length := fun D' h => by have := List.length_pos_iff.2 h; simp; omega
          by_cases hb : d = 98 ∨ d = 66
          · rw [if_pos ⟨hb2.1, ha, hb⟩] at h
            exact ⟨2, h, by omega, fun D' h1 h2 => by rw [note_rest (l := a :: d :: D') hnx (hlast 2 D' (by omega) h1 h2), if_pos ⟨hlen D' h1, ha, hb⟩]⟩
          · rw [if_neg (fun h => hb h.2.2), if_pos ⟨hb2.1, ha, by show d = 111 ∨ d = 79; omega⟩] at h
            exact ⟨8, h, by omega, fun D' h1 h2 => by rw [note_rest (l := a :: d :: D') hnx (hlast 8 D' (by omega) h1 h2), if_neg (fun h => hb h.2.2), if_pos ⟨hlen D' h1, ha, by show d = 111 ∨ d = 79; omega⟩]⟩
        obtain ⟨bb, hbb, hb8, hnote⟩ := key
        simp only [Prod.mk.injEq] at hbb
        obtain ⟨rfl, rfl, rfl⟩ := hbb
        simp only [List.take_length, List.drop_succ_cons, List.drop_zero] at hd
        obtain ⟨d1, d2, d3⟩ := nou_digits (by omega) hD hd
        have e : nou (a :: d :: D) = a :: d :: nou D := by rw [nou_cons (by omega), nou_cons (by omega)]
        rw [e]
        exact ⟨_, hnote _ d2 d1, by simpa using d3⟩
      · have h : note W = (10, 0, W.length) := by
          unfold note
          simp only []
          rw [if_neg, if_neg, if_neg, if_neg]
          · simp only [Bool.and_eq_true, Bool.or_eq_true, beq_iff_eq, decide_eq_true_iff]; intro h; exact hb2 ⟨h.1.1, h.1.2, by omega⟩
          · simp only [Bool.and_eq_true, Bool.or_eq_true, beq_iff_eq, decide_eq_true_iff]; intro h; exact hb2 ⟨h.1.1, h.1.2, by omega⟩
          · simp only [Bool.or_eq_true, beq_iff_eq]; exact hh
          · simp only [Bool.and_eq_true, Bool.or_eq_true, beq_iff_eq, decide_eq_true_iff, and_assoc]; exact hx
        rw [hn] at h
        simp only [Prod.mk.injEq] at h
        obtain ⟨rfl, rfl, rfl⟩ := h
        rw [List.take_length, List.drop_zero] at hd
        obtain ⟨d1, d2, d3⟩ := nou_digits (by omega) (by rw [hwc]; simp) hd
        have P : ∀ i : Nat, dval ((nou W)[i]?.getD 0) < 10 ∨ (nou W)[i]?.getD (0 : Int) = 0 := fun i => getD_mem (P := fun c : Int => dval c < 10 ∨ c = 0) (fun c hc => Or.inl (d1 c hc)) (Or.inr rfl) i
        have Q : ∀ (i : Nat) (x : Int), 10 ≤ dval x → x ≠ 0 → (nou W)[i]?.getD 0 ≠ x := fun i x hx h0 he => by
          rcases P i with h | h
          · rw [he] at h; omega
          · rw [he] at h; exact h0 h
        refine ⟨(nou W).length, ?_, by rw [List.take_length, List.drop_zero]; exact d3⟩
        have q120 := fun i => Q i 120 (by rw [dval_120]; omega) (by omega)
        have q88 := fun i => Q i 88 (by rw [dval_88]; omega) (by omega)
        have q104 := fun i => Q i 104 (by rw [dval_104]; omega) (by omega)
        have q72 := fun i => Q i 72 (by rw [dval_72]; omega) (by omega)
        have q98 := fun i => Q i 98 (by rw [dval_98]; omega) (by omega)
        have q66 := fun i => Q i 66 (by rw [dval_66]; omega) (by omega)
        have q111 := fun i => Q i 111 (by rw [dval_111]; omega) (by omega)
        have q79 := fun i => Q i 79 (by rw [dval_79]; omega) (by omega)
        rw [note_rest (fun h => by rcases h with h | h; exact q120 _ h; exact q88 _ h) (fun h => by rcases h with h | h; exact q104 _ h; exact q72 _ h), if_neg (fun h => by rcases h.2.2 with h | h; exact q98 _ h; exact q66 _ h), if_neg (fun h => by rcases h.2.2 with h | h; exact q111 _ h; exact q79 _ h)]
theorem scan_nou {W : List Int} {c : Int} {r : List Int} (hwc : W = c :: r) (hc : dval c < 10) (hw : ∀ c ∈ W, isW c = true) {b : Int} {f t : Nat} (hn : note W = (b, f, t)) (hft : f < t) {n : Int} (hd : dig b 95 0 false 0 ((W.take t).drop f) = (n, false, -1)) :
    scan (nou W) 0 = (wrap64 n, ((nou W).length : Int), 0, 0) := by
  have hc95 : c ≠ 95 := by rintro rfl; rw [dval_95] at hc; omega
  obtain ⟨t', h1, h2⟩ := note_nou hn hft hwc hd
  exact scan_one (nou W) c (nou r) (by rw [hwc]; exact nou_cons hc95) hc (fun z hz => hw z (nou_mem hz).1) b f t' h1 n h2
/-- What the walk needs: of a text that is read as a number from its first byte on. -/
theorem scan_good {s : ByteArray} (h0 : 0 < s.size) (hd : dval (ch s 0) < 10) :
    (∃ er p, scan (nums s) 0 = (0, 0, er, p) ∧ er ≠ 0 ∧ 0 ≤ p ∧ p ≤ s.size) ∨
    (∃ (E : Nat) (n : Int), scan (nums s) 0 = (n, (E : Int), 0, 0) ∧ 1 ≤ E ∧ E ≤ s.size ∧ scan (((nums s).take E).map cap) 0 = (n, (E : Int), 0, 0) ∧ scan (nou ((nums s).take E)) 0 = (n, ((nou ((nums s).take E)).length : Int), 0, 0)) := by
  obtain ⟨E, f, t, b, n, wr, ab, hE, h1, h2, h3, h4, h5, h6, h7, h8, h9, h10, h11⟩ := word_at s 0 h0 hd
  have e0 : scan (nums s) 0 = scanW (nums s) 0 := by
    have := scan_in s 0 h0
    have h39 : ch s 0 ≠ 39 := fun h => by rw [h] at hd; revert hd; decide
    rw [if_neg h39, if_pos hd] at this
    exact this
  by_cases hw : 0 ≤ wr
  · left
    refine ⟨4, ((0 : Nat) : Int) + f + wr, by rw [e0, h11, if_pos hw], by omega, by omega, by omega⟩
  · cases ab
    · right
      have hwr : wr = -1 := by omega
      subst hwr
      rw [if_neg hw] at h11
      have hW : nums (s.extract 0 E) = (nums s).take E := by rw [nums_extract, List.drop_zero]
      have hft : f < t := by
        have := note_lt (s.extract 0 E) (by rw [size_extract _ _ _ h2]; omega) (by rw [ch_extract s 0 E 0 (by omega)]; exact hd)
        rw [h4] at this
        exact this
      rw [hW] at h4
      have hcons : (nums s).take E = ch s 0 :: ((nums s).drop 1).take (E - 1) := by
        have := drop_ch s 0 h0
        rw [List.drop_zero] at this
        obtain ⟨e, rfl⟩ : ∃ e, E = e + 1 := ⟨E - 1, by omega⟩
        rw [this]; simp
      have hall : ∀ c ∈ (nums s).take E, isW c = true := by
        have hE' : run (nums s) = E := by simpa using hE
        intro c hc
        rw [← hE'] at hc
        exact run_take _ c hc
      have hdig : dig b 95 0 false 0 ((((nums s).take E).take t).drop f) = (n, false, -1) := by
        rw [nums_extract] at h9
        rw [List.take_take, Nat.min_eq_left (by omega)]
        simpa using h9
      have hlen : ((nums s).take E).length = E := by rw [List.length_take, nums_length]; omega
      refine ⟨E, wrap64 n, by rw [e0, h11]; rfl, by omega, h2, ?_, ?_⟩
      · have := scan_caps hcons hd hall h4 hdig
        rw [hlen] at this
        exact this
      · exact scan_nou hcons hd hall h4 hft hdig
    · left
      rw [if_neg hw] at h11
      exact ⟨5, 0, by rw [e0, h11]; rfl, by omega, by omega, by omega⟩
end Go.Proofs.YtibhpfddjlnbmaaDoor
