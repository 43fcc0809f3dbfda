/-
  Plain facts on the names of mnemonics: their letters, that each is read as its own number, what a text that is read is.
-/
import Derived.Test.YtinbgkflbphknaaDoorOpConds
import Derived.Test.YtinbgkflbphknaaDoorOpEnds
namespace Go.Proofs.YtinbgkflbphknaaDoor
open Go.RowKit

/-- Small letters and digits alone, from a letter on. -/
def goodL (l : List Int) : Bool := match l with
  | [] => true
  | c :: r => (decide (97 ≤ c) && decide (c ≤ 122)) && r.all fun d => (decide (97 ≤ d) && decide (d ≤ 122)) || (decide (48 ≤ d) && decide (d ≤ 57))
theorem nm_good : ∀ b ∈ NM, goodL (nums b) = true := by decide +kernel
theorem nm_full : ∀ b ∈ NM, (nums b == []) = false := by decide +kernel
theorem nm_main : ((List.range 322).all fun k => mainF (NM[k]?.getD ⟨#[]⟩) == some k) = true := by decide +kernel
theorem txt_eq {a b : ByteArray} : (a.toList == b.toList) = true ↔ a = b := by
  rw [beq_iff_eq, ByteArray.toList_eq, ByteArray.toList_eq]
  refine ⟨fun h => ?_, fun h => by rw [h]⟩
  apply nums_inj
  rw [nums, nums, h]
theorem txt_ne {a b : ByteArray} (h : a ≠ b) : (a.toList == b.toList) = false := by
  cases hx : a.toList == b.toList
  · rfl
  · exact absurd (txt_eq.1 hx) h
theorem nm_at {n : Int} (h : okF n = true) : ∃ (k : Nat) (b : ByteArray), k < 322 ∧ n = (k : Int) + 1 ∧ NM[k]? = some b ∧ nmF n = b := by
  have h' : 1 ≤ n ∧ n ≤ 322 := okF_yes h
  have hk : (n - 1).toNat < 322 := by omega
  have hb : NM[(n - 1).toNat]? = some (NM[(n - 1).toNat]'(by rw [NM_length]; exact hk)) := List.getElem?_eq_getElem (by rw [NM_length]; exact hk)
  refine ⟨(n - 1).toNat, _, hk, by omega, hb, ?_⟩
  rw [nmF, if_pos h', hb]; rfl
theorem nm_out {n : Int} (h : okF n = false) : nmF n = ⟨#[]⟩ := by
  have := okF_no h
  rw [nmF, if_neg (by omega)]
theorem name_good (n : Int) : goodL (nums (nmF n)) = true := by
  cases h : okF n
  · rw [nm_out h]; rfl
  · obtain ⟨k, b, _, _, hb, he⟩ := nm_at h
    rw [he]; exact nm_good b (List.mem_of_getElem? hb)
theorem name_full {n : Int} (h : okF n = true) : nmF n ≠ ⟨#[]⟩ := by
  obtain ⟨k, b, _, _, hb, he⟩ := nm_at h
  rw [he]
  rintro rfl
  have := nm_full _ (List.mem_of_getElem? hb)
  revert this
  decide
theorem name_reads {n : Int} (h : okF n = true) : opF (nmF n) = some n := by
  obtain ⟨k, b, hk, rfl, hb, he⟩ := nm_at h
  have hm := List.all_eq_true.1 nm_main k (List.mem_range.2 hk)
  rw [hb] at hm
  have hm' : mainF b = some k := by simpa using hm
  rw [he, opF, hm']
theorem name_apart {n m : Int} (h : okF n = true) (hne : n ≠ m) : nmF m ≠ nmF n := by
  intro he
  cases hm : okF m
  · rw [nm_out hm] at he
    exact name_full h he.symm
  · have h1 := name_reads h
    have h2 := name_reads hm
    rw [he, h1] at h2
    exact hne (Option.some.inj h2)
theorem good_at {t : ByteArray} (h : goodL (nums t) = true) (i : Nat) (hi : i < t.size) : (97 ≤ ch t i ∧ ch t i ≤ 122) ∨ (1 ≤ i ∧ 48 ≤ ch t i ∧ ch t i ≤ 57) := by
  rw [ch]
  have hl := nums_length t
  cases hx : nums t with
  | nil => rw [hx] at hl; simp at hl; omega
  | cons c r =>
    rw [hx] at h hl
    simp only [goodL, Bool.and_eq_true, decide_eq_true_eq, List.all_eq_true, Bool.or_eq_true] at h
    cases i with
    | zero => exact .inl h.1
    | succ i =>
      simp only [List.getElem?_cons_succ]
      have hi' : i < r.length := by simp at hl; omega
      rw [List.getElem?_eq_getElem hi']
      rcases h.2 _ (List.getElem_mem hi') with h' | h'
      · exact .inl h'
      · exact .inr ⟨by omega, h'⟩
theorem find_is {s : ByteArray} : ∀ {l : List ByteArray} {j k : Nat}, findF s l j = some k → ∃ i b, k = j + i ∧ l[i]? = some b ∧ b = s := by
  intro l
  induction l with
  | nil => intro j k h; simp [findF] at h
  | cons a l ih =>
    intro j k h
    rw [findF] at h
    cases hx : a.toList == s.toList
    · rw [hx] at h
      obtain ⟨i, b, h1, h2, h3⟩ := ih h
      exact ⟨i + 1, b, by omega, by simpa using h2, h3⟩
    · rw [hx] at h
      simp at h
      exact ⟨0, a, by omega, rfl, txt_eq.1 hx⟩
theorem has_is {s : ByteArray} : ∀ {l : List ByteArray}, hasF s l = true → s ∈ l := by
  intro l
  induction l with
  | nil => intro h; simp [hasF] at h
  | cons a l ih =>
    intro h
    rw [hasF] at h
    cases hx : s.toList == a.toList
    · rw [hx] at h; exact List.mem_cons_of_mem _ (ih (by simpa using h))
    · rw [txt_eq.1 hx]; simp
theorem from_is {s : ByteArray} : ∀ {j n k : Nat}, fromF s n j = some k → hasF s (NB k) = true := by
  intro j
  induction j with
  | zero => intro n k h; simp [fromF] at h
  | succ j ih =>
    intro n k h
    rw [fromF] at h
    split at h
    · simp at h; subst h; assumption
    · exact ih h
theorem ends_of {s p : ByteArray} {c : Nat} (hp : 1 ≤ p.size) (hb : begF s p = true) (hc : parseF (restF s p) = some c) : endsF s (NB c) = true := by
  refine endsF_mem (has_is (from_is hc)) ?_
  have hz := begF_size hb
  have hr : (restF s p).size = s.size - p.size := size_extract _ _ _ (Nat.le_refl _)
  rw [endF, decide_eq_true (by omega), Bool.true_and, show s.size - (restF s p).size = p.size by omega]
  exact txt_eq.2 rfl
/-- A text that is read is the name of what it is read as, or ends with a name of the condition on which that hangs. -/
theorem op_facts {s : ByteArray} {m : Int} (h : opF s = some m) : okF m = true ∧ (nmF m = s ∨ ∃ c : Nat, c < 16 ∧ condF m = some (c : Int) ∧ endsF s (NB c) = true) := by
  rw [opF] at h
  cases hm : mainF s with
  | some k =>
    rw [hm] at h
    simp at h
    subst h
    obtain ⟨i, b, rfl, hb, rfl⟩ := find_is hm
    rw [Nat.zero_add]
    have hk : i < 322 := by rw [← NM_length]; exact (List.getElem?_eq_some_iff.1 hb).1
    exact ⟨by simp [okF]; omega, .inl (nmF_at hb hk)⟩
  | none =>
    rw [hm] at h
    simp only [otherF] at h
    have ht : tryF s 0 = some m ∨ tryF s 1 = some m ∨ tryF s 2 = some m := by
      cases h0 : tryF s 0 with
      | some a => rw [h0] at h; exact .inl (by simpa using h)
      | none =>
        cases h1 : tryF s 1 with
        | some a => rw [h0, h1] at h; exact .inr (.inl (by simpa using h))
        | none => rw [h0, h1] at h; exact .inr (.inr (by simpa using h))
    have key : ∀ j, tryF s j = some m → ∃ c : Nat, c < 16 ∧ m = famN j + c ∧ begF s (famP j) = true ∧ parseF (restF s (famP j)) = some c := fun j hj => by
      rw [tryF] at hj
      split at hj
      · rename_i hb
        cases hp : parseF (restF s (famP j)) with
        | none => rw [hp] at hj; simp at hj
        | some c => rw [hp] at hj; simp at hj; exact ⟨c, parseF_lt hp, hj.symm, hb, rfl⟩
      · cases hj
    rcases ht with ht | ht | ht
    · obtain ⟨c, hc, rfl, hb, hp⟩ := key 0 ht
      exact ⟨by simp [okF, famN]; omega, .inr ⟨c, hc, by rw [show famN 0 = 68 from rfl, cond_at0 (by omega) (by omega)]; simp; omega, ends_of (by decide) hb hp⟩⟩
    · obtain ⟨c, hc, rfl, hb, hp⟩ := key 1 ht
      exact ⟨by simp [okF, famN]; omega, .inr ⟨c, hc, by rw [show famN 1 = 84 from rfl, cond_at1 (by omega) (by omega)]; simp; omega, ends_of (by decide) hb hp⟩⟩
    · obtain ⟨c, hc, rfl, hb, hp⟩ := key 2 ht
      exact ⟨by simp [okF, famN]; omega, .inr ⟨c, hc, by rw [show famN 2 = 100 from rfl, cond_at2 (by omega) (by omega)]; simp; omega, ends_of (by decide) hb hp⟩⟩
end Go.Proofs.YtinbgkflbphknaaDoor
