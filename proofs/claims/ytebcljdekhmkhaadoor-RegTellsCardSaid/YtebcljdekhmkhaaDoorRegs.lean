/-
  Registers and their names, plainly: one to one.
-/
import Derived.Test.YtebcljdekhmkhaaDoorParse
namespace Go.Proofs.YtebcljdekhmkhaaDoor
open Go.RowKit

def allRegs : List (Int × Int) := (rest 8).map (·.1)
theorem all_ents : ∀ e ∈ rest 8, validF e.1.1 e.1.2 = true ∧ nameF e.1.1 e.1.2 = e.2 ∧ parseF e.2 = some e.1 ∧ lower e.2 = e.2 ∧ e.2 ≠ [] ∧ e.2.length ≤ 5 := by decide +kernel
theorem in_all : ∀ c ∈ [1, 2, 3, 4, 5, 6, 7, 8], ∀ k : Fin 16, validF c (k.val : Int) = true → (c, (k.val : Int)) ∈ allRegs := by decide +kernel
theorem valid_class {c n : Int} (h : validF c n = true) : 1 ≤ c ∧ c ≤ 8 := by
  rcases classes c with rfl | rfl | rfl | rfl | rfl | rfl | rfl | rfl | h1
  all_goals first | omega | (exfalso; simp [validF, span_none h1] at h; omega)
theorem valid_all {c n : Int} (h : validF c n = true) : (c, n) ∈ allRegs := by
  have hc := valid_class h
  have hn := validF_n h
  obtain ⟨k, rfl⟩ := Int.eq_ofNat_of_zero_le hn.1
  exact in_all c (by simp; omega) ⟨k, by omega⟩ h
theorem reg_facts {c n : Int} (h : validF c n = true) : parseF (nameF c n) = some (c, n) ∧ lower (nameF c n) = nameF c n ∧ nameF c n ≠ [] ∧ (nameF c n).length ≤ 5 := by
  have hm := valid_all h
  unfold allRegs at hm
  obtain ⟨e, he, hce⟩ := List.mem_map.1 hm
  obtain ⟨_, h2, h3, h4, h5, h6⟩ := all_ents e he
  rw [hce] at h2 h3
  simp only [] at h2
  rw [h2]
  exact ⟨h3, h4, h5, h6⟩
theorem name_none {c n : Int} (h : validF c n = false) : nameF c n = [] := by simp [nameF, h]
theorem name_short (c n : Int) : (nameF c n).length ≤ 5 := by
  cases h : validF c n
  · rw [name_none h]; simp
  · exact (reg_facts h).2.2.2
theorem parse_facts {x : List Int} {c n : Int} (h : parseF x = some (c, n)) : validF c n = true ∧ nameF c n = x := by
  unfold parseF look at h
  obtain ⟨e, he, hce⟩ := Option.map_eq_some_iff.1 h
  have hm := List.mem_of_find?_eq_some he
  have hp := List.find?_some he
  obtain ⟨h1, h2, _⟩ := all_ents e hm
  rw [hce] at h1 h2
  simp only [beq_iff_eq] at hp
  exact ⟨h1, h2.trans hp.symm⟩
theorem name_inj {c n d m : Int} (h : validF c n = true) (k : validF d m = true) (e : nameF c n = nameF d m) : c = d ∧ n = m := by
  have h1 := (reg_facts h).1
  rw [e, (reg_facts k).1] at h1
  simp at h1
  exact ⟨h1.1.symm, h1.2.symm⟩
end Go.Proofs.YtebcljdekhmkhaaDoor
