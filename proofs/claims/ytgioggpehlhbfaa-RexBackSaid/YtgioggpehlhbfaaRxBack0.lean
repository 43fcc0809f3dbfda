/-
  Plain facts: what is laid is read, ahead of what is none of them; what is read is laid as these bytes.
-/
import Derived.Test.YtgioggpehlhbfaaRxLaw
namespace Go.Proofs.Ytgioggpehlhbfaa
open Go.RowKit
set_option maxRecDepth 100000

/-- Is what begins these bytes none of the prefixes? -/
def freeF : List Int → Bool
  | [] => true
  | z :: _ => z != 102 && z != 242 && z != 243 && (decide (z < 64) || decide (79 < z))
theorem rexZ_rex {n : Int} (h : 0 ≤ n ∧ n ≤ 15) : rexZ (64 + n) = n := by unfold rexZ; rw [if_pos (by omega)]; omega
theorem two_rex {n : Int} (h : 0 ≤ n ∧ n ≤ 15) : two (64 + n) = 0 := by unfold two; rw [if_neg (by omega), if_neg (by omega)]
/-- The first byte of bytes that are free is none of these. -/
theorem free_at {zs : List Int} (h : freeF zs = true) : ¬ at_ zs 0 = 102 ∧ two (at_ zs 0) = 0 ∧ rexZ (at_ zs 0) = -1 := by
  rcases zs with _ | ⟨z, r⟩
  · decide
  · simp [freeF] at h
    obtain ⟨⟨⟨h1, h2⟩, h3⟩, h4⟩ := h
    refine ⟨by simpa [at_] using h1, ?_, ?_⟩
    · simp [at_, two, h2, h3]
    · show rexZ z = -1
      unfold rexZ
      rw [if_neg (by omega)]
theorem at_zero (z : Int) (r : List Int) : at_ (z :: r) 0 = z := rfl
theorem at_succ (z : Int) (r : List Int) (k : Nat) : at_ (z :: r) (k + 1) = at_ r k := by simp [at_]
/-- What stands behind the first prefix. -/
theorem rd_parts (zs : List Int) (p2 r : Int) (k j : Nat) (h1 : k1 zs = k) (h2 : two (at_ zs k) = p2) (hj : (if p2 = 0 then k else k + 1) = j) (h3 : rexZ (at_ zs j) = r) :
    rdP zs = k + p2 ∧ rdR zs = r ∧ rdN zs = if r = -1 then j else j + 1 := by
  have e2 : k2 zs = j := by unfold k2; rw [h1, h2]; exact hj
  have e3 : rdR zs = r := by unfold rdR; rw [e2]; exact h3
  refine ⟨by unfold rdP; rw [h1, h2], e3, by unfold rdN; rw [e3, e2]⟩
theorem back_plain (pre n : Int) (zs : List Int) (h : layE pre n = 0) (hf : freeF zs = true ∨ 0 ≤ n) :
    rdP (layB pre n ++ zs) = pre ∧ rdR (layB pre n ++ zs) = n ∧ rdN (layB pre n ++ zs) = (layB pre n).length := by
  have hv : validF pre = true := by
    cases hv : validF pre
    · simp [layE, hv] at h
    · rfl
  have hr : (n = -1 ∧ freeF zs = true) ∨ (0 ≤ n ∧ n ≤ 15) := by
    by_cases h1 : n = -1
    · exact .inl ⟨h1, by rcases hf with hf | hf; exact hf; omega⟩
    · refine .inr (isF_yes ?_)
      simp [layE, hv, h1] at h
      exact h
  rw [layB_yes h]
  rcases hr with ⟨rfl, hz⟩ | hr
  · obtain ⟨f1, f2, f3⟩ := free_at hz
    rw [rexB_none, List.append_nil]
    rcases validF_yes hv with rfl | rfl | rfl | rfl | rfl | rfl
    · rw [preB_all.1]
      exact rd_parts zs 0 (-1) 0 0 (by unfold k1; rw [if_neg f1]) f2 rfl f3
    · rw [preB_all.2.1]
      exact rd_parts (102 :: zs) 0 (-1) 1 1 rfl (by rw [at_succ]; exact f2) rfl (by rw [at_succ]; exact f3)
    · rw [preB_all.2.2.1]
      exact rd_parts (242 :: zs) 2 (-1) 0 1 rfl rfl rfl (by rw [at_succ]; exact f3)
    · rw [preB_all.2.2.2.1]
      exact rd_parts (102 :: 242 :: zs) 2 (-1) 1 2 rfl rfl rfl (by rw [at_succ, at_succ]; exact f3)
    · rw [preB_all.2.2.2.2.1]
      exact rd_parts (243 :: zs) 4 (-1) 0 1 rfl rfl rfl (by rw [at_succ]; exact f3)
    · rw [preB_all.2.2.2.2.2]
      exact rd_parts (102 :: 243 :: zs) 4 (-1) 1 2 rfl rfl rfl (by rw [at_succ, at_succ]; exact f3)
  · rw [rexB_some hr.1]
    have hz := rexZ_rex hr
    have ht := two_rex hr
    have hn : ¬ n = -1 := by omega
    have key : ∀ (l : List Int) (p2 : Int) (k j : Nat), k1 (l ++ [64 + n] ++ zs) = k → two (at_ (l ++ [64 + n] ++ zs) k) = p2 → (if p2 = 0 then k else k + 1) = j → at_ (l ++ [64 + n] ++ zs) j = 64 + n → (k : Int) + p2 = pre → j + 1 = l.length + 1 →
        rdP (l ++ [64 + n] ++ zs) = pre ∧ rdR (l ++ [64 + n] ++ zs) = n ∧ rdN (l ++ [64 + n] ++ zs) = (l ++ [64 + n]).length := by
      intro l p2 k j a1 a2 a3 a4 a5 a6
      obtain ⟨b1, b2, b3⟩ := rd_parts _ p2 n k j a1 a2 a3 (by rw [a4]; exact hz)
      exact ⟨b1.trans a5, b2, by rw [b3, if_neg hn, a6, List.length_append]; rfl⟩
    rcases validF_yes hv with rfl | rfl | rfl | rfl | rfl | rfl
    · rw [preB_all.1]
      exact key [] 0 0 0 (by show (if 64 + n = 102 then 1 else 0) = 0; rw [if_neg (by omega)]) ht rfl rfl rfl rfl
    · rw [preB_all.2.1]
      exact key [102] 0 1 1 rfl ht rfl rfl rfl rfl
    · rw [preB_all.2.2.1]
      exact key [242] 2 0 1 rfl rfl rfl rfl rfl rfl
    · rw [preB_all.2.2.2.1]
      exact key [102, 242] 2 1 2 rfl rfl rfl rfl rfl rfl
    · rw [preB_all.2.2.2.2.1]
      exact key [243] 4 0 1 rfl rfl rfl rfl rfl rfl
    · rw [preB_all.2.2.2.2.2]
      exact key [102, 243] 4 1 2 rfl rfl rfl rfl rfl rfl
/-! ### what is read is laid as these bytes -/
theorem two_cases (z : Int) : (z = 242 ∧ two z = 2) ∨ (z = 243 ∧ two z = 4) ∨ two z = 0 := by
  unfold two
  by_cases h1 : z = 242
  · exact .inl ⟨h1, if_pos h1⟩
  · by_cases h2 : z = 243
    · exact .inr (.inl ⟨h2, by rw [if_neg h1, if_pos h2]⟩)
    · exact .inr (.inr (by rw [if_neg h1, if_neg h2]))
theorem at_take {zs : List Int} {k : Nat} {z : Int} (h : at_ zs k = z) (hz : 0 ≤ z) : zs.take (k + 1) = zs.take k ++ [z] := by
  unfold at_ at h
  rcases hk : zs[k]? with _ | y
  · rw [hk] at h; simp at h; omega
  · rw [hk] at h
    simp at h
    subst h
    rw [List.take_add_one, hk]
    rfl
theorem pre_read (zs : List Int) : validF (rdP zs) = true ∧ preB (rdP zs) = zs.take (k2 zs) := by
  have hk : (at_ zs 0 = 102 ∧ k1 zs = 1 ∧ zs.take 1 = [102]) ∨ k1 zs = 0 := by
    by_cases h : at_ zs 0 = 102
    · exact .inl ⟨h, by unfold k1; rw [if_pos h], by rw [at_take (k := 0) h (by omega)]; rfl⟩
    · exact .inr (by unfold k1; rw [if_neg h])
  rcases hk with ⟨h0, h1, ht⟩ | h1
  · rcases two_cases (at_ zs 1) with ⟨hz, h2⟩ | ⟨hz, h2⟩ | h2
    · have e1 : rdP zs = 3 := by unfold rdP; rw [h1, h2]; rfl
      have e2 : k2 zs = 2 := by unfold k2; rw [h1, h2]; rfl
      rw [e1, e2, at_take hz (by omega), ht]
      exact ⟨rfl, preB_all.2.2.2.1⟩
    · have e1 : rdP zs = 5 := by unfold rdP; rw [h1, h2]; rfl
      have e2 : k2 zs = 2 := by unfold k2; rw [h1, h2]; rfl
      rw [e1, e2, at_take hz (by omega), ht]
      exact ⟨rfl, preB_all.2.2.2.2.2⟩
    · have e1 : rdP zs = 1 := by unfold rdP; rw [h1, h2]; rfl
      have e2 : k2 zs = 1 := by unfold k2; rw [h1, h2]; rfl
      rw [e1, e2, ht]
      exact ⟨rfl, preB_all.2.1⟩
  · rcases two_cases (at_ zs 0) with ⟨hz, h2⟩ | ⟨hz, h2⟩ | h2
    · have e1 : rdP zs = 2 := by unfold rdP; rw [h1, h2]; rfl
      have e2 : k2 zs = 1 := by unfold k2; rw [h1, h2]; rfl
      rw [e1, e2, at_take (k := 0) hz (by omega)]
      exact ⟨rfl, preB_all.2.2.1⟩
    · have e1 : rdP zs = 4 := by unfold rdP; rw [h1, h2]; rfl
      have e2 : k2 zs = 1 := by unfold k2; rw [h1, h2]; rfl
      rw [e1, e2, at_take (k := 0) hz (by omega)]
      exact ⟨rfl, preB_all.2.2.2.2.1⟩
    · have e1 : rdP zs = 0 := by unfold rdP; rw [h1, h2]; rfl
      have e2 : k2 zs = 0 := by unfold k2; rw [h1, h2]; rfl
      rw [e1, e2]
      exact ⟨rfl, preB_all.1⟩
theorem read_laid (zs : List Int) : layE (rdP zs) (rdR zs) = 0 ∧ layB (rdP zs) (rdR zs) = zs.take (rdN zs) ∧ rdN zs ≤ 3 ∧ rdN zs ≤ zs.length := by
  obtain ⟨hv, hp⟩ := pre_read zs
  have hk := k2_le zs
  by_cases h : rdR zs = -1
  · have hN : rdN zs = k2 zs := by unfold rdN; rw [if_pos h]
    have hE : layE (rdP zs) (rdR zs) = 0 := by rw [h]; simp [layE, hv]
    refine ⟨hE, ?_, by omega, by omega⟩
    rw [layB_yes hE, h, rexB_none, List.append_nil, hp, hN]
  · have hN : rdN zs = k2 zs + 1 := by unfold rdN; rw [if_neg h]
    have hr : 64 ≤ at_ zs (k2 zs) ∧ at_ zs (k2 zs) ≤ 79 ∧ rdR zs = at_ zs (k2 zs) - 64 := by
      unfold rdR rexZ at h ⊢
      split at h
      · rename_i h2; exact ⟨h2.1, h2.2, by rw [if_pos h2]⟩
      · exact absurd rfl h
    have hI : isF (rdR zs) = true := by simp [isF]; omega
    have hE : layE (rdP zs) (rdR zs) = 0 := by simp [layE, hv, hI]
    have hl : k2 zs < zs.length := by
      rcases Nat.lt_or_ge (k2 zs) zs.length with h3 | h3
      · exact h3
      · exfalso
        have := hr.1
        unfold at_ at this
        rw [List.getElem?_eq_none h3] at this
        simp at this
    refine ⟨hE, ?_, by omega, by omega⟩
    rw [layB_yes hE, rexB_some (by omega), hp, hN, at_take (z := 64 + rdR zs) (by omega) (by omega)]
end Go.Proofs.Ytgioggpehlhbfaa
