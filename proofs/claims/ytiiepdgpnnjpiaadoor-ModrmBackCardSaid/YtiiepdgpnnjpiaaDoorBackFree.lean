/-
  No way begins another one; none is shorter than the first; plainly.
-/
import Derived.Test.YtiiepdgpnnjpiaaDoorBackAll
namespace Go.Proofs.YtiiepdgpnnjpiaaDoor
open Go.RowKit
set_option maxRecDepth 100000

/-- A way's length, and its mod: no two ways have both. -/
def keyF (y : Way) : Nat × Int := (y.bs.length, y.bs[0]?.getD 0 / 64)
theorem key_way {f : Int} {h : Hd} {t : Int × List Int} (hf : 0 ≤ f ∧ f ≤ 7) (hr : 0 ≤ h.rm ∧ h.rm ≤ 7) : keyF (wayF f h t) = (1 + (h.sib.length + t.2.length), t.1) := by
  have e : (64 * t.1 + 8 * f + h.rm) / 64 = t.1 := by omega
  simp only [keyF, wayF, List.length_cons, List.length_append, List.getElem?_cons_zero, Option.getD_some, e, Prod.mk.injEq, and_true]
  omega
/-- The keys of a head's ways. -/
def headK (s : Nat) (alone : Bool) (base d : Int) : List (Nat × Int) := (tailsF alone base d).map fun t => (1 + (s + t.2.length), t.1)
theorem keys_head {f : Int} {h : Hd} {d : Int} (hf : 0 ≤ f ∧ f ≤ 7) (hr : 0 ≤ h.rm ∧ h.rm ≤ 7) : ((tailsF h.alone h.base d).map (wayF f h)).map keyF = headK h.sib.length h.alone h.base d := by
  rw [List.map_map]
  unfold headK
  apply List.map_congr_left
  intro t _
  exact key_way hf hr
theorem keys_all {f : Int} {m : Pl} (hf : 0 ≤ f ∧ f ≤ 7) : (waysF f m).map keyF = (headsF m).flatMap fun h => headK h.sib.length h.alone h.base m.d := by
  unfold waysF
  rw [List.map_flatMap]
  have hk := headsF_ok m
  generalize headsF m = H at hk ⊢
  induction H with
  | nil => rfl
  | cons h H ih =>
    simp only [List.flatMap_cons]
    rw [ih (fun h hh => hk h (List.mem_cons_of_mem _ hh)), keys_head hf (hk h List.mem_cons_self).rm]
theorem sib_len (ic ix s base : Int) : (sibF ic ix s base).length = 1 := by obtain ⟨z, e⟩ := sibF_one ic ix s base; rw [e]; rfl
theorem keys_nodup {m : Pl} : ((headsF m).flatMap fun h => headK h.sib.length h.alone h.base m.d).Nodup := by
  unfold headsF
  by_cases h1 : m.bc = 8
  · rw [if_pos h1]
    simp [headK, tailsF]
  rw [if_neg h1]
  by_cases h2 : noneF m.bc m.bn = true
  · rw [if_pos h2]
    simp [headK, tailsF, indexedH]
  rw [if_neg h2]
  by_cases h3 : noneF m.ic m.ix = false
  · rw [if_pos h3]
    simp only [List.flatMap_cons, List.flatMap_nil, List.append_nil, headK, tailsF, basedH, sib_len, Bool.false_eq_true, if_false]
    (repeat' split) <;> simp [bytesOf_length]
  rw [if_neg h3]
  by_cases h4 : lowF m.bc m.bn = 4
  · rw [if_pos h4]
    by_cases h5 : m.bn = 4
    · rw [if_pos h5]
      simp only [List.nil_append, List.flatMap_cons, List.flatMap_nil, List.append_nil, headK, tailsF, basedH, sib_len, Bool.false_eq_true, if_false]
      (repeat' split) <;> simp [bytesOf_length]
    · rw [if_neg h5]
      simp only [List.nil_append, List.flatMap_cons, List.flatMap_nil, List.append_nil, headK, tailsF, basedH, indexedH, sib_len, Bool.false_eq_true, if_false, if_true]
      (repeat' split) <;> simp [bytesOf_length]
  · rw [if_neg h4]
    by_cases h5 : m.bn = 4
    · rw [if_pos h5]
      simp only [List.cons_append, List.nil_append, List.flatMap_cons, List.flatMap_nil, List.append_nil, headK, tailsF, basedH, sib_len, Bool.false_eq_true, if_false]
      (repeat' split) <;> simp [bytesOf_length]
    · rw [if_neg h5]
      simp only [List.cons_append, List.nil_append, List.flatMap_cons, List.flatMap_nil, List.append_nil, headK, tailsF, basedH, indexedH, sib_len, Bool.false_eq_true, if_false, if_true]
      (repeat' split) <;> simp [bytesOf_length]
theorem ways_nodup {f : Int} {m : Pl} (hf : 0 ≤ f ∧ f ≤ 7) : (waysF f m).Nodup := by
  have h := keys_nodup (m := m)
  rw [← keys_all hf] at h
  exact List.Pairwise.of_map keyF (fun a b hne e => hne (by rw [e])) h
/-- None is shorter than the first. -/
theorem ways_first {f : Int} {m : Pl} (hf : 0 ≤ f ∧ f ≤ 7) {y : Way} {L : List Way} (hL : waysF f m = y :: L) : ∀ z ∈ waysF f m, y.bs.length ≤ z.bs.length := by
  have hk := keys_all (m := m) hf
  have hh : ∀ k ∈ (headsF m).flatMap fun h => headK h.sib.length h.alone h.base m.d, (((headsF m).flatMap fun h => headK h.sib.length h.alone h.base m.d).head?.getD (0, 0)).1 ≤ k.1 := by
    unfold headsF
    by_cases h1 : m.bc = 8
    · rw [if_pos h1]
      simp [headK, tailsF]
    rw [if_neg h1]
    by_cases h2 : noneF m.bc m.bn = true
    · rw [if_pos h2]
      simp [headK, tailsF, indexedH]
    rw [if_neg h2]
    by_cases h3 : noneF m.ic m.ix = false
    · rw [if_pos h3]
      simp only [List.flatMap_cons, List.flatMap_nil, List.append_nil, headK, tailsF, basedH, sib_len, Bool.false_eq_true, if_false]
      (repeat' split) <;> simp [bytesOf_length]
    rw [if_neg h3]
    by_cases h4 : lowF m.bc m.bn = 4
    · rw [if_pos h4]
      by_cases h5 : m.bn = 4
      · rw [if_pos h5]
        simp only [List.nil_append, List.flatMap_cons, List.flatMap_nil, List.append_nil, headK, tailsF, basedH, sib_len, Bool.false_eq_true, if_false]
        (repeat' split) <;> simp [bytesOf_length]
      · rw [if_neg h5]
        simp only [List.nil_append, List.flatMap_cons, List.flatMap_nil, List.append_nil, headK, tailsF, basedH, indexedH, sib_len, Bool.false_eq_true, if_false, if_true]
        (repeat' split) <;> simp [bytesOf_length]
    · rw [if_neg h4]
      by_cases h5 : m.bn = 4
      · rw [if_pos h5]
        simp only [List.cons_append, List.nil_append, List.flatMap_cons, List.flatMap_nil, List.append_nil, headK, tailsF, basedH, sib_len, Bool.false_eq_true, if_false]
        (repeat' split) <;> simp [bytesOf_length]
      · rw [if_neg h5]
        simp only [List.cons_append, List.nil_append, List.flatMap_cons, List.flatMap_nil, List.append_nil, headK, tailsF, basedH, indexedH, sib_len, Bool.false_eq_true, if_false, if_true]
        (repeat' split) <;> simp [bytesOf_length]
  rw [← hk] at hh
  intro z hz
  have := hh (keyF z) (List.mem_map_of_mem hz)
  rw [hL] at this
  simpa [keyF] using this
/-- No way begins another one of the same bits. -/
theorem good_free {f r : Int} {m : Pl} {y z : Way} (hy : Good f r m y) (hz : Good f r m z) (hx : y.x = z.x) (hb : y.b = z.b) (hp : z.bs.take y.bs.length = y.bs) : y = z := by
  have h1 := hy.1 (z.bs.drop y.bs.length)
  have h2 := hz.1 []
  have e : y.bs ++ z.bs.drop y.bs.length = z.bs := by
    conv => lhs; rw [← hp]
    rw [hp]
    conv => rhs; rw [← List.take_append_drop y.bs.length z.bs, hp]
  rw [e, hx, hb] at h1
  rw [List.append_nil, h1] at h2
  simp only [Prod.mk.injEq, true_and, Sn.mk.injEq] at h2
  have hl : y.bs = z.bs := by
    rw [← hp, h2, List.take_length]
  obtain ⟨_, _, _⟩ := y
  obtain ⟨_, _, _⟩ := z
  simp only at hx hb hl
  rw [hx, hb, hl]
end Go.Proofs.YtiiepdgpnnjpiaaDoor
