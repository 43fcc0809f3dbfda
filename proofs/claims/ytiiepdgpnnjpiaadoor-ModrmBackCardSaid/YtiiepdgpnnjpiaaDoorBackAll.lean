/-
  All ways of a place, and a register's, are read as they were, plainly.
-/
import Derived.Test.YtiiepdgpnnjpiaaDoorBackWays
namespace Go.Proofs.YtiiepdgpnnjpiaaDoor
open Go.RowKit
set_option maxRecDepth 100000

/-- A way is read as it was, ahead of any bytes; cut short it is cut. -/
def Good (f r : Int) (m : Pl) (y : Way) : Prop :=
  (∀ ys, readF y.x y.b (y.bs ++ ys) = (0, ⟨f, r, m, y.bs.length⟩)) ∧ ∀ k, k < y.bs.length → readF y.x y.b (y.bs.take k) = (9, zeroS)
theorem good_way {f mod rm x b : Int} {sib t : List Int} {p m : Pl} {d : Int} (hf : 0 ≤ f ∧ f ≤ 7) (hm : 0 ≤ mod ∧ mod ≤ 2) (hrm : 0 ≤ rm ∧ rm ≤ 7) (hR : ∀ zs, regsF mod rm x b (sib ++ zs) = (0, p, sib.length)) (h0 : ∀ k, k < sib.length → regsF mod rm x b (sib.take k) = (9, zeroM, 0)) (ht : TailOk (widthF (if p.bc = 5 then mod else 2)) d t) (hc : canonF { p with d := d } = m) :
    Good f (-1) m ⟨(64 * mod + 8 * f + rm) :: (sib ++ t), x, b⟩ := by
  constructor
  · intro ys
    have := way_read hf hm hrm hR ht ys
    rw [hc] at this
    rw [this]
    simp
    omega
  · intro k hk
    exact way_cut hf hm hrm hR h0 ht k (by simp at hk; omega)
/-- A head's ways. -/
theorem good_head {f : Int} {h : Hd} {m : Pl} {d : Int} (hf : 0 ≤ f ∧ f ≤ 7) (hh : HdOk h) (hd : D32 d)
    (ha : h.alone = true → ∃ p, (∀ zs, regsF 0 h.rm h.x h.b (h.sib ++ zs) = (0, p, h.sib.length)) ∧ ¬ p.bc = 5 ∧ canonF { p with d := d } = m)
    (hn : h.alone = false → ∃ p, (∀ mod, 0 ≤ mod ∧ mod ≤ 2 → ¬ (mod = 0 ∧ h.base = 5) → ∀ zs, regsF mod h.rm h.x h.b (h.sib ++ zs) = (0, p, h.sib.length)) ∧ p.bc = 5 ∧ canonF { p with d := d } = m)
    (hs : ∀ mod k, k < h.sib.length → regsF mod h.rm h.x h.b (h.sib.take k) = (9, zeroM, 0)) :
    ∀ t ∈ tailsF h.alone h.base d, Good f (-1) m (wayF f h t) := by
  intro t ht
  unfold tailsF at ht
  cases hal : h.alone
  · obtain ⟨p, hR, hp, hc⟩ := hn hal
    rw [hal] at ht
    simp only [Bool.false_eq_true, if_false, List.mem_append] at ht
    rcases ht with (ht | ht) | ht
    · split at ht
      · rename_i hc0
        simp at ht
        subst ht
        obtain ⟨rfl, hb⟩ := hc0
        exact good_way hf (by omega) hh.rm (hR 0 (by omega) (by omega)) (hs 0) (by rw [if_pos hp]; exact .inl ⟨rfl, rfl, rfl⟩) hc
      · cases ht
    · split at ht
      · rename_i hfit
        simp at ht
        subst ht
        exact good_way hf (by omega) hh.rm (hR 1 (by omega) (by omega)) (hs 1) (by rw [if_pos hp]; exact .inr (.inl ⟨rfl, hfit, rfl⟩)) hc
      · cases ht
    · simp at ht
      subst ht
      exact good_way hf (by omega) hh.rm (hR 2 (by omega) (by omega)) (hs 2) (by rw [if_pos hp]; exact .inr (.inr ⟨rfl, hd, rfl⟩)) hc
  · obtain ⟨p, hR, hp, hc⟩ := ha hal
    rw [hal] at ht
    simp at ht
    subst ht
    exact good_way hf (by omega) hh.rm hR (hs 0) (by rw [if_neg hp]; exact .inr (.inr ⟨rfl, hd, rfl⟩)) hc
theorem wide_low {n : Int} (h : 0 ≤ n ∧ n < 16) : lowF 5 n = n % 8 ∧ highF 5 n = n / 8 := by
  have hv : validF 5 n = true := by simp [validF, spanF]; omega
  simp [lowF, highF, hv]
theorem pow_shift {s : Int} (h : s = 1 ∨ s = 2 ∨ s = 4 ∨ s = 8) : (2 : Int) ^ (shiftF s).toNat = s := by
  rcases h with rfl | rfl | rfl | rfl <;> decide
theorem cut_one (mod rm x b : Int) (sib : List Int) (h : sib = [] ∨ rm = 4 ∧ ∃ s, sib = [s]) (k : Nat) (hk : k < sib.length) : regsF mod rm x b (sib.take k) = (9, zeroM, 0) := by
  rcases h with rfl | ⟨rfl, s, rfl⟩
  · simp at hk
  · exact regs_sib_cut mod x b s k hk
theorem sibF_one (ic ix s base : Int) : ∃ z, sibF ic ix s base = [z] := by unfold sibF; split <;> exact ⟨_, rfl⟩
/-- A place with an index alone. -/
theorem good_indexed {f n s d : Int} (hf : 0 ≤ f ∧ f ≤ 7) (hn : 0 ≤ n ∧ n < 16) (h4 : ¬ n = 4) (hs : s = 1 ∨ s = 2 ∨ s = 4 ∨ s = 8) (hd : D32 d) :
    ∀ t ∈ tailsF true 0 d, Good f (-1) (canonF ⟨0, 0, 5, n, s, d, 0⟩) (wayF f (indexedH 5 n s) t) := by
  obtain ⟨e1, e2⟩ := wide_low hn
  have hsib : sibF 5 n s 5 = [64 * shiftF s + 8 * (n % 8) + 5] := by simp [sibF, noneF, e1]
  refine good_head (h := indexedH 5 n s) hf (indexedH_ok _ _ _) hd (fun _ => ⟨⟨0, 0, 5, n, s, 0, 0⟩, ?_, by simp, rfl⟩) (fun h => by simp [indexedH] at h) (fun mod k hk => cut_one mod 4 _ _ (sibF 5 n s 5) (.inr ⟨rfl, sibF_one _ _ _ _⟩) k hk)
  intro zs
  simp only [indexedH, hsib, e2]
  rw [regs_sib (shiftF_range s) (by omega) (by omega) (by omega) (by simp)]
  rw [if_pos ⟨rfl, rfl⟩, if_pos ⟨rfl, rfl⟩, if_neg (by omega), if_neg (by omega), if_neg (by omega), pow_shift hs]
  rw [show 8 * (n / 8) + n % 8 = n by omega]
  rfl
theorem good_based {f bn ic ix s d : Int} (hf : 0 ≤ f ∧ f ≤ 7) (hb : 0 ≤ bn ∧ bn < 16) (hi : ic = 0 ∧ ix = 0 ∧ s = 0 ∨ ic = 5 ∧ (0 ≤ ix ∧ ix < 16) ∧ ¬ ix = 4 ∧ (s = 1 ∨ s = 2 ∨ s = 4 ∨ s = 8)) (hd : D32 d) :
    ∀ t ∈ tailsF false (lowF 5 bn) d, Good f (-1) (canonF ⟨5, bn, ic, ix, s, d, 0⟩) (wayF f (basedH 5 bn ic ix s) t) := by
  obtain ⟨e1, e2⟩ := wide_low hb
  refine good_head (h := basedH 5 bn ic ix s) hf (basedH_ok _ _ _ _ _) hd (fun h => by simp [basedH] at h) (fun _ => ⟨⟨5, bn, ic, ix, s, 0, 0⟩, ?_, rfl, rfl⟩) (fun mod k hk => cut_one _ _ _ _ _ (.inr ⟨rfl, sibF_one _ _ _ _⟩) k hk)
  intro mod hmod h5 zs
  simp only [basedH, e1] at h5
  rcases hi with ⟨rfl, rfl, rfl⟩ | ⟨rfl, hix, h4, hs⟩
  · have hsib : sibF 0 0 0 (lowF 5 bn) = [64 * 0 + 8 * 4 + bn % 8] := by simp [sibF, noneF, e1]
    have h0 : highF 0 0 = 0 := by decide
    simp only [basedH, hsib, e2, h0]
    rw [regs_sib (by omega) (by omega) (by omega) (by omega) (by rintro ⟨h1, h2, _⟩; exact h5 ⟨h1, h2⟩)]
    rw [if_neg h5, if_neg h5, if_pos (by omega), if_pos (by omega), if_pos (by omega), show 8 * (bn / 8) + bn % 8 = bn by omega]
    rfl
  · obtain ⟨g1, g2⟩ := wide_low hix
    have hsib : sibF 5 ix s (lowF 5 bn) = [64 * shiftF s + 8 * (ix % 8) + bn % 8] := by simp [sibF, noneF, e1, g1]
    simp only [basedH, hsib, e2, g2]
    rw [regs_sib (shiftF_range s) (by omega) (by omega) (by omega) (by rintro ⟨h1, h2, _⟩; exact h5 ⟨h1, h2⟩)]
    rw [if_neg h5, if_neg h5, if_neg (by omega), if_neg (by omega), if_neg (by omega), pow_shift hs, show 8 * (bn / 8) + bn % 8 = bn by omega, show 8 * (ix / 8) + ix % 8 = ix by omega]
    rfl
/-- All ways of a place. -/
theorem ways_good {f : Int} {m : Pl} (hf : 0 ≤ f ∧ f ≤ 7) (hm : Shape m) (hd : D32 m.d) : ∀ y ∈ waysF f m, Good f (-1) { m with z := 0 } y := by
  obtain ⟨bc, bn, ic, ix, s, d, z⟩ := m
  intro y hy
  unfold waysF at hy
  simp only [List.mem_flatMap, List.mem_map] at hy
  obtain ⟨h, hh, t, ht, rfl⟩ := hy
  unfold Shape at hm
  simp only at hm hd ht ⊢
  rcases hm with ⟨rfl, rfl, rfl, rfl, rfl⟩ | ⟨rfl, rfl, rfl, rfl, rfl⟩ | ⟨rfl, rfl, rfl, ⟨h0, h1, h4⟩, hs⟩ | ⟨rfl, hb, rfl, ⟨h0, h1, h4⟩, hs⟩ | ⟨rfl, hb, rfl, rfl, rfl⟩
  · simp [headsF] at hh
    subst hh
    refine good_head (h := ⟨5, [], 0, 0, 0, true⟩) hf ⟨by simp, by simp [isBytes], by simp, by simp, by simp⟩ hd (fun _ => ⟨⟨8, 0, 0, 0, 0, 0, 0⟩, regs_back_rip, by simp, by simp [canonF, stackF]⟩) (fun h => by simp at h) (fun mod k hk => cut_one _ _ _ _ _ (.inl rfl) k hk) t ht
  · simp [headsF, noneF] at hh
    subst hh
    have e : (⟨0, 0, 0, 0, 0, d, 0⟩ : Pl) = canonF ⟨0, 0, 0, 0, 0, d, 0⟩ := by simp [canonF, stackF]
    refine good_head (h := indexedH 0 0 0) hf (indexedH_ok _ _ _) hd (fun _ => ⟨⟨0, 0, 0, 0, 0, 0, 0⟩, ?_, by simp, by simp [canonF, stackF]⟩) (fun h => by simp [indexedH] at h) (fun mod k hk => cut_one mod 4 _ _ (sibF 0 0 0 5) (.inr ⟨rfl, sibF_one _ _ _ _⟩) k hk) t ht
    intro zs
    have hsib : sibF 0 0 0 5 = [64 * 0 + 8 * 4 + 5] := by simp [sibF, noneF]
    have hz : highF 0 0 = 0 := by decide
    simp only [indexedH, hsib, hz]
    rw [regs_sib (by omega) (by omega) (by omega) (by omega) (by simp)]
    rfl
  · simp [headsF, noneF] at hh
    subst hh
    have e : (⟨0, 0, 5, ix, s, d, 0⟩ : Pl) = canonF ⟨0, 0, 5, ix, s, d, 0⟩ := by
      have : ¬ s = 1 := by omega
      simp [canonF, stackF, this, h4]
    rw [e]
    exact good_indexed hf ⟨h0, h1⟩ h4 (by omega) hd t ht
  · simp [headsF, noneF] at hh
    subst hh
    have e : (⟨5, bn, 5, ix, s, d, 0⟩ : Pl) = canonF ⟨5, bn, 5, ix, s, d, 0⟩ := by simp [canonF, noneF, stackF, h4]
    rw [e]
    exact good_based hf hb (.inr ⟨rfl, ⟨h0, h1⟩, h4, hs⟩) hd t ht
  · have e : (⟨5, bn, 0, 0, 0, d, 0⟩ : Pl) = canonF ⟨5, bn, 0, 0, 0, d, 0⟩ := by simp [canonF, stackF]
    obtain ⟨e1, e2⟩ := wide_low hb
    simp only [headsF, noneF] at hh
    simp at hh
    rcases hh with hh | rfl | hh
    · obtain ⟨hl4, rfl⟩ := hh
      rw [e1] at hl4
      refine good_head (h := ⟨lowF 5 bn, [], 0, highF 5 bn, lowF 5 bn, false⟩) hf ⟨low_range _ _, by simp [isBytes], by simp, high_range _ _, low_range _ _⟩ hd (fun h => by simp at h) (fun _ => ⟨⟨5, bn, 0, 0, 0, 0, 0⟩, ?_, rfl, by simp [canonF, stackF]⟩) (fun mod k hk => cut_one _ _ _ _ _ (.inl rfl) k hk) t ht
      intro mod _ h5 zs
      simp only [e1, e2] at h5 ⊢
      rw [regs_plain hl4 h5, show 8 * (bn / 8) + bn % 8 = bn by omega]
      rfl
    · rw [e]
      exact good_based hf hb (.inl ⟨rfl, rfl, rfl⟩) hd t ht
    · obtain ⟨hb4, rfl⟩ := hh
      have e' : (⟨5, bn, 0, 0, 0, d, 0⟩ : Pl) = canonF ⟨0, 0, 5, bn, 1, d, 0⟩ := by simp [canonF, noneF]
      rw [e']
      exact good_indexed hf hb hb4 (.inl rfl) hd t ht
/-- A register's way. -/
theorem reg_good {f rc rn : Int} (hf : 0 ≤ f ∧ f ≤ 7) (hv : validF rc rn = true) : Good f rn zeroM (regWay f rc rn) := by
  have hr := validF_n hv
  have e : lowF rc rn = rn % 8 ∧ highF rc rn = rn / 8 := by simp [lowF, highF, hv]
  obtain ⟨e1, e2⟩ := e
  constructor
  · intro ys
    have h1 : (192 + 8 * f + rn % 8) / 64 = 3 := by omega
    have h2 : (192 + 8 * f + rn % 8) / 8 % 8 = f := by omega
    have h3 : (192 + 8 * f + rn % 8) % 8 = rn % 8 := by omega
    simp only [regWay, e1, e2, List.cons_append, readF, h1, h2, h3, if_true]
    rw [if_neg (by omega), show 8 * (rn / 8) + rn % 8 = rn by omega]
    rfl
  · intro k hk
    simp [regWay] at hk
    subst hk
    rfl
end Go.Proofs.YtiiepdgpnnjpiaaDoor
