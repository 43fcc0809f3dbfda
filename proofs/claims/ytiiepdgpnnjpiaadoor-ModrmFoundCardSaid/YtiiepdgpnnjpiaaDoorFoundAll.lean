/-
  What is read is laid so, plainly.
-/
import Derived.Test.YtiiepdgpnnjpiaaDoorBackFree
namespace Go.Proofs.YtiiepdgpnnjpiaaDoor
open Go.RowKit
set_option maxRecDepth 100000

theorem width_all (mod : Int) : widthF mod = 0 ∨ widthF mod = 1 ∨ widthF mod = 4 := by unfold widthF; (repeat' split) <;> omega
/-- A displacement that was read: its bytes. -/
theorem got_tail {rest : List Int} (hb : isBytes rest) (s v : Nat) (hv : v = 0 ∨ v = 1 ∨ v = 4) (hl : s + v ≤ rest.length) :
    (v = 0 → dispN rest s v = 0) ∧ (v = 1 → fitsB (dispN rest s v) 8 = true) ∧ bytesOf (dispN rest s v) v = (rest.drop s).take v := by
  by_cases h0 : v = 0
  · subst h0
    exact ⟨fun _ => by simp [dispN], fun h => absurd h (by decide), by simp [bytesOf]⟩
  have hso : sizeOk (v : Int) = true := by rcases hv with rfl | rfl | rfl <;> first | exact absurd rfl h0 | rfl
  have e : dispN rest s v = sgn (numAt (rest.drop s) 0 v) (8 * v) := by
    unfold dispN
    rw [if_neg h0, getN_ok rest s v true hso hl]
    simp only [if_true]
    rw [numAt_drop, Nat.add_zero]
  refine ⟨fun h => absurd h h0, fun h => ?_, ?_⟩
  · subst h
    rw [e]
    exact sgn_fits _ _ (by omega)
  · rw [e]
    exact got_put (rest.drop s) (hb.drop s) v (by omega) (by omega) (by rw [List.length_drop]; omega)
theorem tail_mem {mod base d : Int} {t : List Int} (hm : mod = 0 ∨ mod = 1 ∨ mod = 2) (h5 : ¬ (mod = 0 ∧ base = 5)) (h0 : widthF mod = 0 → d = 0) (h1 : widthF mod = 1 → fitsB d 8 = true) (ht : bytesOf d (widthF mod) = t) : (mod, t) ∈ tailsF false base d := by
  unfold tailsF
  simp only [Bool.false_eq_true, if_false, List.mem_append]
  rcases hm with rfl | rfl | rfl
  · left; left
    have hd := h0 rfl
    subst hd
    rw [if_pos ⟨rfl, fun h => h5 ⟨rfl, h⟩⟩]
    have : t = [] := by rw [← ht]; rfl
    rw [this]
    exact List.mem_singleton.2 rfl
  · left; right
    rw [if_pos (h1 rfl), ← ht]
    exact List.mem_singleton.2 rfl
  · right
    rw [← ht]
    exact List.mem_singleton.2 rfl
/-- A head's way is a place's way. -/
theorem way_mem {f : Int} {m : Pl} {h : Hd} {t : Int × List Int} (hh : h ∈ headsF m) (ht : t ∈ tailsF h.alone h.base m.d) : wayF f h t ∈ waysF f m := by
  unfold waysF
  exact List.mem_flatMap.2 ⟨h, hh, List.mem_map_of_mem ht⟩
theorem shift_pow {q : Int} (hq : 0 ≤ q ∧ q ≤ 3) : shiftF (2 ^ q.toNat) = q := by
  have : q = 0 ∨ q = 1 ∨ q = 2 ∨ q = 3 := by omega
  rcases this with rfl | rfl | rfl | rfl <;> decide
theorem pow_one {q : Int} (hq : 0 ≤ q ∧ q ≤ 3) : (2 : Int) ^ q.toNat = 1 ↔ q = 0 := by
  have : q = 0 ∨ q = 1 ∨ q = 2 ∨ q = 3 := by omega
  rcases this with rfl | rfl | rfl | rfl <;> decide
/-- What registers were read say: the head, the place with any displacement. -/
theorem regs_found {mod rm x b : Int} {rest : List Int} {p : Pl} {n : Nat} (hb : isBytes rest) (hx : 0 ≤ x ∧ x ≤ 1) (hbb : 0 ≤ b ∧ b ≤ 1) (hr : 0 ≤ rm ∧ rm ≤ 7) (hR : regsF mod rm x b rest = (0, p, n)) (d : Int) :
    ∃ h : Hd, h ∈ headsF (canonF { p with d := d }) ∧ h.rm = rm ∧ h.sib = rest.take n ∧ h.x = x ∧ h.b = b ∧ (h.alone = true ↔ ¬ p.bc = 5) ∧ (h.alone = true → mod = 0) ∧ (h.alone = false → ¬ (mod = 0 ∧ h.base = 5)) ∧ (canonF { p with d := d }).d = d := by
  have hcd : (canonF { p with d := d }).d = d := by unfold canonF; (repeat' split) <;> rfl
  by_cases h4 : rm = 4
  · subst h4
    cases rest with
    | nil => simp [regsF] at hR
    | cons s t =>
      have hs := hb s List.mem_cons_self
      obtain ⟨q, hq⟩ : ∃ q, s / 64 = q := ⟨_, rfl⟩
      obtain ⟨i, hi⟩ : ∃ i, s / 8 % 8 = i := ⟨_, rfl⟩
      obtain ⟨l, hl⟩ : ∃ l, s % 8 = l := ⟨_, rfl⟩
      have rq : 0 ≤ q ∧ q ≤ 3 := by omega
      have ri : 0 ≤ i ∧ i ≤ 7 := by omega
      have rl : 0 ≤ l ∧ l ≤ 7 := by omega
      have es : s = 64 * q + 8 * i + l := by omega
      simp only [regsF, if_true, hq, hi, hl] at hR
      split at hR
      · simp at hR
      · rename_i hno
        simp only [Prod.mk.injEq, true_and] at hR
        obtain ⟨rfl, rfl⟩ := hR
        simp only [not_or, not_and] at hno
        have hz : highF 0 0 = 0 := by decide
        have p1 := pow_one rq
        have p2 := shift_pow rq
        simp only [List.take_succ_cons, List.take_zero]
        by_cases hbase : mod = 0 ∧ l = 5
        · obtain ⟨rfl, rfl⟩ := hbase
          have eb : b = 0 := by have := hno.2 rfl rfl; omega
          subst eb
          by_cases hj : i + 8 * x = 4
          · have e4 : i = 4 := by omega
            have ex : x = 0 := by omega
            have e0 : q = 0 := by have := hno.1 hj; simpa using this
            subst e4; subst ex; subst e0
            refine ⟨indexedH 0 0 0, by simp [canonF, stackF, headsF, noneF], rfl, by simp [indexedH, sibF, noneF]; omega, by simp [indexedH, hz], rfl, by simp [indexedH], fun _ => rfl, by simp [indexedH], hcd⟩
          · have hix : 0 ≤ 8 * x + i ∧ 8 * x + i < 16 := by omega
            have hx4 : ¬ 8 * x + i = 4 := by omega
            obtain ⟨e1, e2⟩ := wide_low hix
            have e3 : (8 * x + i) % 8 = i := by omega
            have e5 : (8 * x + i) / 8 = x := by omega
            simp only [hj, if_false, and_self, if_true] at hcd ⊢
            by_cases hq0 : q = 0
            · subst hq0
              refine ⟨indexedH 5 (8 * x + i) 1, ?_, rfl, ?_, ?_, rfl, by simp [indexedH], fun _ => trivial, by simp [indexedH], hcd⟩
              · simp [canonF, noneF, headsF, hx4]
              · simp [indexedH, sibF, noneF, shiftF, e1, e3]; omega
              · simp [indexedH, e2, e5]
            · have hp : ¬ (2 : Int) ^ q.toNat = 1 := fun h => hq0 (p1.1 h)
              refine ⟨indexedH 5 (8 * x + i) (2 ^ q.toNat), ?_, rfl, ?_, ?_, rfl, by simp [indexedH], fun _ => trivial, by simp [indexedH], hcd⟩
              · simp [canonF, noneF, stackF, headsF, hx4, hp]
              · simp [indexedH, sibF, noneF, p2, e1, e3]; omega
              · simp [indexedH, e2, e5]
        · have hbn : 0 ≤ 8 * b + l ∧ 8 * b + l < 16 := by omega
          obtain ⟨g1, g2⟩ := wide_low hbn
          have g3 : (8 * b + l) % 8 = l := by omega
          have g5 : (8 * b + l) / 8 = b := by omega
          simp only [hbase, if_false] at hcd ⊢
          by_cases hj : i + 8 * x = 4
          · have e4 : i = 4 := by omega
            have ex : x = 0 := by omega
            have e0 : q = 0 := by have := hno.1 hj; simpa using this
            subst e4; subst ex; subst e0
            simp only [hj, if_true] at hcd ⊢
            refine ⟨basedH 5 (8 * b + l) 0 0 0, ?_, rfl, ?_, by simp [basedH, hz], by simp [basedH, g2, g5], by simp [basedH], by simp [basedH], fun _ => by simp [basedH, g1, g3]; exact fun h => fun h' => hbase ⟨h, h'⟩, hcd⟩
            · simp [canonF, stackF, headsF, noneF]
            · simp [basedH, sibF, noneF, g1, g3]; omega
          · have hix : 0 ≤ 8 * x + i ∧ 8 * x + i < 16 := by omega
            have hx4 : ¬ 8 * x + i = 4 := by omega
            obtain ⟨e1, e2⟩ := wide_low hix
            have e3 : (8 * x + i) % 8 = i := by omega
            have e5 : (8 * x + i) / 8 = x := by omega
            simp only [hj, if_false] at hcd ⊢
            refine ⟨basedH 5 (8 * b + l) 5 (8 * x + i) (2 ^ q.toNat), ?_, rfl, ?_, by simp [basedH, e2, e5], by simp [basedH, g2, g5], by simp [basedH], by simp [basedH], fun _ => by simp [basedH, g1, g3]; exact fun h => fun h' => hbase ⟨h, h'⟩, hcd⟩
            · simp [canonF, noneF, stackF, headsF, hx4]
            · simp [basedH, sibF, noneF, p2, e1, e3, g1, g3]; omega
  · simp only [regsF, if_neg h4] at hR
    split at hR
    · simp at hR
    · rename_i hno
      simp only [not_or, not_and] at hno
      have ex : x = 0 := by omega
      subst ex
      split at hR
      · rename_i h5
        obtain ⟨rfl, rfl⟩ := h5
        have eb : b = 0 := by have := hno.2 rfl rfl; omega
        subst eb
        simp only [Prod.mk.injEq, true_and] at hR
        obtain ⟨rfl, rfl⟩ := hR
        exact ⟨⟨5, [], 0, 0, 0, true⟩, by simp [canonF, stackF, headsF], rfl, by simp, rfl, rfl, by simp, fun _ => rfl, by simp, hcd⟩
      · rename_i h5
        simp only [Prod.mk.injEq, true_and] at hR
        obtain ⟨rfl, rfl⟩ := hR
        have hbn : 0 ≤ 8 * b + rm ∧ 8 * b + rm < 16 := by omega
        obtain ⟨g1, g2⟩ := wide_low hbn
        have g3 : (8 * b + rm) % 8 = rm := by omega
        have g5 : (8 * b + rm) / 8 = b := by omega
        refine ⟨⟨lowF 5 (8 * b + rm), [], 0, highF 5 (8 * b + rm), lowF 5 (8 * b + rm), false⟩, ?_, by simp [g1, g3], by simp, rfl, by simp [g2, g5], by simp, by simp, fun _ => by simp [g1, g3]; exact fun h => fun h' => h5 ⟨h, h'⟩, hcd⟩
        simp [canonF, stackF, headsF, noneF, g1, g3, h4]
theorem shape_ok {m : Pl} (hm : Shape m) (hd : D32 m.d) (hz : m.z = 0) : checkF m = 0 ∧ canonF m = m := by
  obtain ⟨bc, bn, ic, ix, s, d, z⟩ := m
  unfold Shape at hm
  unfold D32 at hd
  simp only at hm hd hz
  subst hz
  have hD : ¬ (d < -2147483648 ∨ 2147483647 < d) := by omega
  unfold checkF
  simp only [if_neg hD]
  rcases hm with ⟨rfl, rfl, rfl, rfl, rfl⟩ | ⟨rfl, rfl, rfl, rfl, rfl⟩ | ⟨rfl, rfl, rfl, ⟨h0, h1, h4⟩, hs⟩ | ⟨rfl, hb, rfl, ⟨h0, h1, h4⟩, hs⟩ | ⟨rfl, hb, rfl, rfl, rfl⟩
  · simp [sizedF, basedF, indexedF, canonF, stackF, noneF]
  · simp [sizedF, basedF, indexedF, canonF, stackF, noneF]
  · have n1 : ¬ s = 1 := by omega
    simp [sizedF, basedF, indexedF, canonF, stackF, noneF, wideF, scaleF, h4, n1, h0, h1]
    omega
  · have n2 : s = 1 ∨ s = 2 ∨ s = 4 ∨ s = 8 := hs
    simp [sizedF, basedF, indexedF, canonF, stackF, noneF, wideF, scaleF, h4, h0, h1, hb.1, hb.2, or_assoc, n2]
  · simp [sizedF, basedF, indexedF, canonF, stackF, noneF, wideF, hb.1, hb.2]
/-- WHAT IS READ IS LAID SO. -/
theorem found_plain {x b f r : Int} {m : Pl} {n : Nat} {l : List Int} (hb : isBytes l) (hx : 0 ≤ x ∧ x ≤ 1) (hbb : 0 ≤ b ∧ b ≤ 1) (hR : readF x b l = (0, ⟨f, r, m, n⟩)) :
    (0 ≤ f ∧ f ≤ 7) ∧ 1 ≤ n ∧ n ≤ l.length ∧ m.z = 0 ∧ ((0 ≤ r ∧ m = zeroM ∧ validF 6 r = true ∧ regWay f 6 r = ⟨l.take n, x, b⟩) ∨ (r = -1 ∧ checkF m = 0 ∧ canonF m = m ∧ ⟨l.take n, x, b⟩ ∈ waysF f m)) := by
  cases l with
  | nil => simp [readF] at hR
  | cons c rest =>
    have hc := hb c List.mem_cons_self
    have hrb : isBytes rest := fun z hz => hb z (List.mem_cons_of_mem _ hz)
    simp only [readF] at hR
    by_cases h3 : c / 64 = 3
    · rw [if_pos h3] at hR
      by_cases h1 : x = 1
      · rw [if_pos h1] at hR; simp at hR
      · rw [if_neg h1] at hR
        have ex : x = 0 := by omega
        subst ex
        simp only [Prod.mk.injEq, true_and, Sn.mk.injEq] at hR
        obtain ⟨rfl, rfl, rfl, rfl⟩ := hR
        have hv : validF 6 (8 * b + c % 8) = true := by simp [validF, spanF]; omega
        have e1 : lowF 6 (8 * b + c % 8) = c % 8 := by simp only [lowF, hv, if_true]; omega
        have e2 : highF 6 (8 * b + c % 8) = b := by simp only [highF, hv, if_true]; omega
        refine ⟨by omega, by omega, by simp, rfl, .inl ⟨by omega, rfl, hv, ?_⟩⟩
        simp only [regWay, e1, e2, List.take_succ_cons, List.take_zero]
        rw [show 192 + 8 * (c / 8 % 8) + c % 8 = c by omega]
    · rw [if_neg h3] at hR
      generalize hP : placeF (c / 64) (c % 8) x b rest = P at hR
      by_cases h0 : P.1 = 0
      · rw [if_pos h0] at hR
        simp only [Prod.mk.injEq, true_and, Sn.mk.injEq] at hR
        obtain ⟨rfl, rfl, rfl, rfl⟩ := hR
        unfold placeF at hP
        generalize hG : regsF (c / 64) (c % 8) x b rest = R at hP
        obtain ⟨e, p, s⟩ := R
        simp only at hP
        by_cases he : e = 0
        · subst he
          rw [if_pos rfl] at hP
          have hv := width_all (if p.bc = 5 then c / 64 else 2)
          generalize hvv : widthF (if p.bc = 5 then c / 64 else 2) = v at hP hv
          by_cases hl : rest.length < s + v
          · rw [if_pos hl] at hP
            subst hP
            simp at h0
          · rw [if_neg hl] at hP
            subst hP
            simp only
            obtain ⟨d0, z0, hs, _, hck⟩ := regs_ok hrb hx hbb (by omega) hG
            obtain ⟨t0, t1, t2⟩ := got_tail hrb s v hv (by omega)
            generalize hd : dispN rest s v = d at t0 t1 t2 ⊢
            have hD : D32 d := by
              by_cases hv0 : v = 0
              · rw [t0 hv0]; unfold D32; omega
              · rw [← hd]; unfold dispN; rw [if_neg hv0]; exact getN_d32 _ _ _ (by omega) (by omega)
            obtain ⟨h, hh, hrm, hsib, hhx, hhb, hal, ha0, hn0, hcd⟩ := regs_found hrb hx hbb (by omega) hG d
            obtain ⟨hsh, hsd, _, hsz⟩ := canon_shape (hck d hD)
            have hz : (canonF { p with d := d }).z = 0 := hsz.trans z0
            obtain ⟨k1, k2⟩ := shape_ok hsh (by rw [hcd]; exact hD) hz
            refine ⟨by omega, by omega, by simp; omega, hz, .inr ⟨trivial, k1, k2, ?_⟩⟩
            have hw : wayF (c / 8 % 8) h (c / 64, (rest.drop s).take v) = ⟨(c :: rest).take (1 + (s + v)), x, b⟩ := by
              simp only [wayF, hrm, hsib, hhx, hhb]
              rw [show 64 * (c / 64) + 8 * (c / 8 % 8) + c % 8 = c by omega, show 1 + (s + v) = (s + v) + 1 by omega, List.take_succ_cons, List.take_add]
            rw [← hw]
            refine way_mem hh ?_
            rw [hcd]
            cases hha : h.alone
            · have h5 : p.bc = 5 := by
                by_cases h5 : p.bc = 5
                · exact h5
                · rw [hal.2 h5] at hha; cases hha
              rw [if_pos h5] at hvv
              subst hvv
              exact tail_mem (by omega) (hn0 hha) t0 t1 t2
            · have h5 := hal.1 hha
              rw [if_neg h5] at hvv
              subst hvv
              have hm0 := ha0 hha
              rw [hm0]
              unfold tailsF
              simp only [if_true]
              rw [← t2]
              exact List.mem_singleton.2 rfl
        · rw [if_neg he] at hP
          subst hP
          exact absurd h0 he
      · rw [if_neg h0] at hR
        simp at hR
        exact absurd hR.1 h0
end Go.Proofs.YtiiepdgpnnjpiaaDoor
