/-
  What bytes tell, plainly: registers that were read make a place that is right.
  The program's reader: a place, in one.
-/
import Derived.Test.YtiiepdgpnnjpiaaDoorHeadsAll
import Derived.Test.YtiiepdgpnnjpiaaDoorRdPlace
section
namespace Go.Proofs.YtiiepdgpnnjpiaaDoor
open Go.RowKit
set_option maxRecDepth 100000

theorem pow_scale {q : Int} (hq : 0 ≤ q ∧ q ≤ 3) : (2 : Int) ^ q.toNat = 1 ∨ (2 : Int) ^ q.toNat = 2 ∨ (2 : Int) ^ q.toNat = 4 ∨ (2 : Int) ^ q.toNat = 8 := by
  have : q = 0 ∨ q = 1 ∨ q = 2 ∨ q = 3 := by omega
  rcases this with rfl | rfl | rfl | rfl <;> decide
/-- Registers that were read: the place is right with any displacement. -/
theorem regs_ok {mod rm x b : Int} {l : List Int} {p : Pl} {n : Nat} (hl : isBytes l) (hx : 0 ≤ x ∧ x ≤ 1) (hb : 0 ≤ b ∧ b ≤ 1) (hr : 0 ≤ rm ∧ rm ≤ 7) (h : regsF mod rm x b l = (0, p, n)) :
    p.d = 0 ∧ p.z = 0 ∧ n ≤ l.length ∧ I64 p.s ∧ ∀ d, D32 d → checkF { p with d := d } = 0 := by
  have key : ∀ q : Pl, q.d = 0 → q.z = 0 → basedF q.bc q.bn = true → (q.ic = 0 ∧ q.ix = 0 ∧ q.s = 0 ∨ q.ic = 5 ∧ (0 ≤ q.ix ∧ q.ix < 16) ∧ ¬ q.ix = 4 ∧ (q.s = 1 ∨ q.s = 2 ∨ q.s = 4 ∨ q.s = 8) ∧ ¬ q.bc = 8) → q.d = 0 ∧ q.z = 0 ∧ I64 q.s ∧ ∀ d, D32 d → checkF { q with d := d } = 0 := by
    intro q h1 h2 h3 h4
    refine ⟨h1, h2, ?_, ?_⟩
    · unfold I64; rcases h4 with ⟨_, _, h⟩ | ⟨_, _, _, h, _⟩ <;> omega
    · intro d hd
      unfold D32 at hd
      unfold checkF
      rw [if_neg (by simp only; omega)]
      have hi : indexedF { q with d := d } = true := by
        unfold indexedF
        simp only
        rcases h4 with ⟨e1, e2, e3⟩ | ⟨e1, e2, e3, e4, e5⟩
        · simp [e1, e2, e3, noneF]
        · have c1 : noneF q.ic q.ix = false := by simp [noneF, e1]
          have c2 : scaleF q.s = true := by simp [scaleF]; omega
          have c3 : wideF q.ic q.ix = true := by simp [wideF, e1]; omega
          have c4 : stackF q.ic q.ix = false := by simp [stackF, e3]
          have c5 : (q.bc == 8) = false := by simp [e5]
          simp [c1, c2, c3, c4, c5]
      rw [h2] at hi
      simp [hi, h2, h3, sizedF]
  unfold regsF at h
  by_cases h4 : rm = 4
  · rw [if_pos h4] at h
    cases l with
    | nil => simp at h
    | cons s t =>
      simp only at h
      have hs := hl s List.mem_cons_self
      split at h
      · simp at h
      · rename_i hno
        simp only [Prod.mk.injEq, true_and] at h
        obtain ⟨rfl, rfl⟩ := h
        have hq : 0 ≤ s / 64 ∧ s / 64 ≤ 3 := by omega
        have hp := pow_scale hq
        have hi : 0 ≤ s / 8 % 8 ∧ s / 8 % 8 ≤ 7 := by omega
        have hb8 : 0 ≤ s % 8 ∧ s % 8 ≤ 7 := by omega
        generalize hB : (if mod = 0 ∧ s % 8 = 5 then (0 : Int) else 5) = B0
        generalize hN : (if mod = 0 ∧ s % 8 = 5 then (0 : Int) else 8 * b + s % 8) = N0
        have hBN : B0 = 0 ∧ N0 = 0 ∨ B0 = 5 ∧ 0 ≤ N0 ∧ N0 < 16 := by
          by_cases hc : mod = 0 ∧ s % 8 = 5
          · rw [if_pos hc] at hB hN; exact .inl ⟨hB.symm, hN.symm⟩
          · rw [if_neg hc] at hB hN; exact .inr ⟨hB.symm, by omega, by omega⟩
        have hbas : basedF B0 N0 = true := by
          rcases hBN with ⟨rfl, rfl⟩ | ⟨rfl, h0, h1⟩
          · rfl
          · simp [basedF, wideF, noneF]; omega
        have := key ⟨B0, N0, if s / 8 % 8 + 8 * x = 4 then 0 else 5, if s / 8 % 8 + 8 * x = 4 then 0 else 8 * x + s / 8 % 8, if s / 8 % 8 + 8 * x = 4 then 0 else 2 ^ (s / 64).toNat, 0, 0⟩ rfl rfl hbas (by
          by_cases hc : s / 8 % 8 + 8 * x = 4
          · simp [hc]
          · right
            simp only [hc, if_false]
            refine ⟨trivial, ⟨by omega, by omega⟩, by omega, hp, ?_⟩
            rcases hBN with ⟨e, _⟩ | ⟨e, _⟩ <;> rw [e] <;> decide)
        exact ⟨this.1, this.2.1, by simp, this.2.2.1, this.2.2.2⟩
  · rw [if_neg h4] at h
    split at h
    · simp at h
    · split at h
      · simp only [Prod.mk.injEq, true_and] at h
        obtain ⟨rfl, rfl⟩ := h
        have := key ⟨8, 0, 0, 0, 0, 0, 0⟩ rfl rfl rfl (.inl ⟨rfl, rfl, rfl⟩)
        exact ⟨this.1, this.2.1, by simp, this.2.2.1, this.2.2.2⟩
      · simp only [Prod.mk.injEq, true_and] at h
        obtain ⟨rfl, rfl⟩ := h
        have := key ⟨5, 8 * b + rm, 0, 0, 0, 0, 0⟩ rfl rfl (by simp [basedF, wideF, noneF]; omega) (.inl ⟨rfl, rfl, rfl⟩)
        exact ⟨this.1, this.2.1, by simp, this.2.2.1, this.2.2.2⟩
theorem numAt_drop (ys : List Int) (a k s : Nat) : numAt (ys.drop a) k s = numAt ys (a + k) s := by unfold numAt; rw [List.drop_drop]
theorem getN_drop (ys : List Int) (a k s : Nat) (sg : Bool) (hs : sizeOk s = true) (h : a + k + s ≤ ys.length) : getN (ys.drop a) k s sg = getN ys ((a + k : Nat) : Int) s sg := by
  rw [getN_ok (ys.drop a) k s sg hs (by rw [List.length_drop]; omega), getN_ok ys (a + k) s sg hs h, numAt_drop]
theorem getN_d32 (ys : List Int) (a s : Nat) (hs : s = 1 ∨ s = 4) (h : a + s ≤ ys.length) : D32 (getN ys a s true) := by
  have hso : sizeOk (s : Int) = true := by rcases hs with rfl | rfl <;> rfl
  rw [getN_ok ys a s true hso h]
  simp only [if_true]
  unfold D32
  rcases hs with rfl | rfl
  · rw [sgn_ok (by omega)]
    have := @sgn_bound (numAt ys a 1) 128 (by omega)
    have e : (2 : Int) ^ ((8 * ((1 : Nat) : Int)).toNat - 1) = 128 := by decide
    rw [e]
    omega
  · rw [sgn_ok (by omega)]
    have := @sgn_bound (numAt ys a 4) 2147483648 (by omega)
    have e : (2 : Int) ^ ((8 * ((4 : Nat) : Int)).toNat - 1) = 2147483648 := by decide
    rw [e]
    omega
end Go.Proofs.YtiiepdgpnnjpiaaDoor
end
section
namespace Go.Proofs.YtiiepdgpnnjpiaaDoor
open Go.RowKit
set_option maxRecDepth 100000

/-- What the reader answers of a place. -/
def PlaceAns (p : Int × Pl × Nat) (g : Nat) (bs : List Int) (sz a : Nat) (w : World) (e : Ending) (w' : World) : Prop :=
  e = .returned (.tuple #[MV p.2.1, .int .i64 p.1]) ∧ w.grownBy w' (some g) ∧ (p.1 = 0 → CurAt w' g bs sz ((a + p.2.2 : Nat) : Int) 0)
theorem rdplace_any (g : Nat) (bs : List Int) (sz a : Nat) (mod rm x b : Int) (hm : mod = 0 ∨ mod = 1 ∨ mod = 2) (hr : 0 ≤ rm ∧ rm ≤ 7) (hx : 0 ≤ x ∧ x ≤ 1) (hb : 0 ≤ b ∧ b ≤ 1) (w : World) (hc : CurAt w g bs sz a 0) (hsz : sz ≤ 15) (ha : a ≤ sz) :
    Calls Tryd.prog 61 #[.agg #[.pointer (some ⟨g, 0, none⟩), .int .i64 x, .int .i64 b], .int .i64 mod, .int .i64 rm] w (PlaceAns (placeF mod rm x b ((bs.take sz).drop a)) g bs sz a w) := by
  have hby : isBytes ((bs.take sz).drop a) := (hc.2.1.take sz).drop a
  have hlen : (bs.take sz).length = sz := by rw [List.length_take, hc.1]; omega
  have hll : ((bs.take sz).drop a).length = sz - a := by rw [List.length_drop, hlen]
  unfold placeF
  generalize hR : regsF mod rm x b ((bs.take sz).drop a) = R
  obtain ⟨er, ⟨p0, p1, p2, p3, p4, p5, p6⟩, n⟩ := R
  by_cases he : er = 0
  · subst he
    obtain ⟨e1, e2, e3, e4, e5⟩ := regs_ok hby hx hb hr hR
    simp only at e1 e2 e4 e5
    subst e1; subst e2
    rw [hll] at e3
    have hn : a + n ≤ sz := by omega
    simp only [if_true]
    -- one way
    have way : ∀ s : Nat, (s = 0 ∨ s = 1 ∨ s = 4) → widthF (if p0 = 5 then mod else 2) = s →
        (∀ dv : Int, (s = 0 → dv = 0) → (¬ s = 0 → getN (bs.take sz) ((a + n : Nat) : Int) s true = dv) → a + n + s ≤ sz → ∀ y0 y1 y2 y3 y4 y5 y6 : Int, outF ⟨p0, p1, p2, p3, p4, dv, 0⟩ = ⟨y0, y1, y2, y3, y4, y5, y6⟩ → checkF ⟨p0, p1, p2, p3, p4, dv, 0⟩ = 0 →
          Calls Tryd.prog 61 #[.agg #[.pointer (some ⟨g, 0, none⟩), .int .i64 x, .int .i64 b], .int .i64 mod, .int .i64 rm] w fun e w' => e = .returned (.tuple #[.agg #[.int .i64 y0, .int .i64 y1, .int .i64 y2, .int .i64 y3, .int .i64 y4, .int .i64 y5, .int .i64 y6], .int .i64 0]) ∧ Turned w w' g bs sz ((a + n + s : Nat) : Int) 0) →
        (sz < a + n + s → Calls Tryd.prog 61 #[.agg #[.pointer (some ⟨g, 0, none⟩), .int .i64 x, .int .i64 b], .int .i64 mod, .int .i64 rm] w fun e w' => e = .returned (.tuple #[.agg #[.int .i64 0, .int .i64 0, .int .i64 0, .int .i64 0, .int .i64 0, .int .i64 0, .int .i64 0], .int .i64 9]) ∧ w.grownBy w' (some g)) →
        Calls Tryd.prog 61 #[.agg #[.pointer (some ⟨g, 0, none⟩), .int .i64 x, .int .i64 b], .int .i64 mod, .int .i64 rm] w (PlaceAns (if ((bs.take sz).drop a).length < n + widthF (if p0 = 5 then mod else 2) then (9, zeroM, 0) else (0, canonF ⟨p0, p1, p2, p3, p4, dispN ((bs.take sz).drop a) n (widthF (if p0 = 5 then mod else 2)), 0⟩, n + widthF (if p0 = 5 then mod else 2))) g bs sz a w) := by
      intro s hs hw ok stop
      rw [hw, hll]
      by_cases hl : a + n + s ≤ sz
      · rw [if_neg (by omega)]
        obtain ⟨dv, hdv⟩ : ∃ dv, dispN ((bs.take sz).drop a) n s = dv := ⟨_, rfl⟩
        have hd0 : s = 0 → dv = 0 := by intro h; rw [← hdv]; simp [dispN, h]
        have hd1 : ¬ s = 0 → getN (bs.take sz) ((a + n : Nat) : Int) s true = dv := by
          intro h
          have hso : sizeOk (s : Int) = true := by rcases hs with rfl | rfl | rfl <;> first | exact absurd rfl h | rfl
          rw [← hdv]
          unfold dispN
          rw [if_neg h]
          exact (getN_drop _ a n s true hso (by omega)).symm
        have hD : D32 dv := by
          by_cases h : s = 0
          · rw [hd0 h]; unfold D32; omega
          · rw [← hd1 h]; exact getN_d32 _ _ _ (by omega) (by omega)
        rw [hdv]
        have hk := e5 dv hD
        obtain ⟨⟨y0, y1, y2, y3, y4, y5, y6⟩, hy⟩ : ∃ y, canonF ⟨p0, p1, p2, p3, p4, dv, 0⟩ = y := ⟨_, rfl⟩
        rw [hy]
        refine (ok dv hd0 hd1 hl y0 y1 y2 y3 y4 y5 y6 (by unfold outF; rw [if_pos hk]; exact hy) hk).mono ?_
        rintro e w' ⟨h1, h2, h3⟩
        exact ⟨h1, h2, fun _ => by simp only; rw [← Nat.add_assoc]; exact h3⟩
      · rw [if_pos (by omega)]
        refine (stop (by omega)).mono ?_
        rintro e w' ⟨h1, h2⟩
        exact ⟨h1, h2, fun h => absurd h (by decide)⟩
    by_cases h5 : p0 = 5
    · subst h5
      simp only [if_true] at way ⊢
      rcases hm with rfl | rfl | rfl
      · refine way 0 (.inl rfl) rfl ?_ (fun h => absurd h (by omega))
        intro dv h0 _ _ y0 y1 y2 y3 y4 y5 y6 hX hK
        have := h0 rfl
        subst this
        exact place_0s g bs sz a n rm x b p1 p2 p3 p4 0 0 y0 y1 y2 y3 y4 y5 y6 hr hx hb (hid hR) (hid hX) (hid hK) (hid e4) w hc hsz ha
      · refine way 1 (.inr (.inl rfl)) rfl ?_ (fun h => place_1s_stop g bs sz a n rm x b p1 p2 p3 p4 0 0 hr hx hb (hid hR) hn h w hc hsz ha)
        intro dv _ h1 hl y0 y1 y2 y3 y4 y5 y6 hX hK
        exact place_1s g bs sz a n rm x b p1 p2 p3 p4 0 0 y0 y1 y2 y3 y4 y5 y6 dv hr hx hb (hid hR) (hid (h1 (by decide))) hl (hid hX) (hid hK) (hid e4) w hc hsz ha
      · refine way 4 (.inr (.inr rfl)) rfl ?_ (fun h => place_2s_stop g bs sz a n rm x b p1 p2 p3 p4 0 0 hr hx hb (hid hR) hn h w hc hsz ha)
        intro dv _ h1 hl y0 y1 y2 y3 y4 y5 y6 hX hK
        exact place_2s g bs sz a n rm x b p1 p2 p3 p4 0 0 y0 y1 y2 y3 y4 y5 y6 dv hr hx hb (hid hR) (hid (h1 (by decide))) hl (hid hX) (hid hK) (hid e4) w hc hsz ha
    · rw [if_neg h5] at way ⊢
      refine way 4 (.inr (.inr rfl)) rfl ?_ (fun h => place_2o_stop g bs sz a n mod rm x b p0 p1 p2 p3 p4 0 0 hr hx hb (hid hR) h5 hn h w hc hsz ha)
      intro dv _ h1 hl y0 y1 y2 y3 y4 y5 y6 hX hK
      exact place_2o g bs sz a n mod rm x b p0 p1 p2 p3 p4 0 0 y0 y1 y2 y3 y4 y5 y6 dv hr hx hb (hid hR) h5 (hid (h1 (by decide))) hl (hid hX) (hid hK) (hid e4) w hc hsz ha
  · rw [if_neg he]
    refine (place_err g bs sz a n mod rm x b p0 p1 p2 p3 p4 p5 p6 er hr hx hb (hid hR) he w hc hsz ha).mono ?_
    rintro e w' ⟨h1, h2⟩
    exact ⟨h1, h2, fun h => absurd h he⟩
end Go.Proofs.YtiiepdgpnnjpiaaDoor
end
