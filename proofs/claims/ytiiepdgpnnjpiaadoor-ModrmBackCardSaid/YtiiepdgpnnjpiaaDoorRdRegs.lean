/-
  The program's reader: SIB in one theorem; the registers of a place.
-/
import Derived.Test.YtiiepdgpnnjpiaaDoorRdSib
namespace Go.Proofs.YtiiepdgpnnjpiaaDoor
open Go.RowKit
set_option maxRecDepth 100000

/-- What the reader answers of registers: the error, the place; the cursor behind it. -/
def RegsAns (r : Int × Pl × Nat) (g : Nat) (bs : List Int) (sz a : Nat) (w : World) (e : Ending) (w' : World) : Prop :=
  e = .returned (.tuple #[MV r.2.1, .int .i64 r.1]) ∧ Turned w w' g bs sz ((a + r.2.2 : Nat) : Int) (if r.1 = 9 then 9 else 0)
theorem regsAns_mk {er p0 p1 p2 p3 p4 p5 p6 : Int} {n g : Nat} {bs : List Int} {sz a : Nat} {w w' : World} {ec an : Int} (he : Hid ((if er = 9 then (9 : Int) else 0) = ec ∧ ((a + n : Nat) : Int) = an)) (h : Turned w w' g bs sz an ec) :
    RegsAns (er, ⟨p0, p1, p2, p3, p4, p5, p6⟩, n) g bs sz a w (.returned (.tuple #[.agg #[.int .i64 p0, .int .i64 p1, .int .i64 p2, .int .i64 p3, .int .i64 p4, .int .i64 p5, .int .i64 p6], .int .i64 er])) w' := ⟨rfl, by rw [he.out.1, he.out.2]; exact h⟩
theorem drop_one {bs : List Int} {sz a : Nat} (h : isBytes bs) (h1 : sz ≤ bs.length) (h2 : a < sz) : ∃ t, (bs.take sz).drop a = getN (bs.take sz) a 1 false :: t := by
  have hl : a < (bs.take sz).length := by rw [List.length_take]; omega
  obtain ⟨e, _⟩ := getN_one (h.take sz) a hl
  rw [e, List.drop_eq_getElem_cons hl, List.getElem?_eq_getElem hl]
  exact ⟨_, rfl⟩
theorem msibr_any (g : Nat) (bs : List Int) (sz a : Nat) (x b mod : Int) (hx : 0 ≤ x ∧ x ≤ 1) (hb : 0 ≤ b ∧ b ≤ 1) (w : World) (hc : CurAt w g bs sz a 0) (hsz : sz ≤ 15) (ha : a ≤ sz) :
    Calls Tryd.prog 88 #[.agg #[.pointer (some ⟨g, 0, none⟩), .int .i64 x, .int .i64 b], .int .i64 mod] w (RegsAns (regsF mod 4 x b ((bs.take sz).drop a)) g bs sz a w) := by
  have hl : sz ≤ bs.length := by rw [hc.1]; exact hsz
  rcases Nat.lt_or_ge a sz with has | has
  · obtain ⟨t, ht⟩ := drop_one hc.2.1 hl has
    have hr := getN_byte hc.2.1 hl has
    rw [ht]
    generalize hs : getN (bs.take sz) a 1 false = s at hr ⊢
    obtain ⟨i, hi⟩ : ∃ i, s / 8 % 8 = i := ⟨_, rfl⟩
    obtain ⟨q, hq⟩ : ∃ q, s / 64 = q := ⟨_, rfl⟩
    obtain ⟨l, hl'⟩ : ∃ l, s % 8 = l := ⟨_, rfl⟩
    have ri : 0 ≤ i ∧ i ≤ 7 := by omega
    have rq : 0 ≤ q ∧ q ≤ 3 := by omega
    have rl : 0 ≤ l ∧ l ≤ 7 := by omega
    have H : Hid (getN (bs.take sz) a 1 false = s ∧ s / 64 = q ∧ s / 8 % 8 = i ∧ s % 8 = l) := hid ⟨hs, hq, hi, hl'⟩
    have ea : ((a + 1 : Nat) : Int) = (a : Int) + 1 := by omega
    have fin : ∀ (p : Pl) (er : Int) (e : Ending) (w' : World), (er = 0 ∨ er = 4) → regsF mod 4 x b (s :: t) = (er, p, 1) → e = .returned (.tuple #[MV p, .int .i64 er]) ∧ Turned w w' g bs sz ((a : Int) + 1) 0 → RegsAns (regsF mod 4 x b (s :: t)) g bs sz a w e w' := by
      intro p er e w' her h1 h2
      unfold RegsAns
      rw [h1, if_neg (by simp only; omega)]
      simp only [ea]
      exact h2
    have hF : regsF mod 4 x b (s :: t) = if i + 8 * x = 4 ∧ ¬ q = 0 ∨ mod = 0 ∧ l = 5 ∧ b = 1 then (4, zeroM, 1)
      else (0, ⟨if mod = 0 ∧ l = 5 then 0 else 5, if mod = 0 ∧ l = 5 then 0 else 8 * b + l, if i + 8 * x = 4 then 0 else 5, if i + 8 * x = 4 then 0 else 8 * x + i, if i + 8 * x = 4 then 0 else 2 ^ q.toNat, 0, 0⟩, 1) := by
      simp only [regsF, if_true, hi, hq, hl']
    clear hs
    by_cases hix : i + 8 * x = 4
    · have e4 : i = 4 := by omega
      have ex : x = 0 := by omega
      subst e4; subst ex
      by_cases hq0 : q = 0
      · subst hq0
        by_cases h5 : l = 5
        · subst h5
          by_cases hm : mod = 0
          · subst hm
            by_cases h1 : b = 1
            · subst h1
              exact (sib_n_1 g bs sz a s H w hc hsz has).mono fun e w' h => fin zeroM 4 e w' (.inr rfl) (by rw [hF]; simp) h
            · have e0 : b = 0 := by omega
              subst e0
              exact (sib_n_0 g bs sz a s H w hc hsz has).mono fun e w' h => fin zeroM 0 e w' (.inl rfl) (by rw [hF]; simp [zeroM]) h
          · exact (sib_n_b g bs sz a b mod s hb hm H w hc hsz has).mono fun e w' h => fin ⟨5, 8 * b + 5, 0, 0, 0, 0, 0⟩ 0 e w' (.inl rfl) (by rw [hF]; simp [hm]) h
        · exact (sib_n_a g bs sz a b mod l s hb rl h5 H w hc hsz has).mono fun e w' h => fin ⟨5, 8 * b + l, 0, 0, 0, 0, 0⟩ 0 e w' (.inl rfl) (by rw [hF]; simp [h5]) h
      · exact (sib_z_n g bs sz a b mod q l s hq0 H w hc hsz has).mono fun e w' h => fin zeroM 4 e w' (.inr rfl) (by rw [hF]; simp [hq0]) h
    · have hcase : ¬ i = 4 ∨ i = 4 ∧ x = 1 := by omega
      by_cases h5 : l = 5
      · subst h5
        by_cases hm : mod = 0
        · subst hm
          by_cases h1 : b = 1
          · subst h1
            rcases hcase with h4 | ⟨rfl, rfl⟩
            · exact (sib_a_1 g bs sz a x i q s hx ri rq h4 H w hc hsz has).mono fun e w' h => fin zeroM 4 e w' (.inr rfl) (by rw [hF]; simp) h
            · exact (sib_b_1 g bs sz a q s rq H w hc hsz has).mono fun e w' h => fin zeroM 4 e w' (.inr rfl) (by rw [hF]; simp) h
          · have e0 : b = 0 := by omega
            subst e0
            rcases hcase with h4 | ⟨rfl, rfl⟩
            · exact (sib_a_0 g bs sz a x i q s hx ri rq h4 H w hc hsz has).mono fun e w' h => fin ⟨0, 0, 5, 8 * x + i, 2 ^ q.toNat, 0, 0⟩ 0 e w' (.inl rfl) (by rw [hF]; simp [hix]) h
            · exact (sib_b_0 g bs sz a q s rq H w hc hsz has).mono fun e w' h => fin ⟨0, 0, 5, 12, 2 ^ q.toNat, 0, 0⟩ 0 e w' (.inl rfl) (by rw [hF]; simp) h
        · rcases hcase with h4 | ⟨rfl, rfl⟩
          · exact (sib_a_b g bs sz a x b mod i q s hx hb ri rq h4 hm H w hc hsz has).mono fun e w' h => fin ⟨5, 8 * b + 5, 5, 8 * x + i, 2 ^ q.toNat, 0, 0⟩ 0 e w' (.inl rfl) (by rw [hF]; simp [hix, hm]) h
          · exact (sib_b_b g bs sz a b mod q s hb rq hm H w hc hsz has).mono fun e w' h => fin ⟨5, 8 * b + 5, 5, 12, 2 ^ q.toNat, 0, 0⟩ 0 e w' (.inl rfl) (by rw [hF]; simp [hm]) h
      · rcases hcase with h4 | ⟨rfl, rfl⟩
        · exact (sib_a_a g bs sz a x b mod i q l s hx hb ri rq rl h4 h5 H w hc hsz has).mono fun e w' h => fin ⟨5, 8 * b + l, 5, 8 * x + i, 2 ^ q.toNat, 0, 0⟩ 0 e w' (.inl rfl) (by rw [hF]; simp [hix, h5]) h
        · exact (sib_b_a g bs sz a b mod q l s hb rq rl h5 H w hc hsz has).mono fun e w' h => fin ⟨5, 8 * b + l, 5, 12, 2 ^ q.toNat, 0, 0⟩ 0 e w' (.inl rfl) (by rw [hF]; simp [h5]) h
  · have e : a = sz := by omega
    subst e
    have hd : (bs.take a).drop a = [] := by rw [List.drop_eq_nil_iff, List.length_take]; omega
    rw [hd]
    refine (sib_stop g bs a x b mod w hc hsz).mono fun e w' h => ?_
    simpa [RegsAns, regsF, zeroM, MV] using h
set_option maxHeartbeats 1000000 in
theorem regs_4_0 (g : Nat) (bs : List Int) (sz a : Nat) (x b : Int) (hx : 0 ≤ x ∧ x ≤ 1) (hb : 0 ≤ b ∧ b ≤ 1)  (w : World) (hc : CurAt w g bs sz a 0) (hsz : sz ≤ 15) (ha : a ≤ sz) :
    Calls Tryd.prog 76 #[.agg #[.pointer (some ⟨g, 0, none⟩), .int .i64 x, .int .i64 b], .int .i64 0, .int .i64 4] w (RegsAns (regsF 0 4 x b ((bs.take sz).drop a)) g bs sz a w) := by
  have HC := hid hc
  have HG := hid hc.lt
  clear hc
  have HA := hid ha
  generalize hR : regsF 0 4 x b ((bs.take sz).drop a) = R
  have HR := hid hR
  clear hR
  obtain ⟨er, ⟨p0, p1, p2, p3, p4, p5, p6⟩, n⟩ := R
  have HO := hid (((Own.nil w).alloc w.heap.size #[.pointer (some ⟨g, 0, none⟩), .int .i64 x, .int .i64 b] 70 rfl).alloc (w.heap.size + 1) #[.int .i64 0, .int .i64 0, .int .i64 0, .int .i64 0, .int .i64 0, .int .i64 0, .int .i64 0] 25 (by simp))
  go_enter Tryd.func76, Tryd.ntmps76
  go_wp2_with fail
  have HC1 := hid (HC.out.below HO.out.below HG.out)
  refine (msibr_any g bs sz a x b 0 hx hb _ HC1.out hsz HA.out).mono ?_
  rw [HR.out]
  rintro e wb ⟨rfl, hg1, hc1⟩
  unfold MV
  simp only at hg1 hc1
  obtain ⟨ec, hec⟩ : ∃ ec, (if er = 9 then (9 : Int) else 0) = ec := ⟨_, rfl⟩
  obtain ⟨an, han⟩ : ∃ an, ((a + n : Nat) : Int) = an := ⟨_, rfl⟩
  rw [hec, han] at hc1
  have HE := hid (And.intro hec han)
  clear hec han
  generalize hW1 : (w.alloc (.cells #[.pointer (some ⟨g, 0, none⟩), .int .i64 x, .int .i64 b] 70)).alloc (.cells #[.int .i64 0, .int .i64 0, .int .i64 0, .int .i64 0, .int .i64 0, .int .i64 0, .int .i64 0] 25) = W1 at *
  obtain ⟨u, hu1, hu2, ho⟩ := HO.out.turn hg1 HG.out
  have HU := hid (And.intro hu1 hu2)
  have HO := hid ho
  have HC := hid hc1
  clear hg1 hc1 hu1 hu2 ho HC1 hW1
  have c0 := HO.out.tl.c
  have z0 := HO.out.tl.z
  have c1 := HO.out.c
  have z1 := HO.out.z
  have f1 := HO.out.f
  have hge : u.heap.size ≤ w.heap.size + 1 := by have := HU.out.2; omega
  have hg3 : g ≠ w.heap.size + 1 := by have := HG.out; omega
  go_wp2_with (with_reducible change bodyPost _ _ _ Exit.ret _ _; go_loud (refine bodyPost_ret (v := .tuple #[.agg #[.int .i64 p0, .int .i64 p1, .int .i64 p2, .int .i64 p3, .int .i64 p4, .int .i64 p5, .int .i64 p6], .int .i64 er]) (by simp [results, Tryd.results76, go_sem, *]) rfl (regsAns_mk HE (turned_mk (turn_trans HU.out.1 (turn_of_below ?_ _)) ?_))))
  · repeat first | with_reducible exact HO.out.below | with_reducible refine below_set ?_ hge _ _
  · repeat first | with_reducible exact HC.out | with_reducible refine CurAt.far ?_ hg3 _ _
set_option maxHeartbeats 1000000 in
theorem regs_4_n (g : Nat) (bs : List Int) (sz a : Nat) (mod x b : Int) (hx : 0 ≤ x ∧ x ≤ 1) (hb : 0 ≤ b ∧ b ≤ 1) (hm : ¬ mod = 0) (w : World) (hc : CurAt w g bs sz a 0) (hsz : sz ≤ 15) (ha : a ≤ sz) :
    Calls Tryd.prog 76 #[.agg #[.pointer (some ⟨g, 0, none⟩), .int .i64 x, .int .i64 b], .int .i64 mod, .int .i64 4] w (RegsAns (regsF mod 4 x b ((bs.take sz).drop a)) g bs sz a w) := by
  have HC := hid hc
  have HG := hid hc.lt
  clear hc
  have HA := hid ha
  generalize hR : regsF mod 4 x b ((bs.take sz).drop a) = R
  have HR := hid hR
  clear hR
  obtain ⟨er, ⟨p0, p1, p2, p3, p4, p5, p6⟩, n⟩ := R
  have HO := hid (((Own.nil w).alloc w.heap.size #[.pointer (some ⟨g, 0, none⟩), .int .i64 x, .int .i64 b] 70 rfl).alloc (w.heap.size + 1) #[.int .i64 0, .int .i64 0, .int .i64 0, .int .i64 0, .int .i64 0, .int .i64 0, .int .i64 0] 25 (by simp))
  go_enter Tryd.func76, Tryd.ntmps76
  go_wp2_with fail
  have HC1 := hid (HC.out.below HO.out.below HG.out)
  refine (msibr_any g bs sz a x b mod hx hb _ HC1.out hsz HA.out).mono ?_
  rw [HR.out]
  rintro e wb ⟨rfl, hg1, hc1⟩
  unfold MV
  simp only at hg1 hc1
  obtain ⟨ec, hec⟩ : ∃ ec, (if er = 9 then (9 : Int) else 0) = ec := ⟨_, rfl⟩
  obtain ⟨an, han⟩ : ∃ an, ((a + n : Nat) : Int) = an := ⟨_, rfl⟩
  rw [hec, han] at hc1
  have HE := hid (And.intro hec han)
  clear hec han
  generalize hW1 : (w.alloc (.cells #[.pointer (some ⟨g, 0, none⟩), .int .i64 x, .int .i64 b] 70)).alloc (.cells #[.int .i64 0, .int .i64 0, .int .i64 0, .int .i64 0, .int .i64 0, .int .i64 0, .int .i64 0] 25) = W1 at *
  obtain ⟨u, hu1, hu2, ho⟩ := HO.out.turn hg1 HG.out
  have HU := hid (And.intro hu1 hu2)
  have HO := hid ho
  have HC := hid hc1
  clear hg1 hc1 hu1 hu2 ho HC1 hW1
  have c0 := HO.out.tl.c
  have z0 := HO.out.tl.z
  have c1 := HO.out.c
  have z1 := HO.out.z
  have f1 := HO.out.f
  have hge : u.heap.size ≤ w.heap.size + 1 := by have := HU.out.2; omega
  have hg3 : g ≠ w.heap.size + 1 := by have := HG.out; omega
  go_wp2_with (with_reducible change bodyPost _ _ _ Exit.ret _ _; go_loud (refine bodyPost_ret (v := .tuple #[.agg #[.int .i64 p0, .int .i64 p1, .int .i64 p2, .int .i64 p3, .int .i64 p4, .int .i64 p5, .int .i64 p6], .int .i64 er]) (by simp [results, Tryd.results76, go_sem, *]) rfl (regsAns_mk HE (turned_mk (turn_trans HU.out.1 (turn_of_below ?_ _)) ?_))))
  · repeat first | with_reducible exact HO.out.below | with_reducible refine below_set ?_ hge _ _
  · repeat first | with_reducible exact HC.out | with_reducible refine CurAt.far ?_ hg3 _ _
set_option maxHeartbeats 1000000 in
theorem regs_x_0 (g : Nat) (rm b : Int)  (h4 : ¬ rm = 4) (w : World) :
    Calls Tryd.prog 76 #[.agg #[.pointer (some ⟨g, 0, none⟩), .int .i64 1, .int .i64 b], .int .i64 0, .int .i64 rm] w fun e w' => e = .returned (.tuple #[.agg #[.int .i64 (0), .int .i64 (0), .int .i64 (0), .int .i64 (0), .int .i64 (0), .int .i64 0, .int .i64 0], .int .i64 4]) ∧ Below w.heap.size w w' := by
  have HO := hid (((Own.nil w).alloc w.heap.size #[.pointer (some ⟨g, 0, none⟩), .int .i64 1, .int .i64 b] 70 rfl).alloc (w.heap.size + 1) #[.int .i64 0, .int .i64 0, .int .i64 0, .int .i64 0, .int .i64 0, .int .i64 0, .int .i64 0] 25 (by simp))
  go_enter Tryd.func76, Tryd.ntmps76
  have hge : w.heap.size ≤ w.heap.size + 1 := by omega
  go_wp2_with (with_reducible change bodyPost _ _ _ Exit.ret _ _; go_loud (refine bodyPost_ret (v := .tuple #[.agg #[.int .i64 (0), .int .i64 (0), .int .i64 (0), .int .i64 (0), .int .i64 (0), .int .i64 0, .int .i64 0], .int .i64 4]) (by simp [results, Tryd.results76, go_sem, *]) rfl ⟨rfl, ?_⟩))
  repeat first | with_reducible exact HO.out.below | with_reducible exact Below.refl _ _ | with_reducible refine below_set ?_ hge _ _ | with_reducible refine below_alloc ?_ _
set_option maxHeartbeats 1000000 in
theorem regs_x_n (g : Nat) (mod rm b : Int)  (hm : ¬ mod = 0) (h4 : ¬ rm = 4) (w : World) :
    Calls Tryd.prog 76 #[.agg #[.pointer (some ⟨g, 0, none⟩), .int .i64 1, .int .i64 b], .int .i64 mod, .int .i64 rm] w fun e w' => e = .returned (.tuple #[.agg #[.int .i64 (0), .int .i64 (0), .int .i64 (0), .int .i64 (0), .int .i64 (0), .int .i64 0, .int .i64 0], .int .i64 4]) ∧ Below w.heap.size w w' := by
  have HO := hid (((Own.nil w).alloc w.heap.size #[.pointer (some ⟨g, 0, none⟩), .int .i64 1, .int .i64 b] 70 rfl).alloc (w.heap.size + 1) #[.int .i64 0, .int .i64 0, .int .i64 0, .int .i64 0, .int .i64 0, .int .i64 0, .int .i64 0] 25 (by simp))
  go_enter Tryd.func76, Tryd.ntmps76
  have hge : w.heap.size ≤ w.heap.size + 1 := by omega
  go_wp2_with (with_reducible change bodyPost _ _ _ Exit.ret _ _; go_loud (refine bodyPost_ret (v := .tuple #[.agg #[.int .i64 (0), .int .i64 (0), .int .i64 (0), .int .i64 (0), .int .i64 (0), .int .i64 0, .int .i64 0], .int .i64 4]) (by simp [results, Tryd.results76, go_sem, *]) rfl ⟨rfl, ?_⟩))
  repeat first | with_reducible exact HO.out.below | with_reducible exact Below.refl _ _ | with_reducible refine below_set ?_ hge _ _ | with_reducible refine below_alloc ?_ _
set_option maxHeartbeats 1000000 in
theorem regs_b (g : Nat)   (w : World) :
    Calls Tryd.prog 76 #[.agg #[.pointer (some ⟨g, 0, none⟩), .int .i64 0, .int .i64 1], .int .i64 0, .int .i64 5] w fun e w' => e = .returned (.tuple #[.agg #[.int .i64 (0), .int .i64 (0), .int .i64 (0), .int .i64 (0), .int .i64 (0), .int .i64 0, .int .i64 0], .int .i64 4]) ∧ Below w.heap.size w w' := by
  have HO := hid (((Own.nil w).alloc w.heap.size #[.pointer (some ⟨g, 0, none⟩), .int .i64 0, .int .i64 1] 70 rfl).alloc (w.heap.size + 1) #[.int .i64 0, .int .i64 0, .int .i64 0, .int .i64 0, .int .i64 0, .int .i64 0, .int .i64 0] 25 (by simp))
  go_enter Tryd.func76, Tryd.ntmps76
  have hge : w.heap.size ≤ w.heap.size + 1 := by omega
  go_wp2_with (with_reducible change bodyPost _ _ _ Exit.ret _ _; go_loud (refine bodyPost_ret (v := .tuple #[.agg #[.int .i64 (0), .int .i64 (0), .int .i64 (0), .int .i64 (0), .int .i64 (0), .int .i64 0, .int .i64 0], .int .i64 4]) (by simp [results, Tryd.results76, go_sem, *]) rfl ⟨rfl, ?_⟩))
  repeat first | with_reducible exact HO.out.below | with_reducible exact Below.refl _ _ | with_reducible refine below_set ?_ hge _ _ | with_reducible refine below_alloc ?_ _
set_option maxHeartbeats 1000000 in
theorem regs_rip (g : Nat)   (w : World) :
    Calls Tryd.prog 76 #[.agg #[.pointer (some ⟨g, 0, none⟩), .int .i64 0, .int .i64 0], .int .i64 0, .int .i64 5] w fun e w' => e = .returned (.tuple #[.agg #[.int .i64 (8), .int .i64 (0), .int .i64 (0), .int .i64 (0), .int .i64 (0), .int .i64 0, .int .i64 0], .int .i64 0]) ∧ Below w.heap.size w w' := by
  have HO := hid (((Own.nil w).alloc w.heap.size #[.pointer (some ⟨g, 0, none⟩), .int .i64 0, .int .i64 0] 70 rfl).alloc (w.heap.size + 1) #[.int .i64 0, .int .i64 0, .int .i64 0, .int .i64 0, .int .i64 0, .int .i64 0, .int .i64 0] 25 (by simp))
  go_enter Tryd.func76, Tryd.ntmps76
  have hge : w.heap.size ≤ w.heap.size + 1 := by omega
  go_wp2_with (with_reducible change bodyPost _ _ _ Exit.ret _ _; go_loud (refine bodyPost_ret (v := .tuple #[.agg #[.int .i64 (8), .int .i64 (0), .int .i64 (0), .int .i64 (0), .int .i64 (0), .int .i64 0, .int .i64 0], .int .i64 0]) (by simp [results, Tryd.results76, go_sem, *]) rfl ⟨rfl, ?_⟩))
  repeat first | with_reducible exact HO.out.below | with_reducible exact Below.refl _ _ | with_reducible refine below_set ?_ hge _ _ | with_reducible refine below_alloc ?_ _
set_option maxHeartbeats 1000000 in
theorem regs_w_0 (g : Nat) (rm b : Int) (hr : 0 ≤ rm ∧ rm ≤ 7) (hb : 0 ≤ b ∧ b ≤ 1) (h4 : ¬ rm = 4) (h5 : ¬ rm = 5) (w : World) :
    Calls Tryd.prog 76 #[.agg #[.pointer (some ⟨g, 0, none⟩), .int .i64 0, .int .i64 b], .int .i64 0, .int .i64 rm] w fun e w' => e = .returned (.tuple #[.agg #[.int .i64 (5), .int .i64 (8 * b + rm), .int .i64 (0), .int .i64 (0), .int .i64 (0), .int .i64 0, .int .i64 0], .int .i64 0]) ∧ Below w.heap.size w w' := by
  have HO := hid (((Own.nil w).alloc w.heap.size #[.pointer (some ⟨g, 0, none⟩), .int .i64 0, .int .i64 b] 70 rfl).alloc (w.heap.size + 1) #[.int .i64 0, .int .i64 0, .int .i64 0, .int .i64 0, .int .i64 0, .int .i64 0, .int .i64 0] 25 (by simp))
  go_enter Tryd.func76, Tryd.ntmps76
  go_wp2_with fail
  refine (mwide_any b rm hb hr _).mono ?_
  rintro e w5 ⟨rfl, hb5⟩
  have HO := hid (HO.out.call hb5)
  clear hb5
  have c0 := HO.out.tl.c
  have z0 := HO.out.tl.z
  have c1 := HO.out.c
  have z1 := HO.out.z
  have f1 := HO.out.f
  have hge : w.heap.size ≤ w.heap.size + 1 := by omega
  go_wp2_with (with_reducible change bodyPost _ _ _ Exit.ret _ _; go_loud (refine bodyPost_ret (v := .tuple #[.agg #[.int .i64 (5), .int .i64 (8 * b + rm), .int .i64 (0), .int .i64 (0), .int .i64 (0), .int .i64 0, .int .i64 0], .int .i64 0]) (by simp [results, Tryd.results76, go_sem, *]) rfl ⟨rfl, ?_⟩))
  repeat first | with_reducible exact HO.out.below | with_reducible exact Below.refl _ _ | with_reducible refine below_set ?_ hge _ _ | with_reducible refine below_alloc ?_ _
set_option maxHeartbeats 1000000 in
theorem regs_w_n (g : Nat) (mod rm b : Int) (hr : 0 ≤ rm ∧ rm ≤ 7) (hb : 0 ≤ b ∧ b ≤ 1) (hm : ¬ mod = 0) (h4 : ¬ rm = 4) (w : World) :
    Calls Tryd.prog 76 #[.agg #[.pointer (some ⟨g, 0, none⟩), .int .i64 0, .int .i64 b], .int .i64 mod, .int .i64 rm] w fun e w' => e = .returned (.tuple #[.agg #[.int .i64 (5), .int .i64 (8 * b + rm), .int .i64 (0), .int .i64 (0), .int .i64 (0), .int .i64 0, .int .i64 0], .int .i64 0]) ∧ Below w.heap.size w w' := by
  have HO := hid (((Own.nil w).alloc w.heap.size #[.pointer (some ⟨g, 0, none⟩), .int .i64 0, .int .i64 b] 70 rfl).alloc (w.heap.size + 1) #[.int .i64 0, .int .i64 0, .int .i64 0, .int .i64 0, .int .i64 0, .int .i64 0, .int .i64 0] 25 (by simp))
  go_enter Tryd.func76, Tryd.ntmps76
  go_wp2_with fail
  refine (mwide_any b rm hb hr _).mono ?_
  rintro e w5 ⟨rfl, hb5⟩
  have HO := hid (HO.out.call hb5)
  clear hb5
  have c0 := HO.out.tl.c
  have z0 := HO.out.tl.z
  have c1 := HO.out.c
  have z1 := HO.out.z
  have f1 := HO.out.f
  have hge : w.heap.size ≤ w.heap.size + 1 := by omega
  go_wp2_with (with_reducible change bodyPost _ _ _ Exit.ret _ _; go_loud (refine bodyPost_ret (v := .tuple #[.agg #[.int .i64 (5), .int .i64 (8 * b + rm), .int .i64 (0), .int .i64 (0), .int .i64 (0), .int .i64 0, .int .i64 0], .int .i64 0]) (by simp [results, Tryd.results76, go_sem, *]) rfl ⟨rfl, ?_⟩))
  repeat first | with_reducible exact HO.out.below | with_reducible exact Below.refl _ _ | with_reducible refine below_set ?_ hge _ _ | with_reducible refine below_alloc ?_ _
theorem regs_any (g : Nat) (bs : List Int) (sz a : Nat) (mod rm x b : Int) (hr : 0 ≤ rm ∧ rm ≤ 7) (hx : 0 ≤ x ∧ x ≤ 1) (hb : 0 ≤ b ∧ b ≤ 1) (w : World) (hc : CurAt w g bs sz a 0) (hsz : sz ≤ 15) (ha : a ≤ sz) :
    Calls Tryd.prog 76 #[.agg #[.pointer (some ⟨g, 0, none⟩), .int .i64 x, .int .i64 b], .int .i64 mod, .int .i64 rm] w (RegsAns (regsF mod rm x b ((bs.take sz).drop a)) g bs sz a w) := by
  have fin : ∀ (p : Pl) (er : Int) (e : Ending) (w' : World), (er = 0 ∨ er = 4) → regsF mod rm x b ((bs.take sz).drop a) = (er, p, 0) → e = .returned (.tuple #[MV p, .int .i64 er]) ∧ Below w.heap.size w w' → RegsAns (regsF mod rm x b ((bs.take sz).drop a)) g bs sz a w e w' := by
    intro p er e w' her h1 h2
    unfold RegsAns
    rw [h1, if_neg (by simp only; omega)]
    exact ⟨h2.1, turn_of_below h2.2 _, hc.below h2.2 hc.lt⟩
  by_cases h4 : rm = 4
  · subst h4
    by_cases hm : mod = 0
    · subst hm; exact regs_4_0 g bs sz a x b hx hb w hc hsz ha
    · exact regs_4_n g bs sz a mod x b hx hb hm w hc hsz ha
  · by_cases h1 : x = 1
    · subst h1
      have hF : regsF mod rm 1 b ((bs.take sz).drop a) = (4, zeroM, 0) := by simp [regsF, h4]
      by_cases hm : mod = 0
      · subst hm; exact (regs_x_0 g rm b h4 w).mono fun e w' h => fin zeroM 4 e w' (.inr rfl) hF h
      · exact (regs_x_n g mod rm b hm h4 w).mono fun e w' h => fin zeroM 4 e w' (.inr rfl) hF h
    · have e0 : x = 0 := by omega
      subst e0
      by_cases hm : mod = 0
      · subst hm
        by_cases h5 : rm = 5
        · subst h5
          by_cases hb1 : b = 1
          · subst hb1
            exact (regs_b g w).mono fun e w' h => fin zeroM 4 e w' (.inr rfl) (by simp [regsF]) h
          · have : b = 0 := by omega
            subst this
            exact (regs_rip g w).mono fun e w' h => fin ⟨8, 0, 0, 0, 0, 0, 0⟩ 0 e w' (.inl rfl) (by simp [regsF]) h
        · exact (regs_w_0 g rm b hr hb h4 h5 w).mono fun e w' h => fin ⟨5, 8 * b + rm, 0, 0, 0, 0, 0⟩ 0 e w' (.inl rfl) (by simp [regsF, h4, h5]) h
      · exact (regs_w_n g mod rm b hr hb hm h4 w).mono fun e w' h => fin ⟨5, 8 * b + rm, 0, 0, 0, 0, 0⟩ 0 e w' (.inl rfl) (by simp [regsF, h4, hm]) h
end Go.Proofs.YtiiepdgpnnjpiaaDoor
