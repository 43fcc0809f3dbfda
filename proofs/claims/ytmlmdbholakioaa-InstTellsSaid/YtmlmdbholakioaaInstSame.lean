/-
  Same of both sides.
-/
import Derived.Test.YtmlmdbholakioaaInstCanon
import Derived.Test.YtmlmdbholakioaaInstRefCanon
import Derived.Test.YtmlmdbholakioaaInstEq
namespace Go.Proofs.Ytmlmdbholakioaa
open Go.RowKit

theorem instF_ok {op : Int} {l : List Ar} (h : instF op l = 0) : l.length ≤ 4 ∧ ∀ a ∈ l, argF a = 0 := by
  unfold instF at h
  split at h
  · split at h
    · cases h
    · split at h
      · rename_i h1 h2
        exact ⟨by omega, firstE_all h2⟩
      · rename_i h2; exact absurd h h2
  · cases h
/-- What Canon answers: a mnemonic and operands. -/
def canonOp (op : Int) (l : List Ar) : Int := if instF op l = 0 then op else 0
def canonL (op : Int) (l : List Ar) : List Ar := if instF op l = 0 then icanF op l else []
theorem canonL_length (op : Int) (l : List Ar) : (canonL op l).length ≤ 4 := by
  unfold canonL
  split
  · rename_i h; exact order_length op _ (by rw [canL_length]; exact (instF_ok h).1)
  · simp
theorem inst_canon_any {op : Int} {A : Option Addr} {c : Nat} {l : List Ar} (hl : l.length ≤ 9) (hf : Fine l) (w : World) (hA : Args w w.heap.size A l) :
    Calls Try.prog 8 #[.agg #[.int .i64 op, .slice A l.length c]] w fun e w' => ∃ A' c', e = .returned (PV (canonOp op l) A' (canonL op l).length c' (instF op l)) ∧ Below w.heap.size w w' ∧ OwnA w.heap.size w' A' (canonL op l) := by
  by_cases h0 : instF op l = 0
  · unfold canonOp canonL
    rw [if_pos h0, if_pos h0]
    obtain ⟨h4, hok⟩ := instF_ok h0
    refine (inst_canon_ok hl hf h0 h4 hok w hA).mono ?_
    rintro e w1 ⟨A', c', rfl, h1, h2⟩
    exact ⟨A', c', by rw [h0], h1, h2⟩
  · unfold canonOp canonL
    rw [if_neg h0, if_neg h0]
    refine (inst_canon_not hl hf rfl h0 w hA).mono ?_
    rintro e w1 ⟨rfl, h1⟩
    exact ⟨none, 0, rfl, h1, .inl rfl⟩
theorem rinst_canon_any {op : Int} {A : Option Addr} {c : Nat} {l : List Ar} (hl : l.length ≤ 9) (hf : Fine l) (w : World) (hA : Args w w.heap.size A l) :
    Calls Try.prog 9 #[.agg #[.int .i64 op, .slice A l.length c]] w fun e w' => ∃ A' c', e = .returned (PV (canonOp op l) A' (canonL op l).length c' (instF op l)) ∧ Below w.heap.size w w' ∧ OwnA w.heap.size w' A' (canonL op l) := by
  by_cases h0 : instF op l = 0
  · unfold canonOp canonL
    rw [if_pos h0, if_pos h0]
    obtain ⟨h4, hok⟩ := instF_ok h0
    refine (rinst_canon_ok hl hf h0 h4 hok w hA).mono ?_
    rintro e w1 ⟨A', c', rfl, h1, h2⟩
    exact ⟨A', c', by rw [h0], h1, h2⟩
  · unfold canonOp canonL
    rw [if_neg h0, if_neg h0]
    refine (rinst_canon_not hl hf rfl h0 w hA).mono ?_
    rintro e w1 ⟨rfl, h1⟩
    exact ⟨none, 0, rfl, h1, .inl rfl⟩
/-- Are both such as may be, with one canon? -/
def sameI (op : Int) (l : List Ar) (op' : Int) (l' : List Ar) : Bool := (instF op l == 0) && (instF op' l' == 0) && ((canonOp op l == canonOp op' l') && eqL (canonL op l) (canonL op' l'))
set_option maxHeartbeats 2000000 in
theorem isame_any {op op' : Int} {A A' : Option Addr} {c c' : Nat} {l l' : List Ar} (hl : l.length ≤ 9) (hl' : l'.length ≤ 9) (hf : Fine l) (hf' : Fine l') (w : World) (hA : Args w w.heap.size A l) (hA' : Args w w.heap.size A' l') :
    Calls Try.prog 15 #[.agg #[.int .i64 op, .slice A l.length c], .agg #[.int .i64 op', .slice A' l'.length c']] w fun e w' => e = .returned (.bool (sameI op l op' l')) ∧ Below w.heap.size w w' := by
  have HA := hid hA
  have HA' := hid hA'
  have HF := hid hf
  have HF' := hid hf'
  have h4 := canonL_length op l
  have h4' := canonL_length op' l'
  obtain ⟨e1, he1⟩ : ∃ e1, instF op l = e1 := ⟨_, rfl⟩
  obtain ⟨e2, he2⟩ : ∃ e2, instF op' l' = e2 := ⟨_, rfl⟩
  obtain ⟨o1, ho1⟩ : ∃ o1, canonOp op l = o1 := ⟨_, rfl⟩
  obtain ⟨o2, ho2⟩ : ∃ o2, canonOp op' l' = o2 := ⟨_, rfl⟩
  obtain ⟨L1, hL1⟩ : ∃ L1, canonL op l = L1 := ⟨_, rfl⟩
  obtain ⟨L2, hL2⟩ : ∃ L2, canonL op' l' = L2 := ⟨_, rfl⟩
  have HV := hid (show sameI op l op' l' = ((e1 == 0) && (e2 == 0) && ((o1 == o2) && eqL L1 L2)) by rw [sameI, he1, he2, ho1, ho2, hL1, hL2])
  have HE1 := hid he1; have HE2 := hid he2; have HO1 := hid ho1; have HO2 := hid ho2; have HL1 := hid hL1; have HL2 := hid hL2
  rw [hL1] at h4
  rw [hL2] at h4'
  have HO0 := hid (((Own.nil w).alloc w.heap.size #[.int .i64 op, .slice A l.length c] 24 rfl).alloc (w.heap.size + 1) #[.int .i64 op', .slice A' l'.length c'] 24 (by simp))
  clear hA hA' hf hf' he1 he2 ho1 ho2 hL1 hL2
  go_enter Try.func15, Try.ntmps15
  go_wp2_with fail
  refine (inst_canon_any hl HF.out _ (HA.out.call HO0.out.below)).mono ?_
  rw [HO1.out, HL1.out, HE1.out]
  rintro e w1 ⟨A1, c1, rfl, hb1, hA1⟩
  have HO := hid (HO0.out.call hb1)
  have HX := hid hA1
  clear hb1 hA1 HO0
  have c0 := HO.out.c
  have z0 := HO.out.z
  go_wp2_with fail
  have HO := hid (HO.out.alloc w1.heap.size #[.int .i64 o1, .slice A1 L1.length c1] 24 rfl)
  have HX := hid (HX.out.below ((Below.refl _ _).alloc (Nat.le_refl _) (.cells #[.int .i64 o1, .slice A1 L1.length c1] 24)))
  refine (inst_canon_any hl' HF'.out _ (HA'.out.call HO.out.below)).mono ?_
  rw [HO2.out, HL2.out, HE2.out]
  rintro e w2 ⟨A2, c2, rfl, hb2, hA2⟩
  have HO := hid (HO.out.call hb2)
  have HX := hid (HX.out.below hb2)
  have HY := hid hA2
  clear hb2 hA2 c0 z0
  have HX2 := hid (HX.out.args.call ((Below.refl _ _).alloc (Nat.le_refl _) (.cells #[.int .i64 o2, .slice A2 L2.length c2] 24)))
  have HY2 := hid (HY.out.args.call ((Below.refl _ _).alloc (Nat.le_refl _) (.cells #[.int .i64 o2, .slice A2 L2.length c2] 24)))
  have c0 := HO.out.c
  have z0 := HO.out.z
  have HB := hid (HO.out.below.alloc HO.out.below.size (.cells #[.int .i64 o2, .slice A2 L2.length c2] 24))
  by_cases h1 : e1 = 0
  · subst h1
    by_cases h2 : e2 = 0
    · subst h2
      cases ho : (o1 == o2)
      · have HR := hid (show sameI op l op' l' = false by rw [HV.out, ho]; rfl)
        go_wp2_with fail
        go_ret
        exact ⟨ret_b HR.out.symm, HB.out⟩
      · have HR := hid (show sameI op l op' l' = eqL L1 L2 by rw [HV.out, ho]; rfl)
        go_wp2_with fail
        refine (equal_of (v := eqL L1 L2) rfl rfl rfl (by omega) _ HX2.out HY2.out).mono ?_
        rintro e w3 ⟨rfl, hb3⟩
        have HB := hid (HB.out.trans (hb3.mono HB.out.size))
        clear hb3
        go_wp2_with fail
        go_ret
        exact ⟨ret_b HR.out.symm, HB.out⟩
    · have HR := hid (show sameI op l op' l' = false by rw [HV.out, beq_eq_false_iff_ne.2 h2]; rfl)
      have hx : (e2 == 0) = false := beq_eq_false_iff_ne.2 h2
      clear h2
      go_wp2_with fail
      go_ret
      exact ⟨ret_b HR.out.symm, HB.out⟩
  · have HR := hid (show sameI op l op' l' = false by rw [HV.out, beq_eq_false_iff_ne.2 h1]; rfl)
    have hx : (e1 == 0) = false := beq_eq_false_iff_ne.2 h1
    clear h1
    go_wp2_with fail
    go_ret
    exact ⟨ret_b HR.out.symm, HB.out⟩
set_option maxHeartbeats 2000000 in
theorem risame_any {op op' : Int} {A A' : Option Addr} {c c' : Nat} {l l' : List Ar} (hl : l.length ≤ 9) (hl' : l'.length ≤ 9) (hf : Fine l) (hf' : Fine l') (w : World) (hA : Args w w.heap.size A l) (hA' : Args w w.heap.size A' l') :
    Calls Try.prog 16 #[.agg #[.int .i64 op, .slice A l.length c], .agg #[.int .i64 op', .slice A' l'.length c']] w fun e w' => e = .returned (.bool (sameI op l op' l')) ∧ Below w.heap.size w w' := by
  have HA := hid hA
  have HA' := hid hA'
  have HF := hid hf
  have HF' := hid hf'
  have h4 := canonL_length op l
  have h4' := canonL_length op' l'
  obtain ⟨e1, he1⟩ : ∃ e1, instF op l = e1 := ⟨_, rfl⟩
  obtain ⟨e2, he2⟩ : ∃ e2, instF op' l' = e2 := ⟨_, rfl⟩
  obtain ⟨o1, ho1⟩ : ∃ o1, canonOp op l = o1 := ⟨_, rfl⟩
  obtain ⟨o2, ho2⟩ : ∃ o2, canonOp op' l' = o2 := ⟨_, rfl⟩
  obtain ⟨L1, hL1⟩ : ∃ L1, canonL op l = L1 := ⟨_, rfl⟩
  obtain ⟨L2, hL2⟩ : ∃ L2, canonL op' l' = L2 := ⟨_, rfl⟩
  have HV := hid (show sameI op l op' l' = ((e1 == 0) && (e2 == 0) && ((o1 == o2) && eqL L1 L2)) by rw [sameI, he1, he2, ho1, ho2, hL1, hL2])
  have HE1 := hid he1; have HE2 := hid he2; have HO1 := hid ho1; have HO2 := hid ho2; have HL1 := hid hL1; have HL2 := hid hL2
  rw [hL1] at h4
  rw [hL2] at h4'
  have HO0 := hid (((Own.nil w).alloc w.heap.size #[.int .i64 op, .slice A l.length c] 24 rfl).alloc (w.heap.size + 1) #[.int .i64 op', .slice A' l'.length c'] 24 (by simp))
  clear hA hA' hf hf' he1 he2 ho1 ho2 hL1 hL2
  go_enter Try.func16, Try.ntmps16
  go_wp2_with fail
  refine (rinst_canon_any hl HF.out _ (HA.out.call HO0.out.below)).mono ?_
  rw [HO1.out, HL1.out, HE1.out]
  rintro e w1 ⟨A1, c1, rfl, hb1, hA1⟩
  have HO := hid (HO0.out.call hb1)
  have HX := hid hA1
  clear hb1 hA1 HO0
  have c0 := HO.out.c
  have z0 := HO.out.z
  go_wp2_with fail
  have HO := hid (HO.out.alloc w1.heap.size #[.int .i64 o1, .slice A1 L1.length c1] 24 rfl)
  have HX := hid (HX.out.below ((Below.refl _ _).alloc (Nat.le_refl _) (.cells #[.int .i64 o1, .slice A1 L1.length c1] 24)))
  refine (rinst_canon_any hl' HF'.out _ (HA'.out.call HO.out.below)).mono ?_
  rw [HO2.out, HL2.out, HE2.out]
  rintro e w2 ⟨A2, c2, rfl, hb2, hA2⟩
  have HO := hid (HO.out.call hb2)
  have HX := hid (HX.out.below hb2)
  have HY := hid hA2
  clear hb2 hA2 c0 z0
  have HX2 := hid (HX.out.args.call ((Below.refl _ _).alloc (Nat.le_refl _) (.cells #[.int .i64 o2, .slice A2 L2.length c2] 24)))
  have HY2 := hid (HY.out.args.call ((Below.refl _ _).alloc (Nat.le_refl _) (.cells #[.int .i64 o2, .slice A2 L2.length c2] 24)))
  have c0 := HO.out.c
  have z0 := HO.out.z
  have HB := hid (HO.out.below.alloc HO.out.below.size (.cells #[.int .i64 o2, .slice A2 L2.length c2] 24))
  by_cases h1 : e1 = 0
  · subst h1
    by_cases h2 : e2 = 0
    · subst h2
      have HR := hid (show sameI op l op' l' = ((o1 == o2) && eqL L1 L2) by rw [HV.out]; rfl)
      obtain ⟨vv, hvv⟩ : ∃ vv, ((o1 == o2) && eqL L1 L2) = vv := ⟨_, rfl⟩
      have HVV := hid hvv
      rw [hvv] at HR
      clear hvv
      go_wp2_with fail
      refine (rsame_of HVV.out rfl rfl (by omega) _ HX2.out HY2.out).mono ?_
      rintro e w3 ⟨rfl, hb3⟩
      have HB := hid (HB.out.trans (hb3.mono HB.out.size))
      clear hb3
      go_wp2_with fail
      go_ret
      exact ⟨ret_b HR.out.symm, HB.out⟩
    · have HR := hid (show sameI op l op' l' = false by rw [HV.out, beq_eq_false_iff_ne.2 h2]; rfl)
      have hx : (e2 == 0) = false := beq_eq_false_iff_ne.2 h2
      clear h2
      go_wp2_with fail
      go_ret
      exact ⟨ret_b HR.out.symm, HB.out⟩
  · have HR := hid (show sameI op l op' l' = false by rw [HV.out, beq_eq_false_iff_ne.2 h1]; rfl)
    have hx : (e1 == 0) = false := beq_eq_false_iff_ne.2 h1
    clear h1
    go_wp2_with fail
    go_ret
    exact ⟨ret_b HR.out.symm, HB.out⟩
end Go.Proofs.Ytmlmdbholakioaa
