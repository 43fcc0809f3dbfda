/-
  The document's canon of instructions.
-/
import Derived.Test.YtmlmdbholakioaaInstRef0
namespace Go.Proofs.Ytmlmdbholakioaa
open Go.RowKit

/-- What both sides' Canon answers. -/
abbrev CV (op : Int) (A : Option Addr) (n c : Nat) (e : Int) : Value := .tuple #[.agg #[.int .i64 op, .slice A n c], .int .i64 e]
set_option maxHeartbeats 2000000 in
theorem rinst_canon_not {op e' : Int} {A : Option Addr} {c : Nat} {l : List Ar} (hl : l.length ≤ 9) (hf : Fine l) (he : instF op l = e') (h0 : ¬ e' = 0) (w : World) (hA : Args w w.heap.size A l) :
    Calls Try.prog 9 #[.agg #[.int .i64 op, .slice A l.length c]] w fun e w' => e = .returned (CV 0 none 0 0 e') ∧ Below w.heap.size w w' := by
  have HA := hid hA
  have HE := hid he
  have hx : (e' != 0) = true := bne_iff_ne.2 h0
  clear hA he h0
  go_enter Try.func9, Try.ntmps9
  go_wp2_with (first | (go_at_call 13; refine (rinst_check hl hf _ ?_).mono ?_; exact (HA.out.below (((Below.refl _ _).alloc (Nat.le_refl _) _).alloc (by simp) _)).mono (by simp; omega); rw [HE.out]; rintro e w1 ⟨rfl, hb1⟩; have HO := hid ((((Own.nil w).alloc w.heap.size #[.int .i64 op, .slice A l.length c] 24 rfl).alloc (w.heap.size + 1) #[.int .i64 0, .slice none 0 0] 24 (by simp)).call hb1); clear hb1; have c0 := HO.out.c; have f0 := HO.out.f; have z0 := HO.out.z) | (with_reducible change bodyPost _ _ _ Exit.ret _ _; refine bodyPost_ret (v := CV 0 none 0 0 e') (by simp [results, Try.results9, go_sem, *]) rfl ⟨rfl, ?_⟩; exact (HO.out.below.setCell (by simp) _).setCell (by simp) _))
set_option maxHeartbeats 2000000 in
set_option maxRecDepth 100000 in
theorem rinst_canon_ok {op : Int} {A : Option Addr} {c : Nat} {l : List Ar} (hl : l.length ≤ 9) (hf : Fine l) (he : instF op l = 0) (h4 : l.length ≤ 4) (hok : ∀ a ∈ l, argF a = 0) (w : World) (hA : Args w w.heap.size A l) :
    Calls Try.prog 9 #[.agg #[.int .i64 op, .slice A l.length c]] w fun e w' => ∃ A' c', e = .returned (CV op A' (icanF op l).length c' 0) ∧ Below w.heap.size w w' ∧ OwnA w.heap.size w' A' (icanF op l) := by
  have HA := hid hA
  have HFi := hid hf
  have HE := hid he
  have HOk := hid hok
  obtain ⟨i0, hi, hz0, hz1, hz2⟩ := info_parts infoArg
  have I0 := hid hz0; have I1 := hid hz1; have I2 := hid hz2; have I3 := hid hi
  clear hA he hok hi hz0 hz1 hz2
  obtain ⟨bb, hbb⟩ : ∃ bb, bitsF op l = bb := ⟨_, rfl⟩
  obtain ⟨xb, sb⟩ := bb
  have HBB := hid hbb
  clear hbb
  go_enter Try.func9, Try.ntmps9
  go_wp2_with (first | (go_at_call 13; refine (rinst_check hl hf _ ?_).mono ?_; exact (HA.out.below (((Below.refl _ _).alloc (Nat.le_refl _) _).alloc (by simp) _)).mono (by simp; omega); rw [HE.out]; rintro e w1 ⟨rfl, hb1⟩; have HO := hid ((((Own.nil w).alloc w.heap.size #[.int .i64 op, .slice A l.length c] 24 rfl).alloc (w.heap.size + 1) #[.int .i64 0, .slice none 0 0] 24 (by simp)).call hb1); clear hb1; have c0 := HO.out.c; have f0 := HO.out.f; have z0 := HO.out.z; have c1 := HO.out.tl.c; have z1 := HO.out.tl.z))
  have hgw : w.heap.size + 1 < w1.heap.size := z0
  have HO := hid (HO.out.alloc w1.heap.size #[.int .i64 op, .slice none 0 0] 24 rfl)
  have HR := hid (World.ownsRow_nil (w1.alloc (.cells #[.int .i64 op, .slice none 0 0] 24)) (w1.heap.size + 1) 42 11)
  have hgz : w1.heap.size + 1 ≤ (w1.alloc (.cells #[.int .i64 op, .slice none 0 0] 24)).heap.size := by simp
  clear c0 c1 f0 z0 z1
  generalize w1.heap.size = g at HO HR hgw hgz ⊢
  generalize w1.alloc (.cells #[.int .i64 op, .slice none 0 0] 24) = W at HO HR hgz ⊢
  go_loopw [6] (fun i wr => ∃ (k : Nat) (V : Option Addr) (cp : Nat), k ≤ l.length ∧ i = .int .i64 k ∧ g + 1 ≤ wr.heap.size ∧ Hid (Own w [⟨g, #[.int .i64 op, .slice V k cp], 24⟩, ⟨w.heap.size + 1, #[.int .i64 0, .slice none 0 0], 24⟩, ⟨w.heap.size, #[.int .i64 op, .slice A l.length c], 24⟩] wr) ∧ Hid (wr.ownsRow (g + 1) 42 11 (.slice V k cp) k (cellsA ((canL op l).take k)))) (fun i _ => l.length - (intOf i).toNat)
  case atStart => exact ⟨0, none, 0, by omega, rfl, hgz, HO, HR⟩
  case round =>
    clear HO HR hgz
    obtain ⟨k, V, cp, hk, rfl, hgz, HO, HR⟩ := hrel
    have c0 := HO.out.c
    have c2 := HO.out.tl.tl.c
    have f0 := HO.out.f
    have z0 := HO.out.z
    have z2 := HO.out.tl.tl.z
    by_cases hlt : k < l.length
    · obtain ⟨a, ha⟩ : ∃ a, l[k]? = some a := ⟨_, List.getElem?_eq_getElem hlt⟩
      have HAr := hid ((HA.out.below HO.out.below).mono HO.out.below.size)
      rcases HA.out.below HO.out.below with h0 | ⟨b, off, rfl, hb, hc⟩
      · rw [h0] at hlt; simp at hlt
      obtain ⟨q0, q1, q2, q3, q4, q5, q6, q7, q8, q9, q10⟩ := args_cells hc ha
      have H0 := hid (HOk.out a (List.mem_of_getElem? ha))
      obtain ⟨x, hx⟩ : ∃ x, aoutF a = x := ⟨_, rfl⟩
      have HX := hid hx
      have HT := hid (show cellsA ((canL op l).take (k + 1)) = cellsA ((canL op l).take k) ++ AC (canA (xb, sb) a) by
        rw [List.take_add_one, canL_get ha, HBB.out, cellsA_append]; simp [cellsA])
      have hlen : ((canL op l).take k).length = k := by rw [List.length_take, canL_length]; omega
      have HG := hid (HFi.out.get ha).2
      clear hc hx
      go_wp2_with fail
      refine (racanon_ar HX.out H0.out _).mono ?_
      rintro e w1 ⟨rfl, hb1⟩
      have HO := hid (HO.out.call hb1)
      have HR := hid (row_call HR.out hb1)
      have HAr := hid ((HA.out.below HO.out.below).mono HO.out.below.size)
      have hgz1 : g + 1 ≤ w1.heap.size := Nat.le_trans hgz hb1.size
      clear hb1 c0 c2 f0 z0 z2 q0 q1 q2 q3 q4 q5 q6 q7 q8 q9 q10 hb
      by_cases h3 : x.k = 3
      · have HN := hid (show canA (xb, sb) a = ⟨3, x.rc, x.rn, x.m, immV x.n xb sb⟩ by rw [canA_imm (b := (xb, sb)) HX.out H0.out h3, h3])
        have c0 := HO.out.c
        have c2 := HO.out.tl.tl.c
        have f0 := HO.out.f
        have z0 := HO.out.z
        have z2 := HO.out.tl.tl.z
        have HM := hid (show I64 x.n by
          have h := HX.out
          have hk3 : a.k = 3 := by rw [← aout_kind H0.out, h]; exact h3
          rw [← h, aout_num H0.out hk3]; exact HG.out)
        go_wp2_with fail
        refine (rbits_of HBB.out _ ((HAr.out.below ((Below.refl _ _).alloc (Nat.le_refl _) _)).mono (by simp))).mono ?_
        rintro e w2 ⟨rfl, hb2⟩
        have HO1 := hid ((HO.out.alloc w1.heap.size #[.int .i64 3, .int .i64 x.rc, .int .i64 x.rn, .int .i64 x.m.bc, .int .i64 x.m.bn, .int .i64 x.m.ic, .int .i64 x.m.ix, .int .i64 x.m.s, .int .i64 x.m.d, .int .i64 x.m.z, .int .i64 x.n] 42 rfl).call hb2)
        have HQ := hid (fun q hq => (HR.out.lt q hq).2)
        have HR := hid (row_call (HR.out.alloc _) hb2)
        have hgz2 : g + 1 ≤ w2.heap.size := by have := hb2.size; simp at this; omega
        have hlw : w1.heap.size < w2.heap.size := by have := hb2.size; simp at this; omega
        clear hb2 c0 c2 f0 z0 z2 HO HAr
        have HO := HO1
        clear HO1
        have cb := HO.out.c
        have fb := HO.out.f
        have zb := HO.out.z
        have c0 := HO.out.tl.c
        have f0 := HO.out.tl.f
        have z0 := HO.out.tl.z
        have c2 := HO.out.tl.tl.tl.c
        have z2 := HO.out.tl.tl.tl.z
        go_wp2_with fail
        refine (rimm_of (v := immV x.n xb sb) HM.out rfl rfl _).mono ?_
        rintro e w3 ⟨rfl, rfl⟩
        generalize hvv : immV x.n xb sb = vv at HN
        have HR := hid (row_same (w' := w2.setCell ⟨w1.heap.size, 10, none⟩ (.int .i64 vv)) HR.out (fun q hq => Below.heap_setCell w2 ⟨w1.heap.size, 10, none⟩ _ q (by have := HQ.out q hq; simp only [ne_eq]; omega)))
        clear hvv
        go_wp2_with (at_builtin; refine wpList_append_own _ rfl _ _ 22 rfl (g + 1) 42 i0 (.agg #[.int .i64 0, .int .i64 0, .int .i64 0, .int .i64 0, .int .i64 0, .int .i64 0, .int .i64 0, .int .i64 0, .int .i64 0, .int .i64 0, .int .i64 0]) 11 88 Try.underlying22 I3.out I0.out I1.out I2.out rfl (by decide) (.slice V k cp) k (cellsA ((canL op l).take k)) rfl (HR.out.alloc _) ⟨w2.heap.size, 0, none⟩ 1 1 (AC ⟨3, x.rc, x.rn, x.m, vv⟩) rfl rfl ?_ ?_ ?_ ?_ ?_ ?_; (refine cells_at _ _ _ ?_; simp); (intro u hu; simp at hu; rcases hu with rfl | rfl | rfl | rfl | rfl | rfl | rfl | rfl | rfl | rfl | rfl <;> rfl); (unfold maxLen; omega); omega; (simp; omega))
        intro v' w9 hown hgrow _
        obtain ⟨V', cp', rfl⟩ := row_form hown
        have HO1 := hid (Own.grown ((HO.out.set 10 (.int .i64 vv)).tl.call ((Below.refl _ _).alloc (Nat.le_refl _) _)) hgrow (by
          intro k hk
          have := HQ.out k hk
          have := HR.out.lt k hk
          refine ⟨by omega, fun x hx => ?_⟩
          simp only [List.mem_cons, List.not_mem_nil, or_false] at hx
          rcases hx with rfl | rfl | rfl
          all_goals dsimp only; omega))
        have HR1 := hid (show w9.ownsRow (g + 1) 42 11 (.slice V' (k + 1) cp') (k + 1) (cellsA ((canL op l).take (k + 1))) by rw [HT.out, HN.out]; exact hown)
        clear hown hgrow cb fb zb c0 c2 f0 z0 z2
        have c0 := HO1.out.c
        have f0 := HO1.out.f
        have z0 := HO1.out.z
        have HO2 := hid (show Own w [⟨g, #[.int .i64 op, .slice V' (k + 1) cp'], 24⟩, ⟨w.heap.size + 1, #[.int .i64 0, .slice none 0 0], 24⟩, ⟨w.heap.size, #[.int .i64 op, .slice (some ⟨b, off, none⟩) l.length c], 24⟩] (w9.setCell ⟨g, 1, none⟩ (.slice V' (k + 1) cp')) from HO1.out.set 1 _)
        have HR2 := hid (row_set HR1.out g 1 (.slice V' (k + 1) cp') (by omega))
        have hgz2 : g + 1 ≤ (w9.setCell ⟨g, 1, none⟩ (.slice V' (k + 1) cp')).heap.size := by simp; omega
        go_wp2_with fail
        go_roundw
        case rel => exact ⟨k + 1, V', cp', by omega, by go_num, hgz2, HO2, HR2⟩
        case measure => simp [intOf]; omega
      · have HN := hid (canA_other (b := (xb, sb)) HX.out H0.out h3)
        have c0 := HO.out.c
        have c2 := HO.out.tl.tl.c
        have f0 := HO.out.f
        have z0 := HO.out.z
        have z2 := HO.out.tl.tl.z
        go_wp2_with (at_builtin; refine wpList_append_own _ rfl _ _ 22 rfl (g + 1) 42 i0 (.agg #[.int .i64 0, .int .i64 0, .int .i64 0, .int .i64 0, .int .i64 0, .int .i64 0, .int .i64 0, .int .i64 0, .int .i64 0, .int .i64 0, .int .i64 0]) 11 88 Try.underlying22 I3.out I0.out I1.out I2.out rfl (by decide) (.slice V k cp) k (cellsA ((canL op l).take k)) rfl ((HR.out.alloc _).alloc _) ⟨w1.heap.size + 1, 0, none⟩ 1 1 (AC x) rfl rfl ?_ ?_ ?_ ?_ ?_ ?_; (refine cells_at _ _ _ ?_; simp); (intro u hu; simp at hu; rcases hu with rfl | rfl | rfl | rfl | rfl | rfl | rfl | rfl | rfl | rfl | rfl <;> rfl); (unfold maxLen; omega); omega; (simp; omega))
        intro v' w9 hown hgrow _
        obtain ⟨V', cp', rfl⟩ := row_form hown
        have HO1 := hid (Own.grown (HO.out.call (((Below.refl w1.heap.size w1).alloc (Nat.le_refl _) _).alloc (by simp) _)) hgrow (by
          intro k hk
          have := HR.out.lt k hk
          refine ⟨by omega, fun x hx => ?_⟩
          simp only [List.mem_cons, List.not_mem_nil, or_false] at hx
          rcases hx with rfl | rfl | rfl
          all_goals dsimp only; omega))
        have HR1 := hid (show w9.ownsRow (g + 1) 42 11 (.slice V' (k + 1) cp') (k + 1) (cellsA ((canL op l).take (k + 1))) by rw [HT.out, HN.out]; exact hown)
        clear hown hgrow c0 c2 f0 z0 z2
        have c0 := HO1.out.c
        have f0 := HO1.out.f
        have z0 := HO1.out.z
        have HO2 := hid (show Own w [⟨g, #[.int .i64 op, .slice V' (k + 1) cp'], 24⟩, ⟨w.heap.size + 1, #[.int .i64 0, .slice none 0 0], 24⟩, ⟨w.heap.size, #[.int .i64 op, .slice (some ⟨b, off, none⟩) l.length c], 24⟩] (w9.setCell ⟨g, 1, none⟩ (.slice V' (k + 1) cp')) from HO1.out.set 1 _)
        have HR2 := hid (row_set HR1.out g 1 (.slice V' (k + 1) cp') (by omega))
        have hgz2 : g + 1 ≤ (w9.setCell ⟨g, 1, none⟩ (.slice V' (k + 1) cp')).heap.size := by simp; omega
        go_wp2_with fail
        go_roundw
        case rel => exact ⟨k + 1, V', cp', by omega, by go_num, hgz2, HO2, HR2⟩
        case measure => simp [intOf]; omega
    · have hkl : k = l.length := by omega
      subst hkl
      have HLen := hid (canL_length op l)
      obtain ⟨L, hL⟩ : ∃ L, canL op l = L := ⟨_, rfl⟩
      have HOA := hid (show OwnA (g + 1) wr V L by
        have h := HR.out
        rw [hL] at h
        have hlen : L.length = l.length := by rw [← hL]; exact canL_length op l
        rw [List.take_of_length_le (by omega), ← hlen] at h
        obtain ⟨A2, c3, h2, h3⟩ := OwnA.row h
        injection h2 with h4 h5 h6
        rw [h4]; exact h3)
      have hlen : L.length = l.length := by rw [← hL]; exact canL_length op l
      have HI := hid (show icanF op l = orderF op L by rw [icanF, hL])
      have hnn : L.length ≤ 4 := by omega
      have c1 := HO.out.tl.c
      have f1 := HO.out.tl.f
      have z1 := HO.out.tl.z
      have HLn := hid hlen
      clear hL HLen HR
      by_cases h16 : op = 16
      · subst h16
        clear hlen hk
        cases hv : isF L 1 3
        · have HV := hid hv
          have HR2 := hid (show icanF 16 l = L by rw [HI.out]; rw [orderF, if_pos rfl, hv]; rfl)
          clear hv
          go_wp2_with fail
          refine (is_at HV.out HLn.out _ HOA.out.args).mono ?_
          rintro e w2 ⟨rfl, hb2⟩
          have HOA := hid (HOA.out.below hb2)
          have HO := hid (HO.out.call hb2)
          clear hb2 c0 f0 z0 c1 f1 z1 c2 z2
          have c0 := HO.out.c
          have f0 := HO.out.f
          have z0 := HO.out.z
          have c1 := HO.out.tl.c
          have f1 := HO.out.tl.f
          have z1 := HO.out.tl.z
          have c2 := HO.out.tl.tl.c
          have z2 := HO.out.tl.tl.z
          go_wp2_with (with_reducible change bodyPost _ _ _ Exit.ret _ _; refine bodyPost_ret (v := CV 16 V l.length cp 0) (by simp [results, Try.results9, go_sem, *]) rfl ⟨V, cp, by rw [HR2.out, HLn.out], ?_, ?_⟩)
          · exact (HO.out.below.setCell (p := ⟨w.heap.size + 1, 0, none⟩) (Nat.le_succ _) _).setCell (p := ⟨w.heap.size + 1, 1, none⟩) (Nat.le_succ _) _
          · rw [HR2.out]; exact (((HOA.out.set _ _ _ (by omega)).set _ _ _ (by omega)).mono (by omega))
        · have HV := hid hv
          obtain ⟨x, y, hxy, hx1, hy1⟩ := isF_two hv
          have HR2 := hid (show icanF 16 l = [x, x, y] by rw [HI.out, orderF, if_pos rfl, hv, hxy]; rfl)
          have HXY := hid hxy
          have HL2 := hid (show L.length = 2 by rw [hxy]; rfl)
          have hl2 : l.length = 2 := by rw [← HLn.out, hxy]; rfl
          clear hv hx1 hy1 hxy
          go_wp2_with fail
          refine (is_at HV.out HL2.out _ HOA.out.args).mono ?_
          rintro e w2 ⟨rfl, hb2⟩
          have HOA := hid (HOA.out.below hb2)
          have HO := hid (HO.out.call hb2)
          clear hb2 c0 f0 z0 c1 f1 z1 c2 z2
          have c0 := HO.out.c
          have f0 := HO.out.f
          have z0 := HO.out.z
          have c1 := HO.out.tl.c
          have f1 := HO.out.tl.f
          have z1 := HO.out.tl.z
          have c2 := HO.out.tl.tl.c
          have z2 := HO.out.tl.tl.z
          have HOA2 := hid (show Args w2 w2.heap.size V [x, y] from HXY.out ▸ HOA.out.args)
          obtain ⟨rb, ro, rfl, hrb, h1, h2⟩ := two_cells HOA2.out
          have p0 := h1 0 (by decide); have p1 := h1 1 (by decide); have p2 := h1 2 (by decide); have p3 := h1 3 (by decide); have p4 := h1 4 (by decide); have p5 := h1 5 (by decide); have p6 := h1 6 (by decide); have p7 := h1 7 (by decide); have p8 := h1 8 (by decide); have p9 := h1 9 (by decide); have p10 := h1 10 (by decide)
          have q0 := h2 0 (by decide); have q1 := h2 1 (by decide); have q2 := h2 2 (by decide); have q3 := h2 3 (by decide); have q4 := h2 4 (by decide); have q5 := h2 5 (by decide); have q6 := h2 6 (by decide); have q7 := h2 7 (by decide); have q8 := h2 8 (by decide); have q9 := h2 9 (by decide); have q10 := h2 10 (by decide)
          simp only [Nat.add_zero, Nat.add_assoc, Nat.reduceAdd, List.getElem?_cons_zero, List.getElem?_cons_succ] at p0 p1 p2 p3 p4 p5 p6 p7 p8 p9 p10 q0 q1 q2 q3 q4 q5 q6 q7 q8 q9 q10
          clear h1 h2
          go_wp2_with fail
          go_still_tail 12, (by kernel_rfl)
          change wpList _ _ _ _ _ w2.drew
          have HO := hid HO.out.drew
          have hlt3 : w2.heap.size = w2.drew.heap.size := rfl
          clear HOA HOA2 hrb p0 p1 p2 p3 p4 p5 p6 p7 p8 p9 p10 q0 q1 q2 q3 q4 q5 q6 q7 q8 q9 q10 c0 f0 z0 c1 f1 z1 c2 z2
          generalize w2.drew = w3 at HO hlt3 ⊢
          have c0 := HO.out.c
          have f0 := HO.out.f
          have z0 := HO.out.z
          have c1 := HO.out.tl.c
          have f1 := HO.out.tl.f
          have z1 := HO.out.tl.z
          go_wp2_with fail
          refine bodyPost_ret (v := CV 16 (some ⟨w3.heap.size, 0, none⟩) 3 3 0) (by simp [results, Try.results9, go_sem, *]) rfl ⟨_, _, by rw [HR2.out]; rfl, ?_, ?_⟩
          · exact (((HO.out.below.setCell (p := ⟨g, 1, none⟩) (by dsimp only; omega) _).setCell (p := ⟨w.heap.size + 1, 0, none⟩) (Nat.le_succ _) _).setCell (p := ⟨w.heap.size + 1, 1, none⟩) (Nat.le_succ _) _).alloc (by simp; omega) _
          · rw [HR2.out]; exact OwnA.made (by simp [cellsA]) (by simp) (by omega)
      by_cases h10 : op = 10
      · subst h10
        clear hlen hk h16
        cases hv : isF L 1 2
        · have HV := hid hv
          have HR2 := hid (show icanF 10 l = L by rw [HI.out]; rw [orderF, if_neg (by decide), if_pos rfl, hv]; rfl)
          clear hv
          go_wp2_with fail
          refine (is_at HV.out HLn.out _ HOA.out.args).mono ?_
          rintro e w2 ⟨rfl, hb2⟩
          have HOA := hid (HOA.out.below hb2)
          have HO := hid (HO.out.call hb2)
          have hgz := Nat.le_trans hgz hb2.size
          clear hb2
          clear c0 f0 z0 c1 f1 z1 c2 z2
          have c0 := HO.out.c
          have f0 := HO.out.f
          have z0 := HO.out.z
          have c1 := HO.out.tl.c
          have f1 := HO.out.tl.f
          have z1 := HO.out.tl.z
          have c2 := HO.out.tl.tl.c
          have z2 := HO.out.tl.tl.z
          go_wp2_with fail
          refine bodyPost_ret (v := CV 10 V l.length cp 0) (by simp [results, Try.results9, go_sem, *]) rfl ⟨_, _, by rw [HR2.out, HLn.out], ?_, ?_⟩
          · exact (HO.out.below.setCell (p := ⟨w.heap.size + 1, 0, none⟩) (Nat.le_succ _) _).setCell (p := ⟨w.heap.size + 1, 1, none⟩) (Nat.le_succ _) _
          · rw [HR2.out]; exact (((HOA.out.set _ _ _ (by omega)).set _ _ _ (by omega)).mono (by omega))
        · have HV := hid hv
          obtain ⟨x, y, hxy, hx1, hy1⟩ := isF_two hv
          have HR2 := hid (show icanF 10 l = [y, x] by rw [HI.out]; rw [orderF, if_neg (by decide), if_pos rfl, hv, hxy]; rfl)
          have HXY := hid hxy
          have HL2 := hid (show L.length = 2 by rw [hxy]; rfl)
          have hl2 : l.length = 2 := by rw [← HLn.out, hxy]; rfl
          clear hv hx1 hy1 hxy
          go_wp2_with fail
          refine (is_at HV.out HL2.out _ HOA.out.args).mono ?_
          rintro e w2 ⟨rfl, hb2⟩
          have HOA := hid (HOA.out.below hb2)
          have HO := hid (HO.out.call hb2)
          have hgz := Nat.le_trans hgz hb2.size
          clear hb2
          clear c0 f0 z0 c1 f1 z1 c2 z2
          have c0 := HO.out.c
          have f0 := HO.out.f
          have z0 := HO.out.z
          have c1 := HO.out.tl.c
          have f1 := HO.out.tl.f
          have z1 := HO.out.tl.z
          have c2 := HO.out.tl.tl.c
          have z2 := HO.out.tl.tl.z
          go_wp2_with fail
          refine (swap_any (op := 10) V cp x y _ (HXY.out ▸ HOA.out.args)).mono ?_
          rintro e w4 ⟨A2, rfl, hb2, hOA2⟩
          have HOA := hid (hOA2.mono hgz)
          have HO := hid (HO.out.call hb2)
          clear hb2 hOA2
          clear c0 f0 z0 c1 f1 z1 c2 z2
          have c0 := HO.out.c
          have f0 := HO.out.f
          have z0 := HO.out.z
          have c1 := HO.out.tl.c
          have f1 := HO.out.tl.f
          have z1 := HO.out.tl.z
          have c2 := HO.out.tl.tl.c
          have z2 := HO.out.tl.tl.z
          go_wp2_with fail
          refine bodyPost_ret (v := CV 10 A2 2 2 0) (by simp [results, Try.results9, go_sem, *]) rfl ⟨_, _, by rw [HR2.out]; rfl, ?_, ?_⟩
          · exact (((HO.out.below.setCell (p := ⟨g, 0, none⟩) (by dsimp only; omega) _).setCell (p := ⟨g, 1, none⟩) (by dsimp only; omega) _).setCell (p := ⟨w.heap.size + 1, 0, none⟩) (Nat.le_succ _) _).setCell (p := ⟨w.heap.size + 1, 1, none⟩) (Nat.le_succ _) _
          · rw [HR2.out]; exact (((((HOA.out.set _ _ _ (by omega)).set _ _ _ (by omega)).set _ _ _ (by omega)).set _ _ _ (by omega)).mono (by omega))
      by_cases h11 : op = 11
      · subst h11
        clear hlen hk h16 h10
        cases hv : isF L 1 2
        · have HV := hid hv
          have HV0 := HV
          clear hv
          cases hv : isF L 1 1
          · have HW := hid hv
            have HR2 := hid (show icanF 11 l = L by rw [HI.out]; rw [orderF, if_neg (by decide), if_neg (by decide), if_pos rfl, HV.out, hv]; rfl)
            clear hv
            go_wp2_with fail
            refine (is_at HV.out HLn.out _ HOA.out.args).mono ?_
            rintro e w2 ⟨rfl, hb2⟩
            have HOA := hid (HOA.out.below hb2)
            have HO := hid (HO.out.call hb2)
            have hgz := Nat.le_trans hgz hb2.size
            clear hb2
            clear c0 f0 z0 c1 f1 z1 c2 z2
            have c0 := HO.out.c
            have f0 := HO.out.f
            have z0 := HO.out.z
            have c1 := HO.out.tl.c
            have f1 := HO.out.tl.f
            have z1 := HO.out.tl.z
            have c2 := HO.out.tl.tl.c
            have z2 := HO.out.tl.tl.z
            go_wp2_with fail
            refine (is_at HW.out HLn.out _ HOA.out.args).mono ?_
            rintro e w2 ⟨rfl, hb2⟩
            have HOA := hid (HOA.out.below hb2)
            have HO := hid (HO.out.call hb2)
            have hgz := Nat.le_trans hgz hb2.size
            clear hb2
            clear c0 f0 z0 c1 f1 z1 c2 z2
            have c0 := HO.out.c
            have f0 := HO.out.f
            have z0 := HO.out.z
            have c1 := HO.out.tl.c
            have f1 := HO.out.tl.f
            have z1 := HO.out.tl.z
            have c2 := HO.out.tl.tl.c
            have z2 := HO.out.tl.tl.z
            go_wp2_with fail
            refine bodyPost_ret (v := CV 11 V l.length cp 0) (by simp [results, Try.results9, go_sem, *]) rfl ⟨_, _, by rw [HR2.out, HLn.out], ?_, ?_⟩
            · exact (HO.out.below.setCell (p := ⟨w.heap.size + 1, 0, none⟩) (Nat.le_succ _) _).setCell (p := ⟨w.heap.size + 1, 1, none⟩) (Nat.le_succ _) _
            · rw [HR2.out]; exact (((HOA.out.set _ _ _ (by omega)).set _ _ _ (by omega)).mono (by omega))
          · have HW := hid hv
            obtain ⟨x, y, hxy, hx1, hy1⟩ := isF_two hv
            have HXY := hid hxy
            have HL2 := hid (show L.length = 2 by rw [hxy]; rfl)
            have hl2 : l.length = 2 := by rw [← HLn.out, hxy]; rfl
            have HR := hid (show icanF 11 l = if (x.rc == y.rc) && decide (y.rn < x.rn) then [y, x] else L by rw [HI.out, orderF, if_neg (by decide), if_neg (by decide), if_pos rfl, HV.out, hv, hxy]; rfl)
            clear hv hx1 hy1 hxy
            go_wp2_with fail
            refine (is_at HV.out HL2.out _ HOA.out.args).mono ?_
            rintro e w2 ⟨rfl, hb2⟩
            have HOA := hid (HOA.out.below hb2)
            have HO := hid (HO.out.call hb2)
            have hgz := Nat.le_trans hgz hb2.size
            clear hb2
            clear c0 f0 z0 c1 f1 z1 c2 z2
            have c0 := HO.out.c
            have f0 := HO.out.f
            have z0 := HO.out.z
            have c1 := HO.out.tl.c
            have f1 := HO.out.tl.f
            have z1 := HO.out.tl.z
            have c2 := HO.out.tl.tl.c
            have z2 := HO.out.tl.tl.z
            go_wp2_with fail
            refine (is_at HW.out HL2.out _ HOA.out.args).mono ?_
            rintro e w3 ⟨rfl, hb2⟩
            have HOA := hid (HOA.out.below hb2)
            have HO := hid (HO.out.call hb2)
            have hgz := Nat.le_trans hgz hb2.size
            clear hb2
            clear c0 f0 z0 c1 f1 z1 c2 z2
            have c0 := HO.out.c
            have f0 := HO.out.f
            have z0 := HO.out.z
            have c1 := HO.out.tl.c
            have f1 := HO.out.tl.f
            have z1 := HO.out.tl.z
            have c2 := HO.out.tl.tl.c
            have z2 := HO.out.tl.tl.z
            have HOA2 := hid (show Args w3 w3.heap.size V [x, y] from HXY.out ▸ HOA.out.args)
            obtain ⟨rb, ro, rfl, hrb, h1, h2⟩ := two_cells HOA2.out
            have p1 := h1 1 (by decide); have p2 := h1 2 (by decide)
            have q1 := h2 1 (by decide); have q2 := h2 2 (by decide)
            simp only [Nat.add_assoc, Nat.reduceAdd, List.getElem?_cons_zero, List.getElem?_cons_succ] at p1 p2 q1 q2
            clear h1 h2
            cases hcl : (x.rc == y.rc)
            · have HR2 := hid (show icanF 11 l = L by rw [HR.out, hcl]; rfl)
              clear HR
              go_wp2_with fail
              go_quiet (fail)
              go_wp2_with fail
              refine bodyPost_ret (v := CV 11 (some ⟨rb, ro, none⟩) 2 cp 0) (by simp [results, Try.results9, go_sem, *]) rfl ⟨_, _, by rw [HR2.out, HL2.out], ?_, ?_⟩
              · exact ((bdrewN HO.out.below _).setCell (p := ⟨w.heap.size + 1, 0, none⟩) (Nat.le_succ _) _).setCell (p := ⟨w.heap.size + 1, 1, none⟩) (Nat.le_succ _) _
              · rw [HR2.out]; exact ((((HOA.out.drewN _).set _ _ _ (by omega)).set _ _ _ (by omega)).mono (by omega))
            · cases hgt : decide (y.rn < x.rn)
              · have HR2 := hid (show icanF 11 l = L by rw [HR.out, hcl, hgt]; rfl)
                clear HR
                go_wp2_with fail
                go_quiet (fail)
                go_wp2_with fail
                refine bodyPost_ret (v := CV 11 (some ⟨rb, ro, none⟩) 2 cp 0) (by simp [results, Try.results9, go_sem, *]) rfl ⟨_, _, by rw [HR2.out, HL2.out], ?_, ?_⟩
                · exact ((bdrewN HO.out.below _).setCell (p := ⟨w.heap.size + 1, 0, none⟩) (Nat.le_succ _) _).setCell (p := ⟨w.heap.size + 1, 1, none⟩) (Nat.le_succ _) _
                · rw [HR2.out]; exact ((((HOA.out.drewN _).set _ _ _ (by omega)).set _ _ _ (by omega)).mono (by omega))
              · have HR2 := hid (show icanF 11 l = [y, x] by rw [HR.out, hcl, hgt]; rfl)
                clear HR
                have hgt2 : y.rn < x.rn := of_decide_eq_true hgt
                go_wp2_with fail
                go_quiet (fail)
                go_wp2_with fail
                refine (swap_any (op := 11) _ cp x y _ (HXY.out ▸ (HOA.out.drewN _).args)).mono ?_
                rintro e w4 ⟨A2, rfl, hb2, hOA2⟩
                have HOA := hid (hOA2.mono hgz)
                have HO := hid ((HO.out.drewN _).call hb2)
                clear hb2 hOA2
                clear c0 f0 z0 c1 f1 z1 c2 z2
                have c0 := HO.out.c
                have f0 := HO.out.f
                have z0 := HO.out.z
                have c1 := HO.out.tl.c
                have f1 := HO.out.tl.f
                have z1 := HO.out.tl.z
                have c2 := HO.out.tl.tl.c
                have z2 := HO.out.tl.tl.z
                go_wp2_with fail
                refine bodyPost_ret (v := CV 11 A2 2 2 0) (by simp [results, Try.results9, go_sem, *]) rfl ⟨_, _, by rw [HR2.out]; rfl, ?_, ?_⟩
                · exact (((HO.out.below.setCell (p := ⟨g, 0, none⟩) (by dsimp only; omega) _).setCell (p := ⟨g, 1, none⟩) (by dsimp only; omega) _).setCell (p := ⟨w.heap.size + 1, 0, none⟩) (Nat.le_succ _) _).setCell (p := ⟨w.heap.size + 1, 1, none⟩) (Nat.le_succ _) _
                · rw [HR2.out]; exact (((((HOA.out.set _ _ _ (by omega)).set _ _ _ (by omega)).set _ _ _ (by omega)).set _ _ _ (by omega)).mono (by omega))
        · have HV := hid hv
          obtain ⟨x, y, hxy, hx1, hy1⟩ := isF_two hv
          have HR2 := hid (show icanF 11 l = [y, x] by rw [HI.out]; rw [orderF, if_neg (by decide), if_neg (by decide), if_pos rfl, hv, hxy]; rfl)
          have HXY := hid hxy
          have HL2 := hid (show L.length = 2 by rw [hxy]; rfl)
          have hl2 : l.length = 2 := by rw [← HLn.out, hxy]; rfl
          clear hv hx1 hy1 hxy
          go_wp2_with fail
          refine (is_at HV.out HL2.out _ HOA.out.args).mono ?_
          rintro e w2 ⟨rfl, hb2⟩
          have HOA := hid (HOA.out.below hb2)
          have HO := hid (HO.out.call hb2)
          have hgz := Nat.le_trans hgz hb2.size
          clear hb2
          clear c0 f0 z0 c1 f1 z1 c2 z2
          have c0 := HO.out.c
          have f0 := HO.out.f
          have z0 := HO.out.z
          have c1 := HO.out.tl.c
          have f1 := HO.out.tl.f
          have z1 := HO.out.tl.z
          have c2 := HO.out.tl.tl.c
          have z2 := HO.out.tl.tl.z
          go_wp2_with fail
          refine (swap_any (op := 11) V cp x y _ (HXY.out ▸ HOA.out.args)).mono ?_
          rintro e w4 ⟨A2, rfl, hb2, hOA2⟩
          have HOA := hid (hOA2.mono hgz)
          have HO := hid ((HO.out).call hb2)
          clear hb2 hOA2
          clear c0 f0 z0 c1 f1 z1 c2 z2
          have c0 := HO.out.c
          have f0 := HO.out.f
          have z0 := HO.out.z
          have c1 := HO.out.tl.c
          have f1 := HO.out.tl.f
          have z1 := HO.out.tl.z
          have c2 := HO.out.tl.tl.c
          have z2 := HO.out.tl.tl.z
          go_wp2_with fail
          refine bodyPost_ret (v := CV 11 A2 2 2 0) (by simp [results, Try.results9, go_sem, *]) rfl ⟨_, _, by rw [HR2.out]; rfl, ?_, ?_⟩
          · exact (((HO.out.below.setCell (p := ⟨g, 0, none⟩) (by dsimp only; omega) _).setCell (p := ⟨g, 1, none⟩) (by dsimp only; omega) _).setCell (p := ⟨w.heap.size + 1, 0, none⟩) (Nat.le_succ _) _).setCell (p := ⟨w.heap.size + 1, 1, none⟩) (Nat.le_succ _) _
          · rw [HR2.out]; exact (((((HOA.out.set _ _ _ (by omega)).set _ _ _ (by omega)).set _ _ _ (by omega)).set _ _ _ (by omega)).mono (by omega))
      have HR2 := hid (show icanF op l = L by rw [HI.out, orderF, if_neg h16, if_neg h10, if_neg h11])
      have e16 : (op == 16) = false := beq_eq_false_iff_ne.2 h16
      have e10 : (op == 10) = false := beq_eq_false_iff_ne.2 h10
      have e11 : (op == 11) = false := beq_eq_false_iff_ne.2 h11
      clear h16 h10 h11 hlen hk
      go_wp2_with fail
      refine bodyPost_ret (v := CV op V l.length cp 0) (by simp [results, Try.results9, go_sem, *]) rfl ⟨_, _, by rw [HR2.out, HLn.out], ?_, ?_⟩
      · exact (HO.out.below.setCell (p := ⟨w.heap.size + 1, 0, none⟩) (Nat.le_succ _) _).setCell (p := ⟨w.heap.size + 1, 1, none⟩) (Nat.le_succ _) _
      · rw [HR2.out]; exact (((HOA.out.set _ _ _ (by omega)).set _ _ _ (by omega)).mono (by omega))
end Go.Proofs.Ytmlmdbholakioaa
