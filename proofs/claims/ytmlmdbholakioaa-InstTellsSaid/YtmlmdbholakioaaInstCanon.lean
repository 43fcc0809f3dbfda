/-
  The program's canon of instructions.
-/
import Derived.Test.YtmlmdbholakioaaInstPut
namespace Go.Proofs.Ytmlmdbholakioaa
open Go.RowKit

/-- What both sides' Canon answers. -/
abbrev PV (op : Int) (A : Option Addr) (n c : Nat) (e : Int) : Value := .tuple #[.agg #[.int .i64 op, .slice A n c], .int .i64 e]
set_option maxHeartbeats 2000000 in
theorem inst_canon_not {op e' : Int} {A : Option Addr} {c : Nat} {l : List Ar} (hl : l.length ≤ 9) (hf : Fine l) (he : instF op l = e') (h0 : ¬ e' = 0) (w : World) (hA : Args w w.heap.size A l) :
    Calls Try.prog 8 #[.agg #[.int .i64 op, .slice A l.length c]] w fun e w' => e = .returned (PV 0 none 0 0 e') ∧ Below w.heap.size w w' := by
  have HA := hid hA
  have HE := hid he
  have hx : (e' != 0) = true := bne_iff_ne.2 h0
  clear hA he h0
  go_enter Try.func8, Try.ntmps8
  go_wp2_with fail
  refine (inst_check hl hf _ ((HA.out.below (((Below.refl _ _).alloc (Nat.le_refl _) _).alloc (by simp) _)).mono (by simp; omega))).mono ?_
  rw [HE.out]
  rintro e w1 ⟨rfl, hb1⟩
  have HO := hid ((((Own.nil w).alloc w.heap.size #[.int .i64 op, .slice A l.length c] 24 rfl).alloc (w.heap.size + 1) #[.int .i64 0, .slice none 0 0] 24 (by simp)).call hb1)
  clear hb1
  have c0 := HO.out.c
  have f0 := HO.out.f
  have z0 := HO.out.z
  go_wp2_with fail
  refine bodyPost_ret (v := PV 0 none 0 0 e') (by simp [results, Try.results8, go_sem, *]) rfl ⟨rfl, ?_⟩
  exact (HO.out.below.setCell (by simp) _).setCell (by simp) _
theorem number_at {op x n v e' : Int} {s : Bool} {A : Option Addr} {m c : Nat} {l : List Ar} (hm : l.length = m) (h : bitsF op l = (x, s)) (hf : Fine l) (hn : I64 n) (hv : immV n x s = v) (he : immE n x = e') (w : World) (hA : Args w w.heap.size A l) :
    Calls Try.prog 28 #[.agg #[.int .i64 op, .slice A m c], .int .i64 n] w fun e w' => e = .returned (.tuple #[.int .i64 v, .int .i64 e']) ∧ Below w.heap.size w w' := by
  subst hm; exact number_of h hf hn hv he w hA
theorem ordered_at {op : Int} {P : Option Addr} {n c : Nat} {l : List Ar} (hn : l.length = n) (hl : n ≤ 4) (w : World) (hP : To w w.heap.size P l) :
    Calls Try.prog 30 #[.agg #[.int .i64 op, .slice P n c]] w fun e w' => ∃ P' c', e = .returned (.slice P' (orderF op l).length c') ∧ Below w.heap.size w w' ∧ To w' w'.heap.size P' (orderF op l) := by
  subst hn; exact ordered_any hl w hP
set_option maxHeartbeats 4000000 in
set_option maxRecDepth 100000 in
theorem inst_canon_ok {op : Int} {A : Option Addr} {c : Nat} {l : List Ar} (hl : l.length ≤ 9) (hf : Fine l) (he : instF op l = 0) (h4 : l.length ≤ 4) (hok : ∀ a ∈ l, argF a = 0) (w : World) (hA : Args w w.heap.size A l) :
    Calls Try.prog 8 #[.agg #[.int .i64 op, .slice A l.length c]] w fun e w' => ∃ A' c', e = .returned (PV op A' (icanF op l).length c' 0) ∧ Below w.heap.size w w' ∧ OwnA w.heap.size w' A' (icanF op l) := by
  have HA := hid hA
  have HFi := hid hf
  have HE := hid he
  have HOk := hid hok
  clear hA he hok
  obtain ⟨bb, hbb⟩ : ∃ bb, bitsF op l = bb := ⟨_, rfl⟩
  obtain ⟨xb, sb⟩ := bb
  have HBB := hid hbb
  clear hbb
  go_enter Try.func8, Try.ntmps8
  go_wp2_with fail
  refine (inst_check hl hf _ ((HA.out.below (((Below.refl _ _).alloc (Nat.le_refl _) _).alloc (by simp) _)).mono (by simp; omega))).mono ?_
  rw [HE.out]
  rintro e w1 ⟨rfl, hb1⟩
  have HO := hid ((((Own.nil w).alloc w.heap.size #[.int .i64 op, .slice A l.length c] 24 rfl).alloc (w.heap.size + 1) #[.int .i64 0, .slice none 0 0] 24 (by simp)).call hb1)
  clear hb1
  have c0 := HO.out.tl.c
  have z0 := HO.out.tl.z
  have z1 := HO.out.z
  go_wp2_with fail
  refine (clone_any (by omega) _ ((HA.out.below HO.out.below).mono HO.out.below.size)).mono ?_
  rintro e w2 ⟨G, cp, rfl, hb2, hG⟩
  have HO := hid (HO.out.call hb2)
  have HG := hid hG
  have hgw : w.heap.size + 2 ≤ w1.heap.size := z1
  have hw2 := hb2.size
  have HGL := hid (show ∀ g, G = some ⟨g, 0, none⟩ → l ≠ [] → w1.heap.size ≤ g ∧ g < w2.heap.size by
    intro g hg hl0
    rcases hG with h | ⟨g', cs, hg', hge, hgg, _⟩
    · exact absurd h hl0
    · rw [hg] at hg'
      simp at hg'
      subst hg'
      exact ⟨hge, (Array.getElem?_eq_some_iff.1 hgg).1⟩)
  clear hb2 hG c0 z0 z1
  have c0 := HO.out.tl.c
  have z0 := HO.out.tl.z
  go_upto_region 5 with fail
  go_cut [6] from 18 to 22 (fun s6 wx => ∃ (db : Nat) (P : Option Addr) (cq : Nat), s6 = .pointer (some ⟨db, 0, none⟩) ∧ w2.heap.size ≤ db ∧ Hid (Own w [⟨db, #[.int .i64 op, .slice P l.length cq], 51⟩, ⟨w.heap.size + 1, #[.int .i64 0, .slice none 0 0], 24⟩, ⟨w.heap.size, #[.int .i64 op, .slice A l.length c], 24⟩] wx) ∧ Hid (Ptrs w2.heap.size wx P G l.length) ∧ Hid (OwnA w1.heap.size wx G l))
  case first =>
    have hG0 : l.length = 0 ∨ ∃ b off, G = some ⟨b, off, none⟩ := by
      rcases HG.out with rfl | ⟨g, cs, rfl, _⟩
      · exact .inl rfl
      · exact .inr ⟨g, 0, rfl⟩
    have HG0 := hid hG0
    clear hG0
    have HS := Old.refl w2
    go_region_held3 (fun w' => Below w2.heap.size w2 w' ∧ ∀ b o, b < w2.heap.size → w'.cell? ⟨b, o, none⟩ = w2.cell? ⟨b, o, none⟩) (first | assumption | exact old_drew HS | exact old_drew ‹_› | exact old_alloc ‹_› _ | (refine old_kept ?_ (by assumption); assumption) | exact old_alloc (old_kept (old_drew HS) (by assumption)) _ | (refine old_set (old_set ‹_› _ _ ?_) _ _ ?_; (simp); (simp)) | (refine Old.of ?_; go_grown)) (first | (go_at_call 26; refine (pointers_any G l.length cp (by omega) HG0.out _).mono ?_; rintro e w5 ⟨P, cq, rfl, hbel, hP⟩; have hcx := fun j => Below.cell hbel (p := ⟨w2.heap.size, j, none⟩); have hfx := fun j => Below.frozen hbel (p := ⟨w2.heap.size, j, none⟩)))
    · have hB : Below w2.heap.size w2 (w5.alloc (.cells #[.int .i64 op, .slice P l.length cq] 51)) := by apply And.left; assumption
      have HB := hid hB
      have HO5 := hid ((HO.out.drew.call hbel).alloc w5.heap.size #[.int .i64 op, .slice P l.length cq] 51 rfl)
      have HP := hid (hP.below ((Below.refl _ _).alloc (Nat.le_refl _) (.cells #[.int .i64 op, .slice P l.length cq] 51)))
      have hsz : w2.heap.size ≤ w5.heap.size := hbel.size
      clear hcx hfx hB hbel hP
      go_wp2_with fail
      go_meet
      exact ⟨w5.heap.size, P, cq, rfl, hsz, HO5, HP, hid (HG.out.below HB.out)⟩
    · have hB : Below w2.heap.size w2 ((w5.setCell ⟨w2.heap.size, 0, none⟩ (.int .i64 op)).setCell ⟨w2.heap.size, 1, none⟩ (.slice P l.length cq)) := by apply And.left; assumption
      have HB := hid hB
      have HO5 := hid (show Own w [⟨w2.heap.size, #[.int .i64 op, .slice P l.length cq], 51⟩, ⟨w.heap.size + 1, #[.int .i64 0, .slice none 0 0], 24⟩, ⟨w.heap.size, #[.int .i64 op, .slice A l.length c], 24⟩] ((w5.setCell ⟨w2.heap.size, 0, none⟩ (.int .i64 op)).setCell ⟨w2.heap.size, 1, none⟩ (.slice P l.length cq)) from (((HO.out.alloc w2.heap.size #[.int .i64 0, .slice none 0 0] 51 rfl).drew.call hbel).set 0 _).set 1 _)
      have hlt2 : w2.heap.size < (w2.alloc (.cells #[.int .i64 0, .slice none 0 0] 51)).drew.heap.size := by simp
      have hne := hP.ne hlt2
      have HP := hid (((hP.set w2.heap.size 0 (.int .i64 op) hne).set w2.heap.size 1 (.slice P l.length cq) hne).mono (Nat.le_of_lt hlt2))
      clear hcx hfx hB hbel hP hne hlt2
      go_wp2_with fail
      go_meet
      exact ⟨w2.heap.size, P, cq, rfl, Nat.le_refl _, HO5, HP, hid (HG.out.below HB.out)⟩
  case rest =>
    clear HO HG c0 z0
    obtain ⟨db, P, cq, rfl, hdb, HO, HP, HG⟩ := hcut
    have c0 := HO.out.c
    have z0 := HO.out.z
    have HL0 := hid (show (canL op l).take 0 ++ l.drop 0 = l by simp)
    go_wp2_with fail
    go_loopw [26] (fun i wr => ∃ k : Nat, k ≤ l.length ∧ i = .int .i64 k ∧ Hid (Own w [⟨db, #[.int .i64 op, .slice P l.length cq], 51⟩, ⟨w.heap.size + 1, #[.int .i64 0, .slice none 0 0], 24⟩, ⟨w.heap.size, #[.int .i64 op, .slice A l.length c], 24⟩] wr) ∧ Hid (Ptrs w2.heap.size wr P G l.length) ∧ Hid (OwnA w1.heap.size wr G ((canL op l).take k ++ l.drop k))) (fun i _ => l.length - (intOf i).toNat)
    case atStart => exact ⟨0, by omega, rfl, HO, HP, hid (by rw [HL0.out]; exact HG.out)⟩
    case round =>
      clear HO HP HG HL0 c0 z0
      obtain ⟨k, hk, rfl, HO, HP, HG⟩ := hrel
      by_cases hlt : k < l.length
      · obtain ⟨a, ha⟩ : ∃ a, l[k]? = some a := ⟨_, List.getElem?_eq_getElem hlt⟩
        have hl0 : l ≠ [] := by intro h; rw [h] at hlt; simp at hlt
        have hLk : ((canL op l).take k ++ l.drop k)[k]? = some a := by
          rw [List.getElem?_append_right (by rw [List.length_take]; omega), List.length_take, canL_length, Nat.min_eq_left hk, Nat.sub_self, List.getElem?_drop, Nat.add_zero, ha]
        have hLl : k < ((canL op l).take k ++ l.drop k).length := (List.getElem?_eq_some_iff.1 hLk).1
        have HLS := hid (show ∀ x, canA (xb, sb) a = x → ((canL op l).take k ++ l.drop k).set k x = (canL op l).take (k + 1) ++ l.drop (k + 1) by
          intro x hx
          have h1 : ((canL op l).take k).length = k := by rw [List.length_take, canL_length]; omega
          rw [List.set_append_right _ _ (by omega), h1, Nat.sub_self, drop_at ha, List.set_cons_zero, List.take_add_one, canL_get ha, HBB.out, hx]
          simp)
        obtain ⟨g, rfl⟩ : ∃ g, G = some ⟨g, 0, none⟩ := by
          rcases HG.out with h | ⟨g, _, h, _⟩
          · rw [h] at hLl; simp at hLl
          · exact ⟨g, h⟩
        have hgl := HGL.out g rfl hl0
        rcases HG.out.args with h0 | ⟨b, off, hb0, hb, hc⟩
        · rw [h0] at hLl; simp at hLl
        obtain ⟨rfl, rfl⟩ : g = b ∧ 0 = off := by simp at hb0; exact hb0
        obtain ⟨pb, b', off', rfl, hA', hge, hpb, hpc⟩ := HP.out
        obtain ⟨rfl, rfl⟩ : g = b' ∧ 0 = off' := by
          rcases hA' with h | h
          · omega
          · simp at h; exact h
        have p0 := hpc k hlt
        have qs := args_cells hc hLk
        simp only [Nat.zero_add] at p0 qs
        obtain ⟨q0, q1, q2, q3, q4, q5, q6, q7, q8, q9, q10⟩ := qs
        have H0 := hid (HOk.out a (List.mem_of_getElem? ha))
        have HS := hid (HFi.out.get ha).1
        have HN := hid (HFi.out.get ha).2
        obtain ⟨x, hx⟩ : ∃ x, aoutF a = x := ⟨_, rfl⟩
        have HX := hid hx
        have hnp : ∀ pb', (some ⟨pb, 0, none⟩ : Option Addr) = some ⟨pb', 0, none⟩ → pb' ≠ g := by
          intro pb' h; simp at h; omega
        have HNP := hid hnp
        have HNE := hid (show ∀ y ∈ ([⟨db, #[.int .i64 op, .slice (some ⟨pb, 0, none⟩) l.length cq], 51⟩, ⟨w.heap.size + 1, #[.int .i64 0, .slice none 0 0], 24⟩, ⟨w.heap.size, #[.int .i64 op, .slice A l.length c], 24⟩] : List Blk), y.b ≠ g by
          intro y hy
          simp only [List.mem_cons, List.not_mem_nil, or_false] at hy
          rcases hy with rfl | rfl | rfl
          all_goals dsimp only; omega)
        clear hc hpc hA' hb0 hx hnp ha
        go_upto_if 43 with (go_at_call 27; refine (acanon_ar HX.out H0.out HS.out _).mono ?_; rintro e w5 ⟨rfl, hb5⟩; have HO := hid (HO.out.call hb5); have HP := hid (HP.out.below hb5); have HG := hid (HG.out.below hb5); clear hb5 p0 q0 q1 q2 q3 q4 q5 q6 q7 q8 q9 q10; obtain ⟨⟨q0, q1, q2, q3, q4, q5, q6, q7, q8, q9, q10⟩, fz, gz⟩ := OwnA.at HG.out hLk)
        clear q0 q1 q2 q3 q4 q5 q6 q7 q8 q9 q10
        refine wp_gen (fun w' => Hid (Own w [⟨db, #[.int .i64 op, .slice (some ⟨pb, 0, none⟩) l.length cq], 51⟩, ⟨w.heap.size + 1, #[.int .i64 0, .slice none 0 0], 24⟩, ⟨w.heap.size, #[.int .i64 op, .slice A l.length c], 24⟩] w') ∧ Hid (Ptrs w2.heap.size w' (some ⟨pb, 0, none⟩) (some ⟨g, 0, none⟩) l.length) ∧ Hid (OwnA w1.heap.size w' (some ⟨g, 0, none⟩) (((canL op l).take k ++ l.drop k).set k x))) ⟨hid (show Own w _ (putW w5 g (k * 11) (AC x)) from HO.out.put (by omega) HNE.out _ _), hid (show Ptrs _ (putW w5 g (k * 11) (AC x)) _ _ _ from HP.out.put _ _ _ HNP.out), hid (show OwnA _ (putW w5 g (k * 11) (AC x)) _ _ from HG.out.put x hLl)⟩ ?_
        clear HO HP HG fz gz
        rintro w6 ⟨HO, HP, HG⟩
        have hLx : (((canL op l).take k ++ l.drop k).set k x)[k]? = some x := List.getElem?_set_self hLl
        obtain ⟨⟨q0, q1, q2, q3, q4, q5, q6, q7, q8, q9, q10⟩, fz, gz⟩ := OwnA.at HG.out hLx
        by_cases h3 : x.k = 3
        · have HC := hid (show canA (xb, sb) a = ⟨x.k, x.rc, x.rn, x.m, immV x.n xb sb⟩ from canA_imm (b := (xb, sb)) HX.out H0.out h3)
          have HM := hid (show I64 x.n by
            have h := HX.out
            have hk3 : a.k = 3 := by rw [← aout_kind H0.out, h]; exact h3
            rw [← h, aout_num H0.out hk3]; exact HN.out)
          have c2 := HO.out.tl.tl.c
          have z2 := HO.out.tl.tl.z
          obtain ⟨vv, hvv⟩ : ∃ vv, immV x.n xb sb = vv := ⟨_, rfl⟩
          have HV := hid hvv
          rw [hvv] at HC
          have HLx := hid hLx
          have HLt := hid (show (((canL op l).take k ++ l.drop k).set k x).set k ⟨x.k, x.rc, x.rn, x.m, vv⟩ = (canL op l).take (k + 1) ++ l.drop (k + 1) by rw [List.set_set]; exact HLS.out _ HC.out)
          clear hvv hLx
          go_wp2_with fail
          go_region_with (go_at_call 28; refine (number_of HBB.out HFi.out HM.out HV.out rfl _ ?_).mono ?_; exact (HA.out.below HO.out.below.drew).mono HO.out.below.size; rintro e w7 ⟨rfl, hb7⟩; have HO := hid (HO.out.drew.call hb7); have HP := hid (Ptrs.below (w := w6.drew) HP.out hb7); have HG := hid (OwnA.below (w := w6.drew) HG.out hb7); clear hb7 q0 q1 q2 q3 q4 q5 q6 q7 q8 q9 q10 fz gz c2 z2; obtain ⟨⟨q0, q1, q2, q3, q4, q5, q6, q7, q8, q9, q10⟩, fz, gz⟩ := OwnA.at HG.out HLx.out)
          all_goals
            have HO7 := hid (HO.out.other (g := g) (by omega) HNE.out (k * 11 + 10) (.int .i64 vv))
            have HP7 := hid (HP.out.set g (k * 11 + 10) (.int .i64 vv) HNP.out)
            have HG7 := hid (show OwnA w1.heap.size (w7.setCell ⟨g, k * 11 + 10, none⟩ (.int .i64 vv)) (some ⟨g, 0, none⟩) ((canL op l).take (k + 1) ++ l.drop (k + 1)) by rw [← HLt.out]; exact HG.out.num vv HLx.out)
            go_wp2_with fail
            go_roundw
            case rel => exact ⟨k + 1, by omega, by go_num, HO7, HP7, HG7⟩
            case measure => simp [intOf]; omega
        · have HC := hid (canA_other (b := (xb, sb)) HX.out H0.out h3)
          have HG2 := hid (show OwnA w1.heap.size w6 (some ⟨g, 0, none⟩) ((canL op l).take (k + 1) ++ l.drop (k + 1)) by rw [← HLS.out x HC.out]; exact HG.out)
          clear hLx
          go_wp2_with fail
          go_roundw
          case rel => exact ⟨k + 1, by omega, by go_num, HO, HP, HG2⟩
          case measure => simp [intOf]; omega
      · have hkl : k = l.length := by omega
        subst hkl
        have HGL2 := hid (show OwnA w1.heap.size wr G (canL op l) by
          have h := HG.out
          rw [List.take_of_length_le (by rw [canL_length]; omega), List.drop_of_length_le (Nat.le_refl _), List.append_nil] at h
          exact h)
        have HLn := hid (canL_length op l)
        have HT := hid (To.of (l := canL op l) (HLn.out ▸ HP.out) HGL2.out.args)
        have c0 := HO.out.c
        have z0 := HO.out.z
        go_wp2_with fail
        have H4 := hid (order_length op (canL op l) (by rw [canL_length]; exact h4))
        have HB0 := hid (show w.heap.size + 1 < wr.heap.size from HO.out.tl.z)
        go_region_with (first | (go_at_call 30; refine (ordered_at HLn.out h4 _ ?_).mono ?_; exact HT.out; rintro e w7 ⟨P', c', rfl, hb7, hT7⟩; have HO := hid (HO.out.drew.call hb7); have HT7 := hid hT7; have HZ7 := hid (Nat.lt_of_lt_of_le HB0.out hb7.size); clear hb7 hT7 c0 z0; have c0 := HO.out.c; have z0 := HO.out.z) | (go_at_call 29; refine (with_any _ P' _ _ c' (orderF op (canL op l)) H4.out _ ?_).mono ?_; exact HT7.out; rintro e w8 ⟨A8, c8, rfl, hb8, hA8⟩; have HO := hid (HO.out.call hb8); have HA8 := hid hA8; clear hb8 hA8 c0 z0; have c1 := HO.out.tl.c; have f1 := HO.out.tl.f; have z1 := HO.out.tl.z))
        all_goals
          have hz7 := HZ7.out
          go_wp2_with fail
          refine bodyPost_ret (v := PV op A8 (icanF op l).length c8 0) (by simp [results, Try.results8, go_sem, icanF, *]) rfl ⟨A8, c8, rfl, ?_, ?_⟩
          · exact (HO.out.below.setCell (p := ⟨w.heap.size + 1, 0, none⟩) (Nat.le_succ _) _).setCell (p := ⟨w.heap.size + 1, 1, none⟩) (Nat.le_succ _) _
          · exact (((HA8.out.set _ _ _ hz7).set _ _ _ hz7).mono (by omega))
end Go.Proofs.Ytmlmdbholakioaa
