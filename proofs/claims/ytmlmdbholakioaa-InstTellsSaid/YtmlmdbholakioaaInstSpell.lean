/-
  The program's Spellings.
-/
import Derived.Test.YtmlmdbholakioaaInstSp0
namespace Go.Proofs.Ytmlmdbholakioaa
open Go.RowKit

theorem run_neq_reg {a b c d : Int} {v : Bool} (h : (a == c && b == d) = v) (w : World) : (binOp .neq 38 (.agg #[.int .i64 a, .int .i64 b]) (.agg #[.int .i64 c, .int .i64 d])).run Try.prog w = .ok (.bool (!v)) w := by
  rw [run_neq_struct, run_eq_reg a b c d 9996 w, ← h]
  rfl
/-- One instruction as a row that may grow. -/
theorem row_inst {w wx : World} {b : Nat} {x y : Value} {l : List Blk} (h : Own w (⟨b, #[x, y], 24⟩ :: l) wx) : wx.ownsRow b 24 2 (.slice (some ⟨b, 0, none⟩) 1 1) 1 [x, y] :=
  ⟨rfl, .inr ⟨b, 1, #[x, y], rfl, Nat.le_refl _, (h.2.1 _ List.mem_cons_self).2, Nat.le_refl _, by unfold maxLen; omega, rfl, rfl⟩⟩
theorem OwnA.grown {base : Nat} {w w' : World} {A : Option Addr} {l : List Ar} {row : Option Nat} (h : OwnA base w A l) (hg : w.grownBy w' row) (hne : ∀ g, A = some ⟨g, 0, none⟩ → some g ≠ row) : OwnA base w' A l := by
  rcases h with rfl | ⟨g, cs, rfl, hge, hgg, hc⟩
  · left; rfl
  · exact .inr ⟨g, cs, rfl, hge, (hg.block g (Array.getElem?_eq_some_iff.1 hgg).1 (hne g rfl)).trans hgg, hc⟩
theorem isp_none {op : Int} {A : Option Addr} {c : Nat} {l : List Ar} (hl : l.length ≤ 9) (hf : Fine l) (h : ¬ instF op l = 0) (w : World) (hA : Args w w.heap.size A l) :
    Calls Try.prog 18 #[.agg #[.int .i64 op, .slice A l.length c]] w fun e w' => e = .returned (.slice none 0 0) ∧ Below w.heap.size w w' := by
  have HA := hid (hA.call ((Below.refl w.heap.size w).alloc (Nat.le_refl _) (.cells #[.int .i64 op, .slice A l.length c] 24)))
  have HO := hid ((Own.nil w).alloc w.heap.size #[.int .i64 op, .slice A l.length c] 24 rfl)
  obtain ⟨e1, he1⟩ : ∃ e1, instF op l = e1 := ⟨_, rfl⟩
  have HE := hid he1
  rw [he1] at h
  have hx : (e1 != 0) = true := bne_iff_ne.2 h
  clear hA h he1
  go_enter Try.func18, Try.ntmps18
  go_wp2_with fail
  refine (inst_canon_any hl hf _ HA.out).mono ?_
  rw [HE.out]
  rintro e w1 ⟨A1, c1, rfl, hb1, hA1⟩
  have HB := hid ((HO.out.call hb1).below)
  clear hb1 hA1
  go_wp2_with fail
  go_ret
  exact ⟨rfl, HB.out.alloc HB.out.size _⟩
set_option maxHeartbeats 4000000 in
theorem isp_start {op : Int} {A : Option Addr} {c : Nat} {l L : List Ar} (hl : l.length ≤ 9) (hf : Fine l) (h : instF op l = 0) (hL : icanF op l = L) (w : World) (hA : Args w w.heap.size A l) :
    Calls Try.prog 18 #[.agg #[.int .i64 op, .slice A l.length c]] w fun e w' => ∃ v, e = .returned v ∧ Below w.heap.size w w' ∧ SpAny w.heap.size w' v op L := by
  have HA := hid (hA.call ((Below.refl w.heap.size w).alloc (Nat.le_refl _) (.cells #[.int .i64 op, .slice A l.length c] 24)))
  have HO := hid ((Own.nil w).alloc w.heap.size #[.int .i64 op, .slice A l.length c] 24 rfl)
  obtain ⟨h4, hok⟩ := instF_ok h
  have h4L := hid (show L.length ≤ 4 by rw [← hL]; exact order_length op _ (by rw [canL_length]; exact h4))
  have HE := hid h
  have HL := hid hL
  clear hA h hL hok
  go_enter Try.func18, Try.ntmps18
  go_wp2_with fail
  refine (inst_canon_any hl hf _ HA.out).mono ?_
  rw [canonOp, canonL, if_pos HE.out, if_pos HE.out, HE.out, HL.out]
  rintro e w1 ⟨A1, c1, rfl, hb1, hA1⟩
  have HO := hid (((HO.out.call hb1).alloc w1.heap.size #[.int .i64 op, .slice A1 L.length c1] 24 rfl).alloc (w1.heap.size + 1) #[.int .i64 op, .slice A1 L.length c1] 24 (by simp))
  have HG := hid ((hA1.below (two_alloc w1 (.cells #[.int .i64 op, .slice A1 L.length c1] 24) (.cells #[.int .i64 op, .slice A1 L.length c1] 24))).mono (show w.heap.size ≤ _ by simp))
  have hgl : ∀ g, A1 = some ⟨g, 0, none⟩ → L ≠ [] → w.heap.size ≤ g ∧ g < w1.heap.size := fun g hg hl0 => by
    subst hg
    have h := OwnA.lt hA1 hl0
    exact ⟨Nat.le_trans (by simp) h.1, h.2⟩
  have HGL := hid hgl
  have hw1 : w.heap.size ≤ w1.heap.size := Nat.le_trans (by simp) hb1.size
  clear hb1 hA1 hgl
  go_upto_region 5 with fail
  have hW : ((w1.alloc (.cells #[.int .i64 op, .slice A1 L.length c1] 24)).alloc (.cells #[.int .i64 op, .slice A1 L.length c1] 24)).heap.size = w1.heap.size + 2 := by simp
  generalize (w1.alloc (.cells #[.int .i64 op, .slice A1 L.length c1] 24)).alloc (.cells #[.int .i64 op, .slice A1 L.length c1] 24) = W at HO HG hW ⊢
  have HWS := hid hW
  clear hW
  have c0 := HO.out.tl.c
  have z0 := HO.out.tl.z
  go_cut [6] from 16 to 21 (fun s6 wx => ∃ (db : Nat) (P : Option Addr) (cq : Nat), s6 = .pointer (some ⟨db, 0, none⟩) ∧ W.heap.size ≤ db ∧ Hid (Own w [⟨db, #[.int .i64 op, .slice P L.length cq], 51⟩, ⟨w1.heap.size + 1, #[.int .i64 op, .slice A1 L.length c1], 24⟩, ⟨w1.heap.size, #[.int .i64 op, .slice A1 L.length c1], 24⟩, ⟨w.heap.size, #[.int .i64 op, .slice A l.length c], 24⟩] wx) ∧ Hid (Ptrs W.heap.size wx P A1 L.length) ∧ Hid (OwnA w.heap.size wx A1 L))
  case first =>
    have hG0 : L.length = 0 ∨ ∃ b off, A1 = some ⟨b, off, none⟩ := by
      rcases HG.out with rfl | ⟨g, cs, rfl, _⟩
      · exact .inl rfl
      · exact .inr ⟨g, 0, rfl⟩
    have HG0 := hid hG0
    clear hG0
    have HS := Old.refl W
    have h9 := h4L.out
    go_region_held3 (fun w' => Below W.heap.size W w' ∧ ∀ b o, b < W.heap.size → w'.cell? ⟨b, o, none⟩ = W.cell? ⟨b, o, none⟩) (first | assumption | exact old_drew HS | exact old_drew ‹_› | exact old_alloc ‹_› _ | (refine old_kept ?_ (by assumption); assumption) | exact old_alloc (old_kept (old_drew HS) (by assumption)) _ | (refine old_set (old_set ‹_› _ _ ?_) _ _ ?_; (simp); (simp)) | (refine Old.of ?_; go_grown)) (first | (go_at_call 26; refine (pointers_any A1 L.length c1 (by omega) HG0.out _).mono ?_; rintro e w5 ⟨P, cq, rfl, hbel, hP⟩; have hcx := fun j => Below.cell hbel (p := ⟨W.heap.size, j, none⟩); have hfx := fun j => Below.frozen hbel (p := ⟨W.heap.size, j, none⟩)))
    · have hB : Below W.heap.size W (w5.alloc (.cells #[.int .i64 op, .slice P L.length cq] 51)) := by apply And.left; assumption
      have HB := hid hB
      have HO5 := hid ((HO.out.drew.call hbel).alloc w5.heap.size #[.int .i64 op, .slice P L.length cq] 51 rfl)
      have HP := hid (hP.below ((Below.refl _ _).alloc (Nat.le_refl _) (.cells #[.int .i64 op, .slice P L.length cq] 51)))
      have hsz : W.heap.size ≤ w5.heap.size := hbel.size
      clear hcx hfx hB hbel hP
      go_wp2_with fail
      go_meet
      exact ⟨w5.heap.size, P, cq, rfl, hsz, HO5, HP, hid (HG.out.below HB.out)⟩
    · have hB : Below W.heap.size W ((w5.setCell ⟨W.heap.size, 0, none⟩ (.int .i64 op)).setCell ⟨W.heap.size, 1, none⟩ (.slice P L.length cq)) := by apply And.left; assumption
      have HB := hid hB
      have HO5 := hid (show Own w [⟨W.heap.size, #[.int .i64 op, .slice P L.length cq], 51⟩, ⟨w1.heap.size + 1, #[.int .i64 op, .slice A1 L.length c1], 24⟩, ⟨w1.heap.size, #[.int .i64 op, .slice A1 L.length c1], 24⟩, ⟨w.heap.size, #[.int .i64 op, .slice A l.length c], 24⟩] ((w5.setCell ⟨W.heap.size, 0, none⟩ (.int .i64 op)).setCell ⟨W.heap.size, 1, none⟩ (.slice P L.length cq)) from (((HO.out.alloc W.heap.size #[.int .i64 0, .slice none 0 0] 51 rfl).drew.call hbel).set 0 _).set 1 _)
      have hlt2 : W.heap.size < (W.alloc (.cells #[.int .i64 0, .slice none 0 0] 51)).drew.heap.size := by simp
      have hne := hP.ne hlt2
      have HP := hid (((hP.set W.heap.size 0 (.int .i64 op) hne).set W.heap.size 1 (.slice P L.length cq) hne).mono (Nat.le_of_lt hlt2))
      clear hcx hfx hB hbel hP hne hlt2
      go_wp2_with fail
      go_meet
      exact ⟨W.heap.size, P, cq, rfl, Nat.le_refl _, HO5, HP, hid (HG.out.below HB.out)⟩
  case rest =>
    clear HO HG c0 z0
    obtain ⟨db, P, cq, rfl, hdb, HO, HP, HG⟩ := hcut
    have HT := hid (To.of HP.out HG.out.args)
    have c0 := HO.out.c
    have z0 := HO.out.z
    go_upto_region 6 with fail
    have HS := Old.refl wc
    generalize wc = W6 at *
    cases ha : alikeF op L
    · have HAl := hid ha
      have HSp := hid (show spF op L = false by rw [spF, ha]; rfl)
      clear ha
      refine wp_region_noPanic ?_
      refine wp_region_held_drew (S := (fun w' => Below W6.heap.size W6 w' ∧ ∀ b o, b < W6.heap.size → w'.cell? ⟨b, o, none⟩ = W6.cell? ⟨b, o, none⟩)) (by kernel_rfl) ?_ (fun hHeld => ?_)
      · (first | assumption | exact old_drew HS | exact old_drew ‹_› | (refine old_kept ?_ (by assumption); assumption))
      refine wpAnyH_take (i := 0) (v := ?_) (show _ = some (Oper.mk _ _ _ _ _ _) from rfl) (by kernel_rfl) (by kernel_rfl) (by kernel_rfl) (fun _ _ _ h => h) (Or.inl ⟨by kernel_rfl, ?_⟩) (by assumption) ?_
      rotate_left
      · intro w hSw; (try dsimp only at hSw); go_simp; try with_reducible rfl
      simp only [Act.put, List.setIfInBounds_toArray, List.set_cons_zero, List.set_cons_succ]
      refine wpAnyH_ready (rs := [1]) (by kernel_rfl) (by simp) ?_
      refine AllReadyH.cons (show _ = some (Oper.mk _ _ _ _ _ _) from rfl) (fun K hK => ?_) AllReadyH.nil
      go_simp
      go_at_call 47; refine (alike_of HAl.out rfl _ ?_).mono ?_; exact HT.out.call (by apply And.left; assumption); rintro e w5 ⟨rfl, hbel⟩
      go_wp2_with fail
      refine hK.out _ _ ?_ (fun hHeld => ?_)
      · try dsimp only
        (first | assumption | exact old_drew HS | exact old_drew ‹_› | (refine old_kept ?_ (by assumption); assumption))
      clear hK K
      refine wpAnyH_take (i := 2) (v := ?_) (show _ = some (Oper.mk _ _ _ _ _ _) from rfl) (by kernel_rfl) (by kernel_rfl) (by kernel_rfl) (fun _ _ _ h => h) (Or.inl ⟨by kernel_rfl, ?_⟩) (by assumption) ?_
      rotate_left
      · intro w hSw; (try dsimp only at hSw); go_simp; try with_reducible rfl
      simp only [Act.put, List.setIfInBounds_toArray, List.set_cons_zero, List.set_cons_succ]
      refine wpAnyH_take (i := 3) (v := undef) (show _ = some (Oper.mk _ _ _ _ _ _) from rfl) (by kernel_rfl) (by kernel_rfl) (by kernel_rfl) (fun _ _ _ h => h) (Or.inr ⟨by kernel_rfl, rfl⟩) (by assumption) ?_
      simp only [Act.put, List.setIfInBounds_toArray, List.set_cons_zero, List.set_cons_succ]
      refine wpAnyH_take (i := 4) (v := undef) (show _ = some (Oper.mk _ _ _ _ _ _) from rfl) (by kernel_rfl) (by kernel_rfl) (by kernel_rfl) (fun _ _ _ h => h) (Or.inr ⟨by kernel_rfl, rfl⟩) (by assumption) ?_
      simp only [Act.put, List.setIfInBounds_toArray, List.set_cons_zero, List.set_cons_succ]
      refine wpAnyH_take (i := 5) (v := undef) (show _ = some (Oper.mk _ _ _ _ _ _) from rfl) (by kernel_rfl) (by kernel_rfl) (by kernel_rfl) (fun _ _ _ h => h) (Or.inr ⟨by kernel_rfl, rfl⟩) (by assumption) ?_
      simp only [Act.put, List.setIfInBounds_toArray, List.set_cons_zero, List.set_cons_succ]
      refine wpAnyH_take (i := 6) (v := undef) (show _ = some (Oper.mk _ _ _ _ _ _) from rfl) (by kernel_rfl) (by kernel_rfl) (by kernel_rfl) (fun _ _ _ h => h) (Or.inr ⟨by kernel_rfl, rfl⟩) (by assumption) ?_
      simp only [Act.put, List.setIfInBounds_toArray, List.set_cons_zero, List.set_cons_succ]
      refine wpAnyH_take (i := 7) (v := undef) (show _ = some (Oper.mk _ _ _ _ _ _) from rfl) (by kernel_rfl) (by kernel_rfl) (by kernel_rfl) (fun _ _ _ h => h) (Or.inr ⟨by kernel_rfl, rfl⟩) (by assumption) ?_
      simp only [Act.put, List.setIfInBounds_toArray, List.set_cons_zero, List.set_cons_succ]
      refine wpAnyH_take (i := 8) (v := undef) (show _ = some (Oper.mk _ _ _ _ _ _) from rfl) (by kernel_rfl) (by kernel_rfl) (by kernel_rfl) (fun _ _ _ h => h) (Or.inr ⟨by kernel_rfl, rfl⟩) (by assumption) ?_
      simp only [Act.put, List.setIfInBounds_toArray, List.set_cons_zero, List.set_cons_succ]
      refine wpAnyH_take (i := 9) (v := undef) (show _ = some (Oper.mk _ _ _ _ _ _) from rfl) (by kernel_rfl) (by kernel_rfl) (by kernel_rfl) (fun _ _ _ h => h) (Or.inr ⟨by kernel_rfl, rfl⟩) (by assumption) ?_
      simp only [Act.put, List.setIfInBounds_toArray, List.set_cons_zero, List.set_cons_succ]
      refine wpAnyH_take (i := 10) (v := undef) (show _ = some (Oper.mk _ _ _ _ _ _) from rfl) (by kernel_rfl) (by kernel_rfl) (by kernel_rfl) (fun _ _ _ h => h) (Or.inr ⟨by kernel_rfl, rfl⟩) (by assumption) ?_
      simp only [Act.put, List.setIfInBounds_toArray, List.set_cons_zero, List.set_cons_succ]
      refine wpAnyH_take (i := 11) (v := undef) (show _ = some (Oper.mk _ _ _ _ _ _) from rfl) (by kernel_rfl) (by kernel_rfl) (by kernel_rfl) (fun _ _ _ h => h) (Or.inr ⟨by kernel_rfl, rfl⟩) (by assumption) ?_
      simp only [Act.put, List.setIfInBounds_toArray, List.set_cons_zero, List.set_cons_succ]
      refine wpAnyH_take (i := 12) (v := undef) (show _ = some (Oper.mk _ _ _ _ _ _) from rfl) (by kernel_rfl) (by kernel_rfl) (by kernel_rfl) (fun _ _ _ h => h) (Or.inr ⟨by kernel_rfl, rfl⟩) (by assumption) ?_
      simp only [Act.put, List.setIfInBounds_toArray, List.set_cons_zero, List.set_cons_succ]
      refine wpAnyH_take (i := 13) (v := undef) (show _ = some (Oper.mk _ _ _ _ _ _) from rfl) (by kernel_rfl) (by kernel_rfl) (by kernel_rfl) (fun _ _ _ h => h) (Or.inr ⟨by kernel_rfl, rfl⟩) (by assumption) ?_
      simp only [Act.put, List.setIfInBounds_toArray, List.set_cons_zero, List.set_cons_succ]
      refine wpAnyH_take (i := 14) (v := undef) (show _ = some (Oper.mk _ _ _ _ _ _) from rfl) (by kernel_rfl) (by kernel_rfl) (by kernel_rfl) (fun _ _ _ h => h) (Or.inr ⟨by kernel_rfl, rfl⟩) (by assumption) ?_
      simp only [Act.put, List.setIfInBounds_toArray, List.set_cons_zero, List.set_cons_succ]
      refine wpAnyH_take (i := 15) (v := undef) (show _ = some (Oper.mk _ _ _ _ _ _) from rfl) (by kernel_rfl) (by kernel_rfl) (by kernel_rfl) (fun _ _ _ h => h) (Or.inr ⟨by kernel_rfl, rfl⟩) (by assumption) ?_
      simp only [Act.put, List.setIfInBounds_toArray, List.set_cons_zero, List.set_cons_succ]
      refine wpAnyH_take (i := 16) (v := undef) (show _ = some (Oper.mk _ _ _ _ _ _) from rfl) (by kernel_rfl) (by kernel_rfl) (by kernel_rfl) (fun _ _ _ h => h) (Or.inr ⟨by kernel_rfl, rfl⟩) (by assumption) ?_
      simp only [Act.put, List.setIfInBounds_toArray, List.set_cons_zero, List.set_cons_succ]
      refine wpAnyH_take (i := 17) (v := undef) (show _ = some (Oper.mk _ _ _ _ _ _) from rfl) (by kernel_rfl) (by kernel_rfl) (by kernel_rfl) (fun _ _ _ h => h) (Or.inr ⟨by kernel_rfl, rfl⟩) (by assumption) ?_
      simp only [Act.put, List.setIfInBounds_toArray, List.set_cons_zero, List.set_cons_succ]
      refine wpAnyH_take (i := 18) (v := ?_) (show _ = some (Oper.mk _ _ _ _ _ _) from rfl) (by kernel_rfl) (by kernel_rfl) (by kernel_rfl) (fun _ _ _ h => h) (Or.inl ⟨by kernel_rfl, ?_⟩) (by assumption) ?_
      rotate_left
      · intro w hSw; (try dsimp only at hSw); go_simp; try with_reducible rfl
      simp only [Act.put, List.setIfInBounds_toArray, List.set_cons_zero, List.set_cons_succ]
      refine wpAnyH_done (by kernel_rfl) ?_ _
      refine NoPanic.normal ?_
      have HK := hid (show Below W6.heap.size W6 w5 by apply And.left; assumption)
      have HO5 := hid (HO.out.call HK.out)
      have HG5 := hid (HG.out.below HK.out)
      clear hdb c0 z0
      go_wp2_with fail
      go_ret
      refine ⟨_, rfl, HO5.out.below, ?_⟩
      exact SpAny.one HSp.out ⟨_, _, A1, c1, rfl, by omega, HO5.out.tl.z, HO5.out.tl.c 0, HO5.out.tl.c 1, HG5.out⟩
    · have ha2 := ha
      simp only [alikeF, Bool.and_eq_true] at ha2
      obtain ⟨x, y, rfl, _, _⟩ := isF_two ha2.1.2
      have hcl : (x.rc == y.rc) = true := ha2.2
      have HAl := hid ha
      clear ha ha2
      obtain ⟨pb, po, b1, o1, b2, o2, rfl, hpb, hb1, hb2, h1, h2, h3, h4'⟩ := HT.out.two
      have x1 := h3 1 (by decide)
      have x2 := h3 2 (by decide)
      have y1 := h4' 1 (by decide)
      have y2 := h4' 2 (by decide)
      simp only [List.getElem?_cons_zero, List.getElem?_cons_succ] at x1 x2 y1 y2
      clear h3 h4'
      cases hrn : (x.rn == y.rn)
      · have hcmp := run_neq_reg (show ((x.rc == y.rc) && (x.rn == y.rn)) = false by rw [hcl, hrn]; rfl)
        have HSp := hid (show spF op [x, y] = true by rw [spF, HAl.out]; simp only [nnF, Bool.true_and, bne, hrn]; rfl)
        clear hcl hrn
        go_region_held3 (fun w' => Below W6.heap.size W6 w' ∧ ∀ b o, b < W6.heap.size → w'.cell? ⟨b, o, none⟩ = W6.cell? ⟨b, o, none⟩) (first | assumption | exact old_drew HS | exact old_drew ‹_› | (refine old_kept ?_ (by assumption); assumption)) (first | (go_at_call 47; refine (alike_of HAl.out rfl _ ?_).mono ?_; exact HT.out.call (by apply And.left; assumption); rintro e w5 ⟨rfl, hbel⟩))
        have HK := hid (show Below W6.heap.size W6 w5 by apply And.left; assumption)
        have HO5 := hid (HO.out.call HK.out)
        have HG5 := hid (HG.out.below HK.out)
        have HT5 := hid (HT.out.call HK.out)
        have hz5 : w1.heap.size + 2 ≤ w5.heap.size := by
          have := HO5.out.tl.z
          omega
        clear hdb c0 z0 hcmp h1 h2 x1 x2 y1 y2 hpb hb1 hb2 HS
        have c0 := HO5.out.c
        have z0 := HO5.out.z
        obtain ⟨i0, hi, hz0, hz1, hz2⟩ := info_parts infoInst
        have I0 := hid hz0; have I1 := hid hz1; have I2 := hid hz2; have I3 := hid hi
        clear hi hz0 hz1 hz2
        go_wp2_with fail
        go_region_law (first | (go_simp; go_at_call 48; refine (exchanged_any _ _ x y _ ?_).mono ?_; exact HT5.out; rintro e w7 ⟨P7, rfl, hb7, hT7⟩; have HO7 := hid (HO5.out.drew.call hb7); have HG7 := hid (OwnA.below (w := w5.drew) HG5.out hb7); have HT7 := hid hT7; have hz7 := Nat.le_trans hz5 hb7.size; clear hb7 hT7 c0 z0; have c0 := HO7.out.c; have z0 := HO7.out.z) | (go_simp; go_at_call 29; refine (with_any _ P7 _ _ 2 [y, x] (by simp) _ ?_).mono ?_; exact HT7.out; rintro e w8 ⟨A8, c8, rfl, hb8, hA8⟩; have HO8 := hid (HO7.out.call hb8); have HG8 := hid (HG7.out.below hb8); have HA8 := hid hA8; have hz8 := Nat.le_trans hz7 hb8.size; clear hb8 hA8 c0 z0) | (refine step_append_lies _ ?_ (.tmp 41) (.tmp 46) 35 ?_ (w1.heap.size + 1) 24 i0 (.agg #[.int .i64 0, .slice none 0 0]) 2 32 Try.underlying35 I3.out I0.out I1.out I2.out rfl (by decide) (.slice (some ⟨w1.heap.size + 1, 0, none⟩) 1 1) 1 [.int .i64 op, .slice A1 2 c1] ?_ ?_ ⟨w8.heap.size, 0, none⟩ 1 1 [.int .i64 op, .slice A8 2 c8] ?_ rfl ?_ ?_ (by decide) ?_ ?_ ?_ _ rfl ?_; rfl; rfl; rfl; exact (row_inst HO8.out.tl).alloc _; rfl; (exact cells_at w8 _ _ rfl); (intro u hu; simp at hu; rcases hu with rfl | rfl <;> rfl); (unfold maxLen; omega); omega; (simp; omega); intro q cq w9 hown hgrow hlies hlt9))
        all_goals
          have hadd : ∀ j, (⟨q, 0, none⟩ : Addr).add j = ⟨q, j, none⟩ := fun j => by unfold Addr.add; split <;> simp_all
          have hcells := hown.cells (g := q) rfl
          have hq := (hown.lt q rfl).1
          have e0 := hcells 0 _ rfl
          have e1 := hcells 1 _ rfl
          have e2 := hcells 2 _ rfl
          have e3 := hcells 3 _ rfl
          rw [hadd] at e0 e1 e2 e3
          have hnew := (Below.refl w8.heap.size w8).alloc (Nat.le_refl _) (.cells #[.int .i64 op, .slice A8 2 c8] 24)
          have HGf := hid ((HG8.out.below hnew).grown hgrow (fun g hg => by
            have := HGL.out g hg (by simp)
            simp only [Value.ownBlock, ne_eq, Option.some.injEq]; omega))
          have hw7 : w1.heap.size + 1 < w7.heap.size := by omega
          have HAf := hid (((HA8.out.below hnew).grown hgrow (fun g hg => by
            have := OwnA.lt (g := g) (show OwnA w7.heap.size w8 (some ⟨g, 0, none⟩) [y, x] by rw [← hg]; exact HA8.out) (by simp)
            simp only [Value.ownBlock, ne_eq, Option.some.injEq]; omega)).mono (show w.heap.size ≤ w7.heap.size by omega))
          have HBf := hid ((HO8.out.below.alloc HO8.out.below.size (.cells #[.int .i64 op, .slice A8 2 c8] 24)).grown hgrow (by simp; omega) (fun k hk => by simp [Value.ownBlock] at hk; omega))
          have HSP := hid (show SpTwo w.heap.size w9 (.slice (some ⟨q, 0, none⟩) 2 cq) op [x, y] (swF [x, y]) from
            ⟨q, cq, A1, c1, A8, c8, rfl, by omega, hlt9, e0, e1, e2, e3, HGf.out, HAf.out, (fun g hg => by have := HGL.out g hg (by simp); omega), fun g hg h hh => by
              have h1 := HGL.out g hg (by simp)
              have h2 := OwnA.lt (g := h) (show OwnA w7.heap.size w8 (some ⟨h, 0, none⟩) [y, x] by rw [← hh]; exact HA8.out) (by simp)
              omega⟩)
          clear hcells e0 e1 e2 e3 hown hgrow hlies hadd
          go_wp2_with fail
          go_ret
          exact ⟨_, rfl, HBf.out, SpAny.two HSp.out HSP.out⟩
      · have hcmp := run_neq_reg (show ((x.rc == y.rc) && (x.rn == y.rn)) = true by rw [hcl, hrn]; rfl)
        have HSp := hid (show spF op [x, y] = false by rw [spF, HAl.out]; simp only [nnF, Bool.true_and, bne, hrn]; rfl)
        clear hcl hrn
        go_region_held3 (fun w' => Below W6.heap.size W6 w' ∧ ∀ b o, b < W6.heap.size → w'.cell? ⟨b, o, none⟩ = W6.cell? ⟨b, o, none⟩) (first | assumption | exact old_drew HS | exact old_drew ‹_› | (refine old_kept ?_ (by assumption); assumption)) (first | (go_at_call 47; refine (alike_of HAl.out rfl _ ?_).mono ?_; exact HT.out.call (by apply And.left; assumption); rintro e w5 ⟨rfl, hbel⟩))
        clear hcmp h1 h2 x1 x2 y1 y2 hpb hb1 hb2
        have HK := hid (show Below W6.heap.size W6 w5 by apply And.left; assumption)
        have HO5 := hid (HO.out.call HK.out)
        have HG5 := hid (HG.out.below HK.out)
        clear hdb c0 z0
        go_wp2_with fail
        go_ret
        refine ⟨_, rfl, HO5.out.below, ?_⟩
        exact SpAny.one HSp.out ⟨_, _, A1, c1, rfl, by omega, HO5.out.tl.z, HO5.out.tl.c 0, HO5.out.tl.c 1, HG5.out⟩
end Go.Proofs.Ytmlmdbholakioaa
