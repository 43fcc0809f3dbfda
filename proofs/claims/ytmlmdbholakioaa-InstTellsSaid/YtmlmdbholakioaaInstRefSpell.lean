/-
  The document's Spellings.
-/
import Derived.Test.YtmlmdbholakioaaInstSpell
namespace Go.Proofs.Ytmlmdbholakioaa
open Go.RowKit

theorem rsp_none {op : Int} {A : Option Addr} {c : Nat} {l : List Ar} (hl : l.length ≤ 9) (hf : Fine l) (h : ¬ instF op l = 0) (w : World) (hA : Args w w.heap.size A l) :
    Calls Try.prog 19 #[.agg #[.int .i64 op, .slice A l.length c]] w fun e w' => e = .returned (.slice none 0 0) ∧ Below w.heap.size w w' := by
  have HA := hid (hA.call ((Below.refl w.heap.size w).alloc (Nat.le_refl _) (.cells #[.int .i64 op, .slice A l.length c] 24)))
  have HO := hid ((Own.nil w).alloc w.heap.size #[.int .i64 op, .slice A l.length c] 24 rfl)
  obtain ⟨e1, he1⟩ : ∃ e1, instF op l = e1 := ⟨_, rfl⟩
  have HE := hid he1
  rw [he1] at h
  have hx : (e1 != 0) = true := bne_iff_ne.2 h
  clear hA h he1
  go_enter Try.func19, Try.ntmps19
  go_wp2_with fail
  refine (rinst_canon_any hl hf _ HA.out).mono ?_
  rw [HE.out]
  rintro e w1 ⟨A1, c1, rfl, hb1, hA1⟩
  have HB := hid ((HO.out.call hb1).below)
  clear hb1 hA1
  go_wp2_with fail
  go_ret
  exact ⟨rfl, HB.out.alloc HB.out.size _⟩
set_option maxHeartbeats 4000000 in
theorem rsp_start {op : Int} {A : Option Addr} {c : Nat} {l L : List Ar} (hl : l.length ≤ 9) (hf : Fine l) (h : instF op l = 0) (hL : icanF op l = L) (w : World) (hA : Args w w.heap.size A l) :
    Calls Try.prog 19 #[.agg #[.int .i64 op, .slice A l.length c]] w fun e w' => ∃ v, e = .returned v ∧ Below w.heap.size w w' ∧ SpAny w.heap.size w' v op L := by
  have HA := hid (hA.call ((Below.refl w.heap.size w).alloc (Nat.le_refl _) (.cells #[.int .i64 op, .slice A l.length c] 24)))
  have HO := hid ((Own.nil w).alloc w.heap.size #[.int .i64 op, .slice A l.length c] 24 rfl)
  have HE := hid h
  have HL := hid hL
  clear hA h hL
  go_enter Try.func19, Try.ntmps19
  go_wp2_with fail
  refine (rinst_canon_any hl hf _ HA.out).mono ?_
  rw [canonOp, canonL, if_pos HE.out, if_pos HE.out, HE.out, HL.out]
  rintro e w1 ⟨A1, c1, rfl, hb1, hA1⟩
  have HO := hid (((HO.out.call hb1).alloc w1.heap.size #[.int .i64 op, .slice A1 L.length c1] 24 rfl).alloc (w1.heap.size + 1) #[.int .i64 op, .slice A1 L.length c1] 24 (by simp))
  have HG := hid ((hA1.below (two_alloc w1 (.cells #[.int .i64 op, .slice A1 L.length c1] 24) (.cells #[.int .i64 op, .slice A1 L.length c1] 24))).mono (show w.heap.size ≤ _ by simp))
  have hgl : ∀ g, A1 = some ⟨g, 0, none⟩ → L ≠ [] → w.heap.size ≤ g ∧ g < w1.heap.size := fun g hg hl0 => by
    subst hg
    have h := OwnA.lt hA1 hl0
    exact ⟨Nat.le_trans (by simp) h.1, h.2⟩
  have HGL := hid hgl
  have hw1 : w.heap.size ≤ w1.heap.size := Nat.le_trans (by simp) hb1.size
  clear hb1 hA1 hgl
  go_upto_region 5 with fail
  have hW : ((w1.alloc (.cells #[.int .i64 op, .slice A1 L.length c1] 24)).alloc (.cells #[.int .i64 op, .slice A1 L.length c1] 24)).heap.size = w1.heap.size + 2 := by simp
  generalize (w1.alloc (.cells #[.int .i64 op, .slice A1 L.length c1] 24)).alloc (.cells #[.int .i64 op, .slice A1 L.length c1] 24) = W at HO HG hW ⊢
  have HWS := hid hW
  clear hW
  have c0 := HO.out.tl.c
  have z0 := HO.out.tl.z
  have HS := Old.refl W
  cases hop : (op == 11)
  · have HSp := hid (show spF op L = false by rw [spF, alikeF, hop]; rfl)
    go_quiet (fail)
    clear HS
    go_wp2_with fail
    go_ret
    exact ⟨_, rfl, bdrewN HO.out.below _, SpAny.one HSp.out ⟨_, _, A1, c1, rfl, by omega, HO.out.z, HO.out.c 0, HO.out.c 1, HG.out.drewN _⟩⟩
  · cases his : isF L 1 1
    · have HIs := hid his
      have HSp := hid (show spF op L = false by rw [spF, alikeF, hop, his]; rfl)
      clear his
      refine wp_region_noPanic ?_
      refine wp_region_held_drew (S := (fun w' => Below W.heap.size W w' ∧ ∀ b o, b < W.heap.size → w'.cell? ⟨b, o, none⟩ = W.cell? ⟨b, o, none⟩)) (by kernel_rfl) ?_ (fun hHeld => ?_)
      · (first | assumption | exact old_drew HS | exact old_drew ‹_› | (refine old_kept ?_ (by assumption); assumption))
      refine wpAnyH_take (i := 0) (v := ?_) (show _ = some (Oper.mk _ _ _ _ _ _) from rfl) (by kernel_rfl) (by kernel_rfl) (by kernel_rfl) (fun _ _ _ h => h) (Or.inl ⟨by kernel_rfl, ?_⟩) (by assumption) ?_
      rotate_left
      · intro w hSw; (try dsimp only at hSw); go_simp; try with_reducible rfl
      simp only [Act.put, List.setIfInBounds_toArray, List.set_cons_zero, List.set_cons_succ]
      refine wpAnyH_take (i := 1) (v := ?_) (show _ = some (Oper.mk _ _ _ _ _ _) from rfl) (by kernel_rfl) (by kernel_rfl) (by kernel_rfl) (fun _ _ _ h => h) (Or.inl ⟨by kernel_rfl, ?_⟩) (by assumption) ?_
      rotate_left
      · intro w hSw; (try dsimp only at hSw); go_simp; try with_reducible rfl
      simp only [Act.put, List.setIfInBounds_toArray, List.set_cons_zero, List.set_cons_succ]
      refine wpAnyH_take (i := 2) (v := ?_) (show _ = some (Oper.mk _ _ _ _ _ _) from rfl) (by kernel_rfl) (by kernel_rfl) (by kernel_rfl) (fun _ _ _ h => h) (Or.inl ⟨by kernel_rfl, ?_⟩) (by assumption) ?_
      rotate_left
      · intro w hSw; (try dsimp only at hSw); go_simp; try with_reducible rfl
      simp only [Act.put, List.setIfInBounds_toArray, List.set_cons_zero, List.set_cons_succ]
      refine wpAnyH_take (i := 3) (v := ?_) (show _ = some (Oper.mk _ _ _ _ _ _) from rfl) (by kernel_rfl) (by kernel_rfl) (by kernel_rfl) (fun _ _ _ h => h) (Or.inl ⟨by kernel_rfl, ?_⟩) (by assumption) ?_
      rotate_left
      · intro w hSw; (try dsimp only at hSw); go_simp; try with_reducible rfl
      simp only [Act.put, List.setIfInBounds_toArray, List.set_cons_zero, List.set_cons_succ]
      refine wpAnyH_take (i := 4) (v := ?_) (show _ = some (Oper.mk _ _ _ _ _ _) from rfl) (by kernel_rfl) (by kernel_rfl) (by kernel_rfl) (fun _ _ _ h => h) (Or.inl ⟨by kernel_rfl, ?_⟩) (by assumption) ?_
      rotate_left
      · intro w hSw; (try dsimp only at hSw); go_simp; try with_reducible rfl
      simp only [Act.put, List.setIfInBounds_toArray, List.set_cons_zero, List.set_cons_succ]
      refine wpAnyH_ready (rs := [5]) (by kernel_rfl) (by simp) ?_
      refine AllReadyH.cons (show _ = some (Oper.mk _ _ _ _ _ _) from rfl) (fun K hK => ?_) AllReadyH.nil
      go_simp
      go_at_call 33; refine (is_of HIs.out _ ?_).mono ?_; exact HG.out.args.call (by apply And.left; assumption); rintro e w5 ⟨rfl, hbel⟩
      go_wp2_with fail
      refine hK.out _ _ ?_ (fun hHeld => ?_)
      · try dsimp only
        (first | assumption | exact old_drew HS | exact old_drew ‹_› | (refine old_kept ?_ (by assumption); assumption))
      clear hK K
      refine wpAnyH_take (i := 6) (v := ?_) (show _ = some (Oper.mk _ _ _ _ _ _) from rfl) (by kernel_rfl) (by kernel_rfl) (by kernel_rfl) (fun _ _ _ h => h) (Or.inl ⟨by kernel_rfl, ?_⟩) (by assumption) ?_
      rotate_left
      · intro w hSw; (try dsimp only at hSw); go_simp; try with_reducible rfl
      simp only [Act.put, List.setIfInBounds_toArray, List.set_cons_zero, List.set_cons_succ]
      refine wpAnyH_take (i := 7) (v := ?_) (show _ = some (Oper.mk _ _ _ _ _ _) from rfl) (by kernel_rfl) (by kernel_rfl) (by kernel_rfl) (fun _ _ _ h => h) (Or.inl ⟨by kernel_rfl, ?_⟩) (by assumption) ?_
      rotate_left
      · intro w hSw; (try dsimp only at hSw); go_simp; try with_reducible rfl
      simp only [Act.put, List.setIfInBounds_toArray, List.set_cons_zero, List.set_cons_succ]
      refine wpAnyH_take (i := 8) (v := undef) (show _ = some (Oper.mk _ _ _ _ _ _) from rfl) (by kernel_rfl) (by kernel_rfl) (by kernel_rfl) (fun _ _ _ h => h) (Or.inr ⟨by kernel_rfl, rfl⟩) (by assumption) ?_
      simp only [Act.put, List.setIfInBounds_toArray, List.set_cons_zero, List.set_cons_succ]
      refine wpAnyH_take (i := 9) (v := undef) (show _ = some (Oper.mk _ _ _ _ _ _) from rfl) (by kernel_rfl) (by kernel_rfl) (by kernel_rfl) (fun _ _ _ h => h) (Or.inr ⟨by kernel_rfl, rfl⟩) (by assumption) ?_
      simp only [Act.put, List.setIfInBounds_toArray, List.set_cons_zero, List.set_cons_succ]
      refine wpAnyH_take (i := 10) (v := undef) (show _ = some (Oper.mk _ _ _ _ _ _) from rfl) (by kernel_rfl) (by kernel_rfl) (by kernel_rfl) (fun _ _ _ h => h) (Or.inr ⟨by kernel_rfl, rfl⟩) (by assumption) ?_
      simp only [Act.put, List.setIfInBounds_toArray, List.set_cons_zero, List.set_cons_succ]
      refine wpAnyH_take (i := 11) (v := undef) (show _ = some (Oper.mk _ _ _ _ _ _) from rfl) (by kernel_rfl) (by kernel_rfl) (by kernel_rfl) (fun _ _ _ h => h) (Or.inr ⟨by kernel_rfl, rfl⟩) (by assumption) ?_
      simp only [Act.put, List.setIfInBounds_toArray, List.set_cons_zero, List.set_cons_succ]
      refine wpAnyH_take (i := 12) (v := undef) (show _ = some (Oper.mk _ _ _ _ _ _) from rfl) (by kernel_rfl) (by kernel_rfl) (by kernel_rfl) (fun _ _ _ h => h) (Or.inr ⟨by kernel_rfl, rfl⟩) (by assumption) ?_
      simp only [Act.put, List.setIfInBounds_toArray, List.set_cons_zero, List.set_cons_succ]
      refine wpAnyH_take (i := 13) (v := undef) (show _ = some (Oper.mk _ _ _ _ _ _) from rfl) (by kernel_rfl) (by kernel_rfl) (by kernel_rfl) (fun _ _ _ h => h) (Or.inr ⟨by kernel_rfl, rfl⟩) (by assumption) ?_
      simp only [Act.put, List.setIfInBounds_toArray, List.set_cons_zero, List.set_cons_succ]
      refine wpAnyH_take (i := 14) (v := undef) (show _ = some (Oper.mk _ _ _ _ _ _) from rfl) (by kernel_rfl) (by kernel_rfl) (by kernel_rfl) (fun _ _ _ h => h) (Or.inr ⟨by kernel_rfl, rfl⟩) (by assumption) ?_
      simp only [Act.put, List.setIfInBounds_toArray, List.set_cons_zero, List.set_cons_succ]
      refine wpAnyH_take (i := 15) (v := undef) (show _ = some (Oper.mk _ _ _ _ _ _) from rfl) (by kernel_rfl) (by kernel_rfl) (by kernel_rfl) (fun _ _ _ h => h) (Or.inr ⟨by kernel_rfl, rfl⟩) (by assumption) ?_
      simp only [Act.put, List.setIfInBounds_toArray, List.set_cons_zero, List.set_cons_succ]
      refine wpAnyH_take (i := 16) (v := undef) (show _ = some (Oper.mk _ _ _ _ _ _) from rfl) (by kernel_rfl) (by kernel_rfl) (by kernel_rfl) (fun _ _ _ h => h) (Or.inr ⟨by kernel_rfl, rfl⟩) (by assumption) ?_
      simp only [Act.put, List.setIfInBounds_toArray, List.set_cons_zero, List.set_cons_succ]
      refine wpAnyH_take (i := 17) (v := undef) (show _ = some (Oper.mk _ _ _ _ _ _) from rfl) (by kernel_rfl) (by kernel_rfl) (by kernel_rfl) (fun _ _ _ h => h) (Or.inr ⟨by kernel_rfl, rfl⟩) (by assumption) ?_
      simp only [Act.put, List.setIfInBounds_toArray, List.set_cons_zero, List.set_cons_succ]
      refine wpAnyH_take (i := 18) (v := undef) (show _ = some (Oper.mk _ _ _ _ _ _) from rfl) (by kernel_rfl) (by kernel_rfl) (by kernel_rfl) (fun _ _ _ h => h) (Or.inr ⟨by kernel_rfl, rfl⟩) (by assumption) ?_
      simp only [Act.put, List.setIfInBounds_toArray, List.set_cons_zero, List.set_cons_succ]
      refine wpAnyH_take (i := 19) (v := undef) (show _ = some (Oper.mk _ _ _ _ _ _) from rfl) (by kernel_rfl) (by kernel_rfl) (by kernel_rfl) (fun _ _ _ h => h) (Or.inr ⟨by kernel_rfl, rfl⟩) (by assumption) ?_
      simp only [Act.put, List.setIfInBounds_toArray, List.set_cons_zero, List.set_cons_succ]
      refine wpAnyH_take (i := 20) (v := undef) (show _ = some (Oper.mk _ _ _ _ _ _) from rfl) (by kernel_rfl) (by kernel_rfl) (by kernel_rfl) (fun _ _ _ h => h) (Or.inr ⟨by kernel_rfl, rfl⟩) (by assumption) ?_
      simp only [Act.put, List.setIfInBounds_toArray, List.set_cons_zero, List.set_cons_succ]
      refine wpAnyH_take (i := 21) (v := ?_) (show _ = some (Oper.mk _ _ _ _ _ _) from rfl) (by kernel_rfl) (by kernel_rfl) (by kernel_rfl) (fun _ _ _ h => h) (Or.inl ⟨by kernel_rfl, ?_⟩) (by assumption) ?_
      rotate_left
      · intro w hSw; (try dsimp only at hSw); go_simp; try with_reducible rfl
      simp only [Act.put, List.setIfInBounds_toArray, List.set_cons_zero, List.set_cons_succ]
      refine wpAnyH_take (i := 22) (v := ?_) (show _ = some (Oper.mk _ _ _ _ _ _) from rfl) (by kernel_rfl) (by kernel_rfl) (by kernel_rfl) (fun _ _ _ h => h) (Or.inl ⟨by kernel_rfl, ?_⟩) (by assumption) ?_
      rotate_left
      · intro w hSw; (try dsimp only at hSw); go_simp; try with_reducible rfl
      simp only [Act.put, List.setIfInBounds_toArray, List.set_cons_zero, List.set_cons_succ]
      refine wpAnyH_take (i := 23) (v := undef) (show _ = some (Oper.mk _ _ _ _ _ _) from rfl) (by kernel_rfl) (by kernel_rfl) (by kernel_rfl) (fun _ _ _ h => h) (Or.inr ⟨by kernel_rfl, rfl⟩) (by assumption) ?_
      simp only [Act.put, List.setIfInBounds_toArray, List.set_cons_zero, List.set_cons_succ]
      refine wpAnyH_take (i := 24) (v := undef) (show _ = some (Oper.mk _ _ _ _ _ _) from rfl) (by kernel_rfl) (by kernel_rfl) (by kernel_rfl) (fun _ _ _ h => h) (Or.inr ⟨by kernel_rfl, rfl⟩) (by assumption) ?_
      simp only [Act.put, List.setIfInBounds_toArray, List.set_cons_zero, List.set_cons_succ]
      refine wpAnyH_take (i := 25) (v := undef) (show _ = some (Oper.mk _ _ _ _ _ _) from rfl) (by kernel_rfl) (by kernel_rfl) (by kernel_rfl) (fun _ _ _ h => h) (Or.inr ⟨by kernel_rfl, rfl⟩) (by assumption) ?_
      simp only [Act.put, List.setIfInBounds_toArray, List.set_cons_zero, List.set_cons_succ]
      refine wpAnyH_take (i := 26) (v := undef) (show _ = some (Oper.mk _ _ _ _ _ _) from rfl) (by kernel_rfl) (by kernel_rfl) (by kernel_rfl) (fun _ _ _ h => h) (Or.inr ⟨by kernel_rfl, rfl⟩) (by assumption) ?_
      simp only [Act.put, List.setIfInBounds_toArray, List.set_cons_zero, List.set_cons_succ]
      refine wpAnyH_take (i := 27) (v := undef) (show _ = some (Oper.mk _ _ _ _ _ _) from rfl) (by kernel_rfl) (by kernel_rfl) (by kernel_rfl) (fun _ _ _ h => h) (Or.inr ⟨by kernel_rfl, rfl⟩) (by assumption) ?_
      simp only [Act.put, List.setIfInBounds_toArray, List.set_cons_zero, List.set_cons_succ]
      refine wpAnyH_take (i := 28) (v := undef) (show _ = some (Oper.mk _ _ _ _ _ _) from rfl) (by kernel_rfl) (by kernel_rfl) (by kernel_rfl) (fun _ _ _ h => h) (Or.inr ⟨by kernel_rfl, rfl⟩) (by assumption) ?_
      simp only [Act.put, List.setIfInBounds_toArray, List.set_cons_zero, List.set_cons_succ]
      refine wpAnyH_take (i := 29) (v := undef) (show _ = some (Oper.mk _ _ _ _ _ _) from rfl) (by kernel_rfl) (by kernel_rfl) (by kernel_rfl) (fun _ _ _ h => h) (Or.inr ⟨by kernel_rfl, rfl⟩) (by assumption) ?_
      simp only [Act.put, List.setIfInBounds_toArray, List.set_cons_zero, List.set_cons_succ]
      refine wpAnyH_take (i := 30) (v := undef) (show _ = some (Oper.mk _ _ _ _ _ _) from rfl) (by kernel_rfl) (by kernel_rfl) (by kernel_rfl) (fun _ _ _ h => h) (Or.inr ⟨by kernel_rfl, rfl⟩) (by assumption) ?_
      simp only [Act.put, List.setIfInBounds_toArray, List.set_cons_zero, List.set_cons_succ]
      refine wpAnyH_take (i := 31) (v := undef) (show _ = some (Oper.mk _ _ _ _ _ _) from rfl) (by kernel_rfl) (by kernel_rfl) (by kernel_rfl) (fun _ _ _ h => h) (Or.inr ⟨by kernel_rfl, rfl⟩) (by assumption) ?_
      simp only [Act.put, List.setIfInBounds_toArray, List.set_cons_zero, List.set_cons_succ]
      refine wpAnyH_take (i := 32) (v := undef) (show _ = some (Oper.mk _ _ _ _ _ _) from rfl) (by kernel_rfl) (by kernel_rfl) (by kernel_rfl) (fun _ _ _ h => h) (Or.inr ⟨by kernel_rfl, rfl⟩) (by assumption) ?_
      simp only [Act.put, List.setIfInBounds_toArray, List.set_cons_zero, List.set_cons_succ]
      refine wpAnyH_take (i := 33) (v := undef) (show _ = some (Oper.mk _ _ _ _ _ _) from rfl) (by kernel_rfl) (by kernel_rfl) (by kernel_rfl) (fun _ _ _ h => h) (Or.inr ⟨by kernel_rfl, rfl⟩) (by assumption) ?_
      simp only [Act.put, List.setIfInBounds_toArray, List.set_cons_zero, List.set_cons_succ]
      refine wpAnyH_take (i := 34) (v := undef) (show _ = some (Oper.mk _ _ _ _ _ _) from rfl) (by kernel_rfl) (by kernel_rfl) (by kernel_rfl) (fun _ _ _ h => h) (Or.inr ⟨by kernel_rfl, rfl⟩) (by assumption) ?_
      simp only [Act.put, List.setIfInBounds_toArray, List.set_cons_zero, List.set_cons_succ]
      refine wpAnyH_take (i := 35) (v := undef) (show _ = some (Oper.mk _ _ _ _ _ _) from rfl) (by kernel_rfl) (by kernel_rfl) (by kernel_rfl) (fun _ _ _ h => h) (Or.inr ⟨by kernel_rfl, rfl⟩) (by assumption) ?_
      simp only [Act.put, List.setIfInBounds_toArray, List.set_cons_zero, List.set_cons_succ]
      refine wpAnyH_take (i := 36) (v := ?_) (show _ = some (Oper.mk _ _ _ _ _ _) from rfl) (by kernel_rfl) (by kernel_rfl) (by kernel_rfl) (fun _ _ _ h => h) (Or.inl ⟨by kernel_rfl, ?_⟩) (by assumption) ?_
      rotate_left
      · intro w hSw; (try dsimp only at hSw); go_simp; try with_reducible rfl
      simp only [Act.put, List.setIfInBounds_toArray, List.set_cons_zero, List.set_cons_succ]
      refine wpAnyH_done (by kernel_rfl) ?_ _
      refine NoPanic.normal ?_
      have HK := hid (show Below W.heap.size W w5 by apply And.left; assumption)
      have HO5 := hid (HO.out.call HK.out)
      have HG5 := hid (HG.out.below HK.out)
      clear c0 z0
      go_wp2_with fail
      go_ret
      refine ⟨_, rfl, HO5.out.below, ?_⟩
      exact SpAny.one HSp.out ⟨_, _, _, c1, rfl, by omega, HO5.out.z, HO5.out.c 0, HO5.out.c 1, HG5.out⟩
    · have HIs := hid his
      obtain ⟨x, y, rfl, _, _⟩ := isF_two his
      clear his
      obtain ⟨rb, ro, rfl, hrb, h1, h2⟩ := two_cells HG.out.args
      have p1 := h1 1 (by decide); have p2 := h1 2 (by decide)
      have q1 := h2 1 (by decide); have q2 := h2 2 (by decide)
      simp only [Nat.add_assoc, Nat.reduceAdd, List.getElem?_cons_zero, List.getElem?_cons_succ] at p1 p2 q1 q2
      clear h1 h2
      cases hcl : (x.rc == y.rc)
      · have HSp := hid (show spF op [x, y] = false by rw [spF, alikeF, hop, HIs.out]; simp only [clF, hcl, Bool.and_false, Bool.false_and])
        refine wp_region_noPanic ?_
        refine wp_region_held_drew (S := (fun w' => Below W.heap.size W w' ∧ ∀ b o, b < W.heap.size → w'.cell? ⟨b, o, none⟩ = W.cell? ⟨b, o, none⟩)) (by kernel_rfl) ?_ (fun hHeld => ?_)
        · (first | assumption | exact old_drew HS | exact old_drew ‹_› | (refine old_kept ?_ (by assumption); assumption))
        refine wpAnyH_take (i := 0) (v := ?_) (show _ = some (Oper.mk _ _ _ _ _ _) from rfl) (by kernel_rfl) (by kernel_rfl) (by kernel_rfl) (fun _ _ _ h => h) (Or.inl ⟨by kernel_rfl, ?_⟩) (by assumption) ?_
        rotate_left
        · intro w hSw; (try dsimp only at hSw); go_simp; try with_reducible rfl
        simp only [Act.put, List.setIfInBounds_toArray, List.set_cons_zero, List.set_cons_succ]
        refine wpAnyH_take (i := 1) (v := ?_) (show _ = some (Oper.mk _ _ _ _ _ _) from rfl) (by kernel_rfl) (by kernel_rfl) (by kernel_rfl) (fun _ _ _ h => h) (Or.inl ⟨by kernel_rfl, ?_⟩) (by assumption) ?_
        rotate_left
        · intro w hSw; (try dsimp only at hSw); go_simp; try with_reducible rfl
        simp only [Act.put, List.setIfInBounds_toArray, List.set_cons_zero, List.set_cons_succ]
        refine wpAnyH_take (i := 2) (v := ?_) (show _ = some (Oper.mk _ _ _ _ _ _) from rfl) (by kernel_rfl) (by kernel_rfl) (by kernel_rfl) (fun _ _ _ h => h) (Or.inl ⟨by kernel_rfl, ?_⟩) (by assumption) ?_
        rotate_left
        · intro w hSw; (try dsimp only at hSw); go_simp; try with_reducible rfl
        simp only [Act.put, List.setIfInBounds_toArray, List.set_cons_zero, List.set_cons_succ]
        refine wpAnyH_take (i := 3) (v := ?_) (show _ = some (Oper.mk _ _ _ _ _ _) from rfl) (by kernel_rfl) (by kernel_rfl) (by kernel_rfl) (fun _ _ _ h => h) (Or.inl ⟨by kernel_rfl, ?_⟩) (by assumption) ?_
        rotate_left
        · intro w hSw; (try dsimp only at hSw); go_simp; try with_reducible rfl
        simp only [Act.put, List.setIfInBounds_toArray, List.set_cons_zero, List.set_cons_succ]
        refine wpAnyH_take (i := 4) (v := ?_) (show _ = some (Oper.mk _ _ _ _ _ _) from rfl) (by kernel_rfl) (by kernel_rfl) (by kernel_rfl) (fun _ _ _ h => h) (Or.inl ⟨by kernel_rfl, ?_⟩) (by assumption) ?_
        rotate_left
        · intro w hSw; (try dsimp only at hSw); go_simp; try with_reducible rfl
        simp only [Act.put, List.setIfInBounds_toArray, List.set_cons_zero, List.set_cons_succ]
        refine wpAnyH_ready (rs := [5]) (by kernel_rfl) (by simp) ?_
        refine AllReadyH.cons (show _ = some (Oper.mk _ _ _ _ _ _) from rfl) (fun K hK => ?_) AllReadyH.nil
        go_simp
        go_at_call 33; refine (is_of HIs.out _ ?_).mono ?_; exact HG.out.args.call (by apply And.left; assumption); rintro e w5 ⟨rfl, hbel⟩
        go_wp2_with fail
        refine hK.out _ _ ?_ (fun hHeld => ?_)
        · try dsimp only
          (first | assumption | exact old_drew HS | exact old_drew ‹_› | (refine old_kept ?_ (by assumption); assumption))
        clear hK K
        refine wpAnyH_take (i := 6) (v := ?_) (show _ = some (Oper.mk _ _ _ _ _ _) from rfl) (by kernel_rfl) (by kernel_rfl) (by kernel_rfl) (fun _ _ _ h => h) (Or.inl ⟨by kernel_rfl, ?_⟩) (by assumption) ?_
        rotate_left
        · intro w hSw; (try dsimp only at hSw); go_simp; try with_reducible rfl
        simp only [Act.put, List.setIfInBounds_toArray, List.set_cons_zero, List.set_cons_succ]
        refine wpAnyH_take (i := 7) (v := ?_) (show _ = some (Oper.mk _ _ _ _ _ _) from rfl) (by kernel_rfl) (by kernel_rfl) (by kernel_rfl) (fun _ _ _ h => h) (Or.inl ⟨by kernel_rfl, ?_⟩) (by assumption) ?_
        rotate_left
        · intro w hSw; (try dsimp only at hSw); go_simp; try with_reducible rfl
        simp only [Act.put, List.setIfInBounds_toArray, List.set_cons_zero, List.set_cons_succ]
        refine wpAnyH_take (i := 8) (v := ?_) (show _ = some (Oper.mk _ _ _ _ _ _) from rfl) (by kernel_rfl) (by kernel_rfl) (by kernel_rfl) (fun _ _ _ h => h) (Or.inl ⟨by kernel_rfl, ?_⟩) (by assumption) ?_
        rotate_left
        · intro w hSw; (try dsimp only at hSw); go_simp; try with_reducible rfl
        simp only [Act.put, List.setIfInBounds_toArray, List.set_cons_zero, List.set_cons_succ]
        refine wpAnyH_take (i := 9) (v := ?_) (show _ = some (Oper.mk _ _ _ _ _ _) from rfl) (by kernel_rfl) (by kernel_rfl) (by kernel_rfl) (fun _ _ _ h => h) (Or.inl ⟨by kernel_rfl, ?_⟩) (by assumption) ?_
        rotate_left
        · intro w hSw; (try dsimp only at hSw); go_simp; try with_reducible rfl
        simp only [Act.put, List.setIfInBounds_toArray, List.set_cons_zero, List.set_cons_succ]
        refine wpAnyH_take (i := 10) (v := ?_) (show _ = some (Oper.mk _ _ _ _ _ _) from rfl) (by kernel_rfl) (by kernel_rfl) (by kernel_rfl) (fun _ _ _ h => h) (Or.inl ⟨by kernel_rfl, ?_⟩) (by assumption) ?_
        rotate_left
        · intro w hSw; (try dsimp only at hSw); go_simp; try with_reducible rfl
        simp only [Act.put, List.setIfInBounds_toArray, List.set_cons_zero, List.set_cons_succ]
        refine wpAnyH_take (i := 11) (v := ?_) (show _ = some (Oper.mk _ _ _ _ _ _) from rfl) (by kernel_rfl) (by kernel_rfl) (by kernel_rfl) (fun _ _ _ h => h) (Or.inl ⟨by kernel_rfl, ?_⟩) (by assumption) ?_
        rotate_left
        · intro w hSw; (try dsimp only at hSw); go_simp; try with_reducible rfl
        simp only [Act.put, List.setIfInBounds_toArray, List.set_cons_zero, List.set_cons_succ]
        refine wpAnyH_take (i := 12) (v := ?_) (show _ = some (Oper.mk _ _ _ _ _ _) from rfl) (by kernel_rfl) (by kernel_rfl) (by kernel_rfl) (fun _ _ _ h => h) (Or.inl ⟨by kernel_rfl, ?_⟩) (by assumption) ?_
        rotate_left
        · intro w hSw; (try dsimp only at hSw); go_simp; try with_reducible rfl
        simp only [Act.put, List.setIfInBounds_toArray, List.set_cons_zero, List.set_cons_succ]
        refine wpAnyH_take (i := 13) (v := ?_) (show _ = some (Oper.mk _ _ _ _ _ _) from rfl) (by kernel_rfl) (by kernel_rfl) (by kernel_rfl) (fun _ _ _ h => h) (Or.inl ⟨by kernel_rfl, ?_⟩) (by assumption) ?_
        rotate_left
        · intro w hSw; (try dsimp only at hSw); go_simp; try with_reducible rfl
        simp only [Act.put, List.setIfInBounds_toArray, List.set_cons_zero, List.set_cons_succ]
        refine wpAnyH_take (i := 14) (v := ?_) (show _ = some (Oper.mk _ _ _ _ _ _) from rfl) (by kernel_rfl) (by kernel_rfl) (by kernel_rfl) (fun _ _ _ h => h) (Or.inl ⟨by kernel_rfl, ?_⟩) (by assumption) ?_
        rotate_left
        · intro w hSw; (try dsimp only at hSw); go_simp; try with_reducible rfl
        simp only [Act.put, List.setIfInBounds_toArray, List.set_cons_zero, List.set_cons_succ]
        refine wpAnyH_take (i := 15) (v := ?_) (show _ = some (Oper.mk _ _ _ _ _ _) from rfl) (by kernel_rfl) (by kernel_rfl) (by kernel_rfl) (fun _ _ _ h => h) (Or.inl ⟨by kernel_rfl, ?_⟩) (by assumption) ?_
        rotate_left
        · intro w hSw; (try dsimp only at hSw); go_simp; try with_reducible rfl
        simp only [Act.put, List.setIfInBounds_toArray, List.set_cons_zero, List.set_cons_succ]
        refine wpAnyH_take (i := 16) (v := ?_) (show _ = some (Oper.mk _ _ _ _ _ _) from rfl) (by kernel_rfl) (by kernel_rfl) (by kernel_rfl) (fun _ _ _ h => h) (Or.inl ⟨by kernel_rfl, ?_⟩) (by assumption) ?_
        rotate_left
        · intro w hSw; (try dsimp only at hSw); go_simp; try with_reducible rfl
        simp only [Act.put, List.setIfInBounds_toArray, List.set_cons_zero, List.set_cons_succ]
        refine wpAnyH_take (i := 17) (v := ?_) (show _ = some (Oper.mk _ _ _ _ _ _) from rfl) (by kernel_rfl) (by kernel_rfl) (by kernel_rfl) (fun _ _ _ h => h) (Or.inl ⟨by kernel_rfl, ?_⟩) (by assumption) ?_
        rotate_left
        · intro w hSw; (try dsimp only at hSw); go_simp; try with_reducible rfl
        simp only [Act.put, List.setIfInBounds_toArray, List.set_cons_zero, List.set_cons_succ]
        refine wpAnyH_take (i := 18) (v := ?_) (show _ = some (Oper.mk _ _ _ _ _ _) from rfl) (by kernel_rfl) (by kernel_rfl) (by kernel_rfl) (fun _ _ _ h => h) (Or.inl ⟨by kernel_rfl, ?_⟩) (by assumption) ?_
        rotate_left
        · intro w hSw; (try dsimp only at hSw); go_simp; try with_reducible rfl
        simp only [Act.put, List.setIfInBounds_toArray, List.set_cons_zero, List.set_cons_succ]
        refine wpAnyH_take (i := 19) (v := ?_) (show _ = some (Oper.mk _ _ _ _ _ _) from rfl) (by kernel_rfl) (by kernel_rfl) (by kernel_rfl) (fun _ _ _ h => h) (Or.inl ⟨by kernel_rfl, ?_⟩) (by assumption) ?_
        rotate_left
        · intro w hSw; (try dsimp only at hSw); go_simp; try with_reducible rfl
        simp only [Act.put, List.setIfInBounds_toArray, List.set_cons_zero, List.set_cons_succ]
        refine wpAnyH_take (i := 20) (v := ?_) (show _ = some (Oper.mk _ _ _ _ _ _) from rfl) (by kernel_rfl) (by kernel_rfl) (by kernel_rfl) (fun _ _ _ h => h) (Or.inl ⟨by kernel_rfl, ?_⟩) (by assumption) ?_
        rotate_left
        · intro w hSw; (try dsimp only at hSw); go_simp; try with_reducible rfl
        simp only [Act.put, List.setIfInBounds_toArray, List.set_cons_zero, List.set_cons_succ]
        refine wpAnyH_take (i := 21) (v := ?_) (show _ = some (Oper.mk _ _ _ _ _ _) from rfl) (by kernel_rfl) (by kernel_rfl) (by kernel_rfl) (fun _ _ _ h => h) (Or.inl ⟨by kernel_rfl, ?_⟩) (by assumption) ?_
        rotate_left
        · intro w hSw; (try dsimp only at hSw); go_simp; try with_reducible rfl
        simp only [Act.put, List.setIfInBounds_toArray, List.set_cons_zero, List.set_cons_succ]
        refine wpAnyH_take (i := 22) (v := ?_) (show _ = some (Oper.mk _ _ _ _ _ _) from rfl) (by kernel_rfl) (by kernel_rfl) (by kernel_rfl) (fun _ _ _ h => h) (Or.inl ⟨by kernel_rfl, ?_⟩) (by assumption) ?_
        rotate_left
        · intro w hSw; (try dsimp only at hSw); go_simp; try with_reducible rfl
        simp only [Act.put, List.setIfInBounds_toArray, List.set_cons_zero, List.set_cons_succ]
        refine wpAnyH_take (i := 23) (v := undef) (show _ = some (Oper.mk _ _ _ _ _ _) from rfl) (by kernel_rfl) (by kernel_rfl) (by kernel_rfl) (fun _ _ _ h => h) (Or.inr ⟨by kernel_rfl, rfl⟩) (by assumption) ?_
        simp only [Act.put, List.setIfInBounds_toArray, List.set_cons_zero, List.set_cons_succ]
        refine wpAnyH_take (i := 24) (v := undef) (show _ = some (Oper.mk _ _ _ _ _ _) from rfl) (by kernel_rfl) (by kernel_rfl) (by kernel_rfl) (fun _ _ _ h => h) (Or.inr ⟨by kernel_rfl, rfl⟩) (by assumption) ?_
        simp only [Act.put, List.setIfInBounds_toArray, List.set_cons_zero, List.set_cons_succ]
        refine wpAnyH_take (i := 25) (v := undef) (show _ = some (Oper.mk _ _ _ _ _ _) from rfl) (by kernel_rfl) (by kernel_rfl) (by kernel_rfl) (fun _ _ _ h => h) (Or.inr ⟨by kernel_rfl, rfl⟩) (by assumption) ?_
        simp only [Act.put, List.setIfInBounds_toArray, List.set_cons_zero, List.set_cons_succ]
        refine wpAnyH_take (i := 26) (v := undef) (show _ = some (Oper.mk _ _ _ _ _ _) from rfl) (by kernel_rfl) (by kernel_rfl) (by kernel_rfl) (fun _ _ _ h => h) (Or.inr ⟨by kernel_rfl, rfl⟩) (by assumption) ?_
        simp only [Act.put, List.setIfInBounds_toArray, List.set_cons_zero, List.set_cons_succ]
        refine wpAnyH_take (i := 27) (v := undef) (show _ = some (Oper.mk _ _ _ _ _ _) from rfl) (by kernel_rfl) (by kernel_rfl) (by kernel_rfl) (fun _ _ _ h => h) (Or.inr ⟨by kernel_rfl, rfl⟩) (by assumption) ?_
        simp only [Act.put, List.setIfInBounds_toArray, List.set_cons_zero, List.set_cons_succ]
        refine wpAnyH_take (i := 28) (v := undef) (show _ = some (Oper.mk _ _ _ _ _ _) from rfl) (by kernel_rfl) (by kernel_rfl) (by kernel_rfl) (fun _ _ _ h => h) (Or.inr ⟨by kernel_rfl, rfl⟩) (by assumption) ?_
        simp only [Act.put, List.setIfInBounds_toArray, List.set_cons_zero, List.set_cons_succ]
        refine wpAnyH_take (i := 29) (v := undef) (show _ = some (Oper.mk _ _ _ _ _ _) from rfl) (by kernel_rfl) (by kernel_rfl) (by kernel_rfl) (fun _ _ _ h => h) (Or.inr ⟨by kernel_rfl, rfl⟩) (by assumption) ?_
        simp only [Act.put, List.setIfInBounds_toArray, List.set_cons_zero, List.set_cons_succ]
        refine wpAnyH_take (i := 30) (v := undef) (show _ = some (Oper.mk _ _ _ _ _ _) from rfl) (by kernel_rfl) (by kernel_rfl) (by kernel_rfl) (fun _ _ _ h => h) (Or.inr ⟨by kernel_rfl, rfl⟩) (by assumption) ?_
        simp only [Act.put, List.setIfInBounds_toArray, List.set_cons_zero, List.set_cons_succ]
        refine wpAnyH_take (i := 31) (v := undef) (show _ = some (Oper.mk _ _ _ _ _ _) from rfl) (by kernel_rfl) (by kernel_rfl) (by kernel_rfl) (fun _ _ _ h => h) (Or.inr ⟨by kernel_rfl, rfl⟩) (by assumption) ?_
        simp only [Act.put, List.setIfInBounds_toArray, List.set_cons_zero, List.set_cons_succ]
        refine wpAnyH_take (i := 32) (v := undef) (show _ = some (Oper.mk _ _ _ _ _ _) from rfl) (by kernel_rfl) (by kernel_rfl) (by kernel_rfl) (fun _ _ _ h => h) (Or.inr ⟨by kernel_rfl, rfl⟩) (by assumption) ?_
        simp only [Act.put, List.setIfInBounds_toArray, List.set_cons_zero, List.set_cons_succ]
        refine wpAnyH_take (i := 33) (v := undef) (show _ = some (Oper.mk _ _ _ _ _ _) from rfl) (by kernel_rfl) (by kernel_rfl) (by kernel_rfl) (fun _ _ _ h => h) (Or.inr ⟨by kernel_rfl, rfl⟩) (by assumption) ?_
        simp only [Act.put, List.setIfInBounds_toArray, List.set_cons_zero, List.set_cons_succ]
        refine wpAnyH_take (i := 34) (v := undef) (show _ = some (Oper.mk _ _ _ _ _ _) from rfl) (by kernel_rfl) (by kernel_rfl) (by kernel_rfl) (fun _ _ _ h => h) (Or.inr ⟨by kernel_rfl, rfl⟩) (by assumption) ?_
        simp only [Act.put, List.setIfInBounds_toArray, List.set_cons_zero, List.set_cons_succ]
        refine wpAnyH_take (i := 35) (v := undef) (show _ = some (Oper.mk _ _ _ _ _ _) from rfl) (by kernel_rfl) (by kernel_rfl) (by kernel_rfl) (fun _ _ _ h => h) (Or.inr ⟨by kernel_rfl, rfl⟩) (by assumption) ?_
        simp only [Act.put, List.setIfInBounds_toArray, List.set_cons_zero, List.set_cons_succ]
        refine wpAnyH_take (i := 36) (v := ?_) (show _ = some (Oper.mk _ _ _ _ _ _) from rfl) (by kernel_rfl) (by kernel_rfl) (by kernel_rfl) (fun _ _ _ h => h) (Or.inl ⟨by kernel_rfl, ?_⟩) (by assumption) ?_
        rotate_left
        · intro w hSw; (try dsimp only at hSw); go_simp; try with_reducible rfl
        simp only [Act.put, List.setIfInBounds_toArray, List.set_cons_zero, List.set_cons_succ]
        refine wpAnyH_done (by kernel_rfl) ?_ _
        refine NoPanic.normal ?_
        clear p1 p2 q1 q2 hrb
        have HK := hid (show Below W.heap.size W w5 by apply And.left; assumption)
        have HO5 := hid (HO.out.call HK.out)
        have HG5 := hid (HG.out.below HK.out)
        clear c0 z0
        go_wp2_with fail
        go_ret
        refine ⟨_, rfl, HO5.out.below, ?_⟩
        exact SpAny.one HSp.out ⟨_, _, _, c1, rfl, by omega, HO5.out.z, HO5.out.c 0, HO5.out.c 1, HG5.out⟩
      · cases hrn : (x.rn != y.rn)
        · have HSp := hid (show spF op [x, y] = false by rw [spF, nnF, hrn, Bool.and_false])
          go_region_held3 (fun w' => Below W.heap.size W w' ∧ ∀ b o, b < W.heap.size → w'.cell? ⟨b, o, none⟩ = W.cell? ⟨b, o, none⟩) (first | assumption | exact old_drew HS | exact old_drew ‹_› | (refine old_kept ?_ (by assumption); assumption)) (first | (go_at_call 33; refine (is_of HIs.out _ ?_).mono ?_; exact HG.out.args.call (by apply And.left; assumption); rintro e w5 ⟨rfl, hbel⟩))
          clear p1 p2 q1 q2 hrb
          have HK := hid (show Below W.heap.size W w5 by apply And.left; assumption)
          have HO5 := hid (HO.out.call HK.out)
          have HG5 := hid (HG.out.below HK.out)
          clear c0 z0
          go_wp2_with fail
          go_ret
          refine ⟨_, rfl, HO5.out.below, ?_⟩
          exact SpAny.one HSp.out ⟨_, _, _, c1, rfl, by omega, HO5.out.z, HO5.out.c 0, HO5.out.c 1, HG5.out⟩
        · have HSp := hid (show spF op [x, y] = true by rw [spF, alikeF, hop, HIs.out]; simp only [clF, nnF, hcl, hrn, Bool.and_self])
          go_region_held3 (fun w' => Below W.heap.size W w' ∧ ∀ b o, b < W.heap.size → w'.cell? ⟨b, o, none⟩ = W.cell? ⟨b, o, none⟩) (first | assumption | exact old_drew HS | exact old_drew ‹_› | (refine old_kept ?_ (by assumption); assumption)) (first | (go_at_call 33; refine (is_of HIs.out _ ?_).mono ?_; exact HG.out.args.call (by apply And.left; assumption); rintro e w5 ⟨rfl, hbel⟩))
          have HK := hid (show Below W.heap.size W w5 by apply And.left; assumption)
          have HO5 := hid (HO.out.call HK.out)
          have HG5 := hid (HG.out.below HK.out)
          have hz5 : w1.heap.size + 2 ≤ w5.heap.size := by
            have := HO5.out.z
            omega
          clear c0 z0 p1 p2 q1 q2 hrb HS
          have c0 := HO5.out.tl.c
          have z0 := HO5.out.tl.z
          obtain ⟨i0, hi, hz0, hz1, hz2⟩ := info_parts infoInst
          have I0 := hid hz0; have I1 := hid hz1; have I2 := hid hz2; have I3 := hid hi
          clear hi hz0 hz1 hz2
          go_wp2_with fail
          refine (swap_any (op := op) _ c1 x y _ HG5.out.args).mono ?_
          rintro e w8 ⟨A8, rfl, hb8, hA8⟩
          have HO8 := hid (HO5.out.call hb8)
          have HG8 := hid (HG5.out.below hb8)
          have HA8 := hid hA8
          have hz8 := Nat.le_trans hz5 hb8.size
          clear hb8 hA8 c0 z0
          have hw7 : w1.heap.size + 1 < w5.heap.size := by omega
          go_wp2_with (at_builtin; refine wpList_append_lies _ ?_ (.tmp 52) (.tmp 55) 35 ?_ (w1.heap.size + 1) 24 i0 (.agg #[.int .i64 0, .slice none 0 0]) 2 32 Try.underlying35 I3.out I0.out I1.out I2.out rfl (by decide) (.slice (some ⟨w1.heap.size + 1, 0, none⟩) 1 1) 1 [.int .i64 op, .slice (some ⟨rb, ro, none⟩) 2 c1] ?_ ?_ ⟨w8.heap.size, 0, none⟩ 1 1 [.int .i64 op, .slice A8 2 2] ?_ rfl ?_ ?_ (by decide) ?_ ?_ ?_ _ rfl ?_; rfl; rfl; rfl; exact (row_inst HO8.out).alloc _; rfl; (exact cells_at w8 _ _ rfl); (intro u hu; simp at hu; rcases hu with rfl | rfl <;> rfl); (unfold maxLen; omega); omega; (simp; omega))
          intro q cq w9 hown hgrow hlies hlt9
          have hadd : ∀ j, (⟨q, 0, none⟩ : Addr).add j = ⟨q, j, none⟩ := fun j => by unfold Addr.add; split <;> simp_all
          have hcells := hown.cells (g := q) rfl
          have hq := (hown.lt q rfl).1
          have e0 := hcells 0 _ rfl
          have e1 := hcells 1 _ rfl
          have e2 := hcells 2 _ rfl
          have e3 := hcells 3 _ rfl
          rw [hadd] at e0 e1 e2 e3
          have hnew := (Below.refl w8.heap.size w8).alloc (Nat.le_refl _) (.cells #[.int .i64 op, .slice A8 2 2] 24)
          have HGf := hid ((HG8.out.below hnew).grown hgrow (fun g hg => by
            have := HGL.out g hg (by simp)
            simp only [Value.ownBlock, ne_eq, Option.some.injEq]; omega))
          have HAf := hid (((HA8.out.below hnew).grown hgrow (fun g hg => by
            have := OwnA.lt (g := g) (show OwnA w5.heap.size w8 (some ⟨g, 0, none⟩) [y, x] by rw [← hg]; exact HA8.out) (by simp)
            simp only [Value.ownBlock, ne_eq, Option.some.injEq]; omega)).mono (show w.heap.size ≤ w5.heap.size by omega))
          have HBf := hid ((HO8.out.below.alloc HO8.out.below.size (.cells #[.int .i64 op, .slice A8 2 2] 24)).grown hgrow (by simp; omega) (fun k hk => by simp [Value.ownBlock] at hk; omega))
          have HSP := hid (show SpTwo w.heap.size w9 (.slice (some ⟨q, 0, none⟩) 2 cq) op [x, y] (swF [x, y]) from
            ⟨q, cq, some ⟨rb, ro, none⟩, c1, A8, 2, rfl, by omega, hlt9, e0, e1, e2, e3, HGf.out, HAf.out, (fun g hg => by have := HGL.out g hg (by simp); omega), fun g hg h hh => by
              have h1 := HGL.out g hg (by simp)
              have h2 := OwnA.lt (g := h) (show OwnA w5.heap.size w8 (some ⟨h, 0, none⟩) [y, x] by rw [← hh]; exact HA8.out) (by simp)
              omega⟩)
          clear hcells e0 e1 e2 e3 hown hgrow hlies hadd
          go_wp2_with fail
          go_ret
          exact ⟨_, rfl, HBf.out, SpAny.two HSp.out HSP.out⟩
end Go.Proofs.Ytmlmdbholakioaa
