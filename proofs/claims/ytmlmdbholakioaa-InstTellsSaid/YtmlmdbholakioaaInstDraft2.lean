/-
  The three rules of the program's drafts.
-/
import Derived.Test.YtmlmdbholakioaaInstDraft
namespace Go.Proofs.Ytmlmdbholakioaa
open Go.RowKit

/-! ### twice -/
theorem twice_op {op : Int} (h : (op != 16) = true) (P : Option Addr) (n c : Nat) (w : World) :
    Calls Try.prog 64 #[.agg #[.int .i64 op, .slice P n c]] w fun e w' => e = .returned (.slice none 0 0) ∧ Below w.heap.size w w' := by
  go_enter Try.func64, Try.ntmps64
  go_wp2
  go_ret
  exact ⟨rfl, by go_grown⟩
theorem twice_are {P : Option Addr} {n c : Nat} {l : List Ar} (h : isF l 1 3 = false) (hn : l.length = n) (w : World) (hP : To w w.heap.size P l) :
    Calls Try.prog 64 #[.agg #[.int .i64 16, .slice P n c]] w fun e w' => e = .returned (.slice none 0 0) ∧ Below w.heap.size w w' := by
  have H := hid h
  have HN := hid hn
  have HT := hid (hP.call ((Below.refl _ _).alloc (Nat.le_refl _) (.cells #[.int .i64 16, .slice P n c] 51)))
  clear h hn hP
  go_enter Try.func64, Try.ntmps64
  go_wp2_with (go_at_call 59; refine (are_at H.out HN.out _ HT.out).mono ?_; rintro e w5 ⟨rfl, hb5⟩; have HB := hid ((((Below.refl w.heap.size w).alloc (Nat.le_refl _) (.cells #[.int .i64 16, .slice P n c] 51))).trans (hb5.mono (by simp))); clear hb5)
  go_ret
  exact ⟨rfl, HB.out⟩
set_option maxHeartbeats 2000000 in
theorem twice_two {P : Option Addr} {c : Nat} {x y : Ar} (h : isF [x, y] 1 3 = true) (w : World) (hP : To w w.heap.size P [x, y]) :
    Calls Try.prog 64 #[.agg #[.int .i64 16, .slice P 2 c]] w fun e w' => ∃ P', e = .returned (.slice P' 3 3) ∧ Below w.heap.size w w' ∧ To w' w'.heap.size P' [x, x, y] := by
  have H := hid h
  have HN := hid (show [x, y].length = 2 from rfl)
  have HT := hid (hP.call ((Below.refl _ _).alloc (Nat.le_refl _) (.cells #[.int .i64 16, .slice P 2 c] 51)))
  clear h hP
  go_enter Try.func64, Try.ntmps64
  go_wp2_with fail
  refine (are_at H.out HN.out _ HT.out).mono ?_
  rintro e w5 ⟨rfl, hb5⟩
  have HT5 := hid (HT.out.call hb5)
  have HO := hid (((Own.nil w).alloc w.heap.size #[.int .i64 16, .slice P 2 c] 51 rfl).call hb5)
  clear hb5
  obtain ⟨pb, po, b1, o1, b2, o2, rfl, hpb, hb1, hb2, h1, h2, h3, h4⟩ := HT5.out.two
  have H3 := hid h3
  have H4 := hid h4
  clear h3 h4
  have c0 := HO.out.c
  have z0 := HO.out.z
  go_wp2_with fail
  refine wp_region_still_tail 12 (by kernel_rfl) (by kernel_rfl) ?_
  change wpStill _ _ (World.drew _) _ _ _
  simp only [List.take_succ_cons, List.take_zero, List.drop_succ_cons, List.drop_zero]
  repeat still_step
  refine wpStill_nil ?_
  change wpList _ _ _ _ _ (World.drew _)
  go_wp2
  go_ret
  refine ⟨_, rfl, HO.out.below.trans (Below.mono (by go_grown) HO.out.below.size), To.drew (To.made (w0 := w5) (Below.refl _ _) (by simp) ?_)⟩
  intro i a hi
  rcases i with _ | _ | _ | i
  · simp at hi; subst hi; exact ⟨b1, o1, hb1, rfl, H3.out⟩
  · simp at hi; subst hi; exact ⟨b1, o1, hb1, rfl, H3.out⟩
  · simp at hi; subst hi; exact ⟨b2, o2, hb2, rfl, H4.out⟩
  · simp at hi
/-! ### placed -/
theorem placed_op {op : Int} (h1 : (op != 10) = true) (h2 : (op != 11) = true) (P : Option Addr) (n c : Nat) (w : World) :
    Calls Try.prog 65 #[.agg #[.int .i64 op, .slice P n c]] w fun e w' => e = .returned (.slice none 0 0) ∧ Below w.heap.size w w' := by
  go_enter Try.func65, Try.ntmps65
  go_wp2
  go_ret
  exact ⟨rfl, by go_grown⟩
theorem placed_are10 {P : Option Addr} {n c : Nat} {l : List Ar} (h : isF l 1 2 = false) (hn : l.length = n) (w : World) (hP : To w w.heap.size P l) :
    Calls Try.prog 65 #[.agg #[.int .i64 10, .slice P n c]] w fun e w' => e = .returned (.slice none 0 0) ∧ Below w.heap.size w w' := by
  have H := hid h
  have HN := hid hn
  have HT := hid (hP.call ((Below.refl _ _).alloc (Nat.le_refl _) (.cells #[.int .i64 10, .slice P n c] 51)))
  clear h hn hP
  go_enter Try.func65, Try.ntmps65
  go_wp2_with (go_at_call 59; refine (are_at H.out HN.out _ HT.out).mono ?_; rintro e w5 ⟨rfl, hb5⟩; have HB := hid ((((Below.refl w.heap.size w).alloc (Nat.le_refl _) (.cells #[.int .i64 10, .slice P n c] 51))).trans (hb5.mono (by simp))); clear hb5)
  go_ret
  exact ⟨rfl, HB.out⟩
theorem placed_two10 {P : Option Addr} {c : Nat} {x y : Ar} (h : isF [x, y] 1 2 = true) (w : World) (hP : To w w.heap.size P [x, y]) :
    Calls Try.prog 65 #[.agg #[.int .i64 10, .slice P 2 c]] w fun e w' => ∃ P', e = .returned (.slice P' 2 2) ∧ Below w.heap.size w w' ∧ To w' w'.heap.size P' [y, x] := by
  have H := hid h
  have HN := hid (show [x, y].length = 2 from rfl)
  have HT := hid (hP.call ((Below.refl _ _).alloc (Nat.le_refl _) (.cells #[.int .i64 10, .slice P 2 c] 51)))
  clear h hP
  go_enter Try.func65, Try.ntmps65
  go_wp2_with fail
  refine (are_at H.out HN.out _ HT.out).mono ?_
  rintro e w5 ⟨rfl, hb5⟩
  have HT5 := hid (HT.out.call hb5)
  have HO := hid (((Own.nil w).alloc w.heap.size #[.int .i64 10, .slice P 2 c] 51 rfl).call hb5)
  clear hb5
  have c0 := HO.out.c
  have z0 := HO.out.z
  go_wp2_with fail
  refine (exchanged_any _ _ x y _ HT5.out).mono ?_
  rintro e w6 ⟨P', rfl, hb6, hT6⟩
  go_wp2_with fail
  go_ret
  exact ⟨P', rfl, HO.out.below.trans (hb6.mono HO.out.below.size), hT6⟩
theorem placed_are11 {P : Option Addr} {n c : Nat} {l : List Ar} (h : isF l 1 2 = false) (hn : l.length = n) (w : World) (hP : To w w.heap.size P l) :
    Calls Try.prog 65 #[.agg #[.int .i64 11, .slice P n c]] w fun e w' => e = .returned (.slice none 0 0) ∧ Below w.heap.size w w' := by
  have H := hid h
  have HN := hid hn
  have HT := hid (hP.call ((Below.refl _ _).alloc (Nat.le_refl _) (.cells #[.int .i64 11, .slice P n c] 51)))
  clear h hn hP
  go_enter Try.func65, Try.ntmps65
  go_wp2_with (go_at_call 59; refine (are_at H.out HN.out _ HT.out).mono ?_; rintro e w5 ⟨rfl, hb5⟩; have HB := hid ((((Below.refl w.heap.size w).alloc (Nat.le_refl _) (.cells #[.int .i64 11, .slice P n c] 51))).trans (hb5.mono (by simp))); clear hb5)
  go_ret
  exact ⟨rfl, HB.out⟩
theorem placed_two11 {P : Option Addr} {c : Nat} {x y : Ar} (h : isF [x, y] 1 2 = true) (w : World) (hP : To w w.heap.size P [x, y]) :
    Calls Try.prog 65 #[.agg #[.int .i64 11, .slice P 2 c]] w fun e w' => ∃ P', e = .returned (.slice P' 2 2) ∧ Below w.heap.size w w' ∧ To w' w'.heap.size P' [y, x] := by
  have H := hid h
  have HN := hid (show [x, y].length = 2 from rfl)
  have HT := hid (hP.call ((Below.refl _ _).alloc (Nat.le_refl _) (.cells #[.int .i64 11, .slice P 2 c] 51)))
  clear h hP
  go_enter Try.func65, Try.ntmps65
  go_wp2_with fail
  refine (are_at H.out HN.out _ HT.out).mono ?_
  rintro e w5 ⟨rfl, hb5⟩
  have HT5 := hid (HT.out.call hb5)
  have HO := hid (((Own.nil w).alloc w.heap.size #[.int .i64 11, .slice P 2 c] 51 rfl).call hb5)
  clear hb5
  have c0 := HO.out.c
  have z0 := HO.out.z
  go_wp2_with fail
  refine (exchanged_any _ _ x y _ HT5.out).mono ?_
  rintro e w6 ⟨P', rfl, hb6, hT6⟩
  go_wp2_with fail
  go_ret
  exact ⟨P', rfl, HO.out.below.trans (hb6.mono HO.out.below.size), hT6⟩
/-! ### rising -/
set_option maxHeartbeats 4000000 in
theorem rising_not {op : Int} {P : Option Addr} {n c : Nat} {l : List Ar} (h : alikeF op l = false) (hn : l.length = n) (w : World) (hP : To w w.heap.size P l) :
    Calls Try.prog 66 #[.agg #[.int .i64 op, .slice P n c]] w fun e w' => e = .returned (.slice none 0 0) ∧ Below w.heap.size w w' := by
  have HA := hid h
  have HN := hid hn
  have HO := hid ((Own.nil w).alloc w.heap.size #[.int .i64 op, .slice P n c] 51 rfl)
  have HT := hid (hP.call ((Below.refl _ _).alloc (Nat.le_refl _) (.cells #[.int .i64 op, .slice P n c] 51)))
  clear h hn hP
  go_enter Try.func66, Try.ntmps66
  go_wp2
  have hz : w.heap.size < (w.alloc (.cells #[.int .i64 op, .slice P n c] 51)).heap.size := by simp
  have c0 := HO.out.c
  have z0 := HO.out.z
  generalize w.alloc (.cells #[.int .i64 op, .slice P n c] 51) = W at HO HT hz c0 z0 ⊢
  have hS := Old.of (Below.refl W.heap.size W)
  refine wp_region_noPanic ?_
  refine wp_region_held_drew (S := (fun w' => Below W.heap.size W w' ∧ ∀ b o, b < W.heap.size → w'.cell? ⟨b, o, none⟩ = W.cell? ⟨b, o, none⟩)) (by kernel_rfl) ?_ (fun hHeld => ?_)
  · (first | assumption | exact old_drew ‹_› | (refine old_kept ?_ (by assumption); assumption))
  refine wpAnyH_take (i := 0) (v := ?_) (show _ = some (Oper.mk _ _ _ _ _ _) from rfl) (by kernel_rfl) (by kernel_rfl) (by kernel_rfl) (fun _ _ _ h => h) (Or.inl ⟨by kernel_rfl, ?_⟩) (by assumption) ?_
  rotate_left
  · intro w hSw; (try dsimp only at hSw); go_simp; try with_reducible rfl
  simp only [Act.put, List.setIfInBounds_toArray, List.set_cons_zero, List.set_cons_succ]
  refine wpAnyH_ready (rs := [1]) (by kernel_rfl) (by simp) ?_
  refine AllReadyH.cons (show _ = some (Oper.mk _ _ _ _ _ _) from rfl) (fun K hK => ?_) AllReadyH.nil
  go_simp
  go_at_call 47; refine (alike_of HA.out HN.out _ ?_).mono ?_; exact HT.out.call (by apply And.left; assumption); rintro e w5 ⟨rfl, hbel⟩
  go_wp2_with fail
  refine hK.out _ _ ?_ (fun hHeld => ?_)
  · try dsimp only
    (first | assumption | exact old_drew ‹_› | (refine old_kept ?_ (by assumption); assumption))
  clear hK K
  refine wpAnyH_take (i := 2) (v := ?_) (show _ = some (Oper.mk _ _ _ _ _ _) from rfl) (by kernel_rfl) (by kernel_rfl) (by kernel_rfl) (fun _ _ _ h => h) (Or.inl ⟨by kernel_rfl, ?_⟩) (by assumption) ?_
  rotate_left
  · intro w hSw; (try dsimp only at hSw); go_simp; try with_reducible rfl
  simp only [Act.put, List.setIfInBounds_toArray, List.set_cons_zero, List.set_cons_succ]
  refine wpAnyH_take (i := 3) (v := ?_) (show _ = some (Oper.mk _ _ _ _ _ _) from rfl) (by kernel_rfl) (by kernel_rfl) (by kernel_rfl) (fun _ _ _ h => h) (Or.inl ⟨by kernel_rfl, ?_⟩) (by assumption) ?_
  rotate_left
  · intro w hSw; (try dsimp only at hSw); go_simp; try with_reducible rfl
  simp only [Act.put, List.setIfInBounds_toArray, List.set_cons_zero, List.set_cons_succ]
  refine wpAnyH_take (i := 4) (v := undef) (show _ = some (Oper.mk _ _ _ _ _ _) from rfl) (by kernel_rfl) (by kernel_rfl) (by kernel_rfl) (fun _ _ _ h => h) (Or.inr ⟨by kernel_rfl, rfl⟩) (by assumption) ?_
  simp only [Act.put, List.setIfInBounds_toArray, List.set_cons_zero, List.set_cons_succ]
  refine wpAnyH_take (i := 5) (v := undef) (show _ = some (Oper.mk _ _ _ _ _ _) from rfl) (by kernel_rfl) (by kernel_rfl) (by kernel_rfl) (fun _ _ _ h => h) (Or.inr ⟨by kernel_rfl, rfl⟩) (by assumption) ?_
  simp only [Act.put, List.setIfInBounds_toArray, List.set_cons_zero, List.set_cons_succ]
  refine wpAnyH_take (i := 6) (v := undef) (show _ = some (Oper.mk _ _ _ _ _ _) from rfl) (by kernel_rfl) (by kernel_rfl) (by kernel_rfl) (fun _ _ _ h => h) (Or.inr ⟨by kernel_rfl, rfl⟩) (by assumption) ?_
  simp only [Act.put, List.setIfInBounds_toArray, List.set_cons_zero, List.set_cons_succ]
  refine wpAnyH_take (i := 7) (v := undef) (show _ = some (Oper.mk _ _ _ _ _ _) from rfl) (by kernel_rfl) (by kernel_rfl) (by kernel_rfl) (fun _ _ _ h => h) (Or.inr ⟨by kernel_rfl, rfl⟩) (by assumption) ?_
  simp only [Act.put, List.setIfInBounds_toArray, List.set_cons_zero, List.set_cons_succ]
  refine wpAnyH_take (i := 8) (v := undef) (show _ = some (Oper.mk _ _ _ _ _ _) from rfl) (by kernel_rfl) (by kernel_rfl) (by kernel_rfl) (fun _ _ _ h => h) (Or.inr ⟨by kernel_rfl, rfl⟩) (by assumption) ?_
  simp only [Act.put, List.setIfInBounds_toArray, List.set_cons_zero, List.set_cons_succ]
  refine wpAnyH_take (i := 9) (v := undef) (show _ = some (Oper.mk _ _ _ _ _ _) from rfl) (by kernel_rfl) (by kernel_rfl) (by kernel_rfl) (fun _ _ _ h => h) (Or.inr ⟨by kernel_rfl, rfl⟩) (by assumption) ?_
  simp only [Act.put, List.setIfInBounds_toArray, List.set_cons_zero, List.set_cons_succ]
  refine wpAnyH_take (i := 10) (v := undef) (show _ = some (Oper.mk _ _ _ _ _ _) from rfl) (by kernel_rfl) (by kernel_rfl) (by kernel_rfl) (fun _ _ _ h => h) (Or.inr ⟨by kernel_rfl, rfl⟩) (by assumption) ?_
  simp only [Act.put, List.setIfInBounds_toArray, List.set_cons_zero, List.set_cons_succ]
  refine wpAnyH_take (i := 11) (v := undef) (show _ = some (Oper.mk _ _ _ _ _ _) from rfl) (by kernel_rfl) (by kernel_rfl) (by kernel_rfl) (fun _ _ _ h => h) (Or.inr ⟨by kernel_rfl, rfl⟩) (by assumption) ?_
  simp only [Act.put, List.setIfInBounds_toArray, List.set_cons_zero, List.set_cons_succ]
  refine wpAnyH_take (i := 12) (v := undef) (show _ = some (Oper.mk _ _ _ _ _ _) from rfl) (by kernel_rfl) (by kernel_rfl) (by kernel_rfl) (fun _ _ _ h => h) (Or.inr ⟨by kernel_rfl, rfl⟩) (by assumption) ?_
  simp only [Act.put, List.setIfInBounds_toArray, List.set_cons_zero, List.set_cons_succ]
  refine wpAnyH_take (i := 13) (v := undef) (show _ = some (Oper.mk _ _ _ _ _ _) from rfl) (by kernel_rfl) (by kernel_rfl) (by kernel_rfl) (fun _ _ _ h => h) (Or.inr ⟨by kernel_rfl, rfl⟩) (by assumption) ?_
  simp only [Act.put, List.setIfInBounds_toArray, List.set_cons_zero, List.set_cons_succ]
  refine wpAnyH_take (i := 14) (v := undef) (show _ = some (Oper.mk _ _ _ _ _ _) from rfl) (by kernel_rfl) (by kernel_rfl) (by kernel_rfl) (fun _ _ _ h => h) (Or.inr ⟨by kernel_rfl, rfl⟩) (by assumption) ?_
  simp only [Act.put, List.setIfInBounds_toArray, List.set_cons_zero, List.set_cons_succ]
  refine wpAnyH_take (i := 15) (v := undef) (show _ = some (Oper.mk _ _ _ _ _ _) from rfl) (by kernel_rfl) (by kernel_rfl) (by kernel_rfl) (fun _ _ _ h => h) (Or.inr ⟨by kernel_rfl, rfl⟩) (by assumption) ?_
  simp only [Act.put, List.setIfInBounds_toArray, List.set_cons_zero, List.set_cons_succ]
  refine wpAnyH_take (i := 16) (v := undef) (show _ = some (Oper.mk _ _ _ _ _ _) from rfl) (by kernel_rfl) (by kernel_rfl) (by kernel_rfl) (fun _ _ _ h => h) (Or.inr ⟨by kernel_rfl, rfl⟩) (by assumption) ?_
  simp only [Act.put, List.setIfInBounds_toArray, List.set_cons_zero, List.set_cons_succ]
  refine wpAnyH_take (i := 17) (v := undef) (show _ = some (Oper.mk _ _ _ _ _ _) from rfl) (by kernel_rfl) (by kernel_rfl) (by kernel_rfl) (fun _ _ _ h => h) (Or.inr ⟨by kernel_rfl, rfl⟩) (by assumption) ?_
  simp only [Act.put, List.setIfInBounds_toArray, List.set_cons_zero, List.set_cons_succ]
  refine wpAnyH_take (i := 18) (v := undef) (show _ = some (Oper.mk _ _ _ _ _ _) from rfl) (by kernel_rfl) (by kernel_rfl) (by kernel_rfl) (fun _ _ _ h => h) (Or.inr ⟨by kernel_rfl, rfl⟩) (by assumption) ?_
  simp only [Act.put, List.setIfInBounds_toArray, List.set_cons_zero, List.set_cons_succ]
  refine wpAnyH_take (i := 19) (v := undef) (show _ = some (Oper.mk _ _ _ _ _ _) from rfl) (by kernel_rfl) (by kernel_rfl) (by kernel_rfl) (fun _ _ _ h => h) (Or.inr ⟨by kernel_rfl, rfl⟩) (by assumption) ?_
  simp only [Act.put, List.setIfInBounds_toArray, List.set_cons_zero, List.set_cons_succ]
  refine wpAnyH_take (i := 20) (v := undef) (show _ = some (Oper.mk _ _ _ _ _ _) from rfl) (by kernel_rfl) (by kernel_rfl) (by kernel_rfl) (fun _ _ _ h => h) (Or.inr ⟨by kernel_rfl, rfl⟩) (by assumption) ?_
  simp only [Act.put, List.setIfInBounds_toArray, List.set_cons_zero, List.set_cons_succ]
  refine wpAnyH_take (i := 21) (v := ?_) (show _ = some (Oper.mk _ _ _ _ _ _) from rfl) (by kernel_rfl) (by kernel_rfl) (by kernel_rfl) (fun _ _ _ h => h) (Or.inl ⟨by kernel_rfl, ?_⟩) (by assumption) ?_
  rotate_left
  · intro w hSw; (try dsimp only at hSw); go_simp; try with_reducible rfl
  simp only [Act.put, List.setIfInBounds_toArray, List.set_cons_zero, List.set_cons_succ]
  refine wpAnyH_done (by kernel_rfl) ?_ _
  refine NoPanic.normal ?_
  go_wp2
  go_ret
  exact ⟨rfl, HO.out.below.trans (Below.mono (by apply And.left; assumption) (Nat.le_of_lt hz))⟩
set_option maxHeartbeats 4000000 in
theorem rising_le {op : Int} {P : Option Addr} {c : Nat} {x y : Ar} (h : alikeF op [x, y] = true) (hg : x.rn ≤ y.rn) (w : World) (hP : To w w.heap.size P [x, y]) :
    Calls Try.prog 66 #[.agg #[.int .i64 op, .slice P 2 c]] w fun e w' => e = .returned (.slice none 0 0) ∧ Below w.heap.size w w' := by
  have HA := hid h
  have HN := hid (show [x, y].length = 2 from rfl)
  clear h
  obtain ⟨pb, po, b1, o1, b2, o2, rfl, hpb, hb1, hb2, h1, h2, h3, h4⟩ := hP.two
  have x2 := h3 2 (by decide)
  have y2 := h4 2 (by decide)
  simp only [List.getElem?_cons_zero, List.getElem?_cons_succ] at x2 y2
  have HO := hid ((Own.nil w).alloc w.heap.size #[.int .i64 op, .slice (some ⟨pb, po, none⟩) 2 c] 51 rfl)
  have HT := hid (hP.call ((Below.refl _ _).alloc (Nat.le_refl _) (.cells #[.int .i64 op, .slice (some ⟨pb, po, none⟩) 2 c] 51)))
  have hz : w.heap.size < (w.alloc (.cells #[.int .i64 op, .slice (some ⟨pb, po, none⟩) 2 c] 51)).heap.size := by simp
  have hpre : ∀ b o, b < w.heap.size → (w.alloc (.cells #[.int .i64 op, .slice (some ⟨pb, po, none⟩) 2 c] 51)).cell? ⟨b, o, none⟩ = w.cell? ⟨b, o, none⟩ := fun b o hb => ((Below.refl _ _).alloc (Nat.le_refl _) _).cell (p := ⟨b, o, none⟩) hb
  rw [← hpre _ _ hpb] at h1 h2
  rw [← hpre _ _ hb1] at x2
  rw [← hpre _ _ hb2] at y2
  have hpb' : pb < (w.alloc (.cells #[.int .i64 op, .slice (some ⟨pb, po, none⟩) 2 c] 51)).heap.size := by omega
  have hb1' : b1 < (w.alloc (.cells #[.int .i64 op, .slice (some ⟨pb, po, none⟩) 2 c] 51)).heap.size := by omega
  have hb2' : b2 < (w.alloc (.cells #[.int .i64 op, .slice (some ⟨pb, po, none⟩) 2 c] 51)).heap.size := by omega
  clear hpre h3 h4 hP hpb hb1 hb2
  have hgd : decide (x.rn ≤ y.rn) = true := by simpa using hg
  clear hg
  go_enter Try.func66, Try.ntmps66
  go_wp2
  have c0 := HO.out.c
  have z0 := HO.out.z
  generalize w.alloc (.cells #[.int .i64 op, .slice (some ⟨pb, po, none⟩) 2 c] 51) = W at HO HT hz c0 z0 h1 h2 x2 y2 hpb' hb1' hb2' ⊢
  have hS := Old.of (Below.refl W.heap.size W)
  go_region_held3 (fun w' => Below W.heap.size W w' ∧ ∀ b o, b < W.heap.size → w'.cell? ⟨b, o, none⟩ = W.cell? ⟨b, o, none⟩) (first | assumption | exact old_drew ‹_› | (refine old_kept ?_ (by assumption); assumption)) (first | (go_at_call 47; refine (alike_of HA.out HN.out _ ?_).mono ?_; exact HT.out.call (by apply And.left; assumption); rintro e w5 ⟨rfl, hbel⟩))
  go_wp2
  go_ret
  exact ⟨rfl, HO.out.below.trans (Below.mono (by apply And.left; assumption) (Nat.le_of_lt hz))⟩
set_option maxHeartbeats 4000000 in
theorem rising_gt {op : Int} {P : Option Addr} {c : Nat} {x y : Ar} (h : alikeF op [x, y] = true) (hg : y.rn < x.rn) (w : World) (hP : To w w.heap.size P [x, y]) :
    Calls Try.prog 66 #[.agg #[.int .i64 op, .slice P 2 c]] w fun e w' => ∃ P', e = .returned (.slice P' 2 2) ∧ Below w.heap.size w w' ∧ To w' w'.heap.size P' [y, x] := by
  have HA := hid h
  have HN := hid (show [x, y].length = 2 from rfl)
  clear h
  obtain ⟨pb, po, b1, o1, b2, o2, rfl, hpb, hb1, hb2, h1, h2, h3, h4⟩ := hP.two
  have x2 := h3 2 (by decide)
  have y2 := h4 2 (by decide)
  simp only [List.getElem?_cons_zero, List.getElem?_cons_succ] at x2 y2
  have HO := hid ((Own.nil w).alloc w.heap.size #[.int .i64 op, .slice (some ⟨pb, po, none⟩) 2 c] 51 rfl)
  have HT := hid (hP.call ((Below.refl _ _).alloc (Nat.le_refl _) (.cells #[.int .i64 op, .slice (some ⟨pb, po, none⟩) 2 c] 51)))
  have hz : w.heap.size < (w.alloc (.cells #[.int .i64 op, .slice (some ⟨pb, po, none⟩) 2 c] 51)).heap.size := by simp
  have hpre : ∀ b o, b < w.heap.size → (w.alloc (.cells #[.int .i64 op, .slice (some ⟨pb, po, none⟩) 2 c] 51)).cell? ⟨b, o, none⟩ = w.cell? ⟨b, o, none⟩ := fun b o hb => ((Below.refl _ _).alloc (Nat.le_refl _) _).cell (p := ⟨b, o, none⟩) hb
  rw [← hpre _ _ hpb] at h1 h2
  rw [← hpre _ _ hb1] at x2
  rw [← hpre _ _ hb2] at y2
  have hpb' : pb < (w.alloc (.cells #[.int .i64 op, .slice (some ⟨pb, po, none⟩) 2 c] 51)).heap.size := by omega
  have hb1' : b1 < (w.alloc (.cells #[.int .i64 op, .slice (some ⟨pb, po, none⟩) 2 c] 51)).heap.size := by omega
  have hb2' : b2 < (w.alloc (.cells #[.int .i64 op, .slice (some ⟨pb, po, none⟩) 2 c] 51)).heap.size := by omega
  clear hpre h3 h4 hP hpb hb1 hb2
  have hgd : decide (x.rn ≤ y.rn) = false := by simpa using hg
  clear hg
  go_enter Try.func66, Try.ntmps66
  go_wp2
  have c0 := HO.out.c
  have z0 := HO.out.z
  generalize w.alloc (.cells #[.int .i64 op, .slice (some ⟨pb, po, none⟩) 2 c] 51) = W at HO HT hz c0 z0 h1 h2 x2 y2 hpb' hb1' hb2' ⊢
  have hS := Old.of (Below.refl W.heap.size W)
  go_region_held3 (fun w' => Below W.heap.size W w' ∧ ∀ b o, b < W.heap.size → w'.cell? ⟨b, o, none⟩ = W.cell? ⟨b, o, none⟩) (first | assumption | exact old_drew ‹_› | (refine old_kept ?_ (by assumption); assumption)) (first | (go_at_call 47; refine (alike_of HA.out HN.out _ ?_).mono ?_; exact HT.out.call (by apply And.left; assumption); rintro e w5 ⟨rfl, hbel⟩))
  have hK := Old.of (show Below W.heap.size W w5 by apply And.left; assumption)
  have HTx := hid (HT.out.call hK.1)
  go_wp2_with fail
  refine (exchanged_any _ _ x y _ HTx.out).mono ?_
  rintro e w6 ⟨P', rfl, hb6, hT6⟩
  have HB := hid (HO.out.below.trans (Below.mono hK.1 (Nat.le_of_lt hz)))
  clear hK hS
  go_wp2_with fail
  go_ret
  exact ⟨P', rfl, HB.out.trans (hb6.mono HB.out.size), hT6⟩
end Go.Proofs.Ytmlmdbholakioaa
