/-
  The program's drafts: an instruction whose operands are pointers: which two there are, as the rules have them.
-/
import Derived.Test.YtmlmdbholakioaaInstRef0
import Derived.Deep.RegionHeld3
namespace Go.Proofs.Ytmlmdbholakioaa
open Go.RowKit

/-- P points to a row of pointers to the operands l. -/
def To (w : World) (B : Nat) (P : Option Addr) (l : List Ar) : Prop :=
  l = [] ∨ ∃ pb po, P = some ⟨pb, po, none⟩ ∧ pb < B ∧ ∀ i a, l[i]? = some a → ∃ b o, b < B ∧ w.cell? ⟨pb, po + i, none⟩ = some (.pointer (some ⟨b, o, none⟩)) ∧ ∀ j, j < 11 → w.cell? ⟨b, o + j, none⟩ = (AC a)[j]?
theorem To.below {w w' : World} {B : Nat} {P : Option Addr} {l : List Ar} (h : To w B P l) (hb : Below B w w') : To w' B P l := by
  rcases h with rfl | ⟨pb, po, rfl, hlt, hc⟩
  · left; rfl
  · refine .inr ⟨pb, po, rfl, hlt, fun i a hi => ?_⟩
    obtain ⟨b, o, h1, h2, h3⟩ := hc i a hi
    exact ⟨b, o, h1, (hb.cell (p := ⟨pb, po + i, none⟩) hlt).trans h2, fun j hj => (hb.cell (p := ⟨b, o + j, none⟩) h1).trans (h3 j hj)⟩
theorem To.mono {w : World} {B B' : Nat} {P : Option Addr} {l : List Ar} (h : To w B P l) (hB : B ≤ B') : To w B' P l := by
  rcases h with rfl | ⟨pb, po, rfl, hlt, hc⟩
  · left; rfl
  · refine .inr ⟨pb, po, rfl, by omega, fun i a hi => ?_⟩
    obtain ⟨b, o, h1, h2⟩ := hc i a hi
    exact ⟨b, o, by omega, h2⟩
/-- Behind a call. -/
theorem To.call {w w' : World} {P : Option Addr} {l : List Ar} (h : To w w.heap.size P l) (hb : Below w.heap.size w w') : To w' w'.heap.size P l := (h.below hb).mono hb.size
theorem To.two {w : World} {B : Nat} {P : Option Addr} {x y : Ar} (h : To w B P [x, y]) : ∃ pb po b1 o1 b2 o2, P = some ⟨pb, po, none⟩ ∧ pb < B ∧ b1 < B ∧ b2 < B ∧
    w.cell? ⟨pb, po, none⟩ = some (.pointer (some ⟨b1, o1, none⟩)) ∧ w.cell? ⟨pb, po + 1, none⟩ = some (.pointer (some ⟨b2, o2, none⟩)) ∧
    (∀ j, j < 11 → w.cell? ⟨b1, o1 + j, none⟩ = (AC x)[j]?) ∧ ∀ j, j < 11 → w.cell? ⟨b2, o2 + j, none⟩ = (AC y)[j]? := by
  rcases h with h | ⟨pb, po, rfl, hlt, hc⟩
  · cases h
  · obtain ⟨b1, o1, h1, h2, h3⟩ := hc 0 x rfl
    obtain ⟨b2, o2, h4, h5, h6⟩ := hc 1 y rfl
    exact ⟨pb, po, b1, o1, b2, o2, rfl, hlt, h1, h4, h2, h5, h3, h6⟩
theorem are_not {op : Int} (P : Option Addr) (n c : Nat) (p q : Int) (hn : n ≠ 2) (w : World) :
    Calls Try.prog 59 #[.agg #[.int .i64 op, .slice P n c], .int .i64 p, .int .i64 q] w fun e w' => e = .returned (.bool false) ∧ Below w.heap.size w w' := by
  have hx : ((n : Int) == 2) = false := by rw [beq_eq_false_iff_ne]; omega
  go_enter Try.func59, Try.ntmps59
  go_wp2
  go_returns
  exact ⟨rfl, by go_grown⟩
theorem are_two {op : Int} (pb po b1 o1 b2 o2 c : Nat) (k1 k2 p q : Int) (w : World) (hpb : pb < w.heap.size) (hb1 : b1 < w.heap.size) (hb2 : b2 < w.heap.size) (h1 : w.cell? ⟨pb, po, none⟩ = some (.pointer (some ⟨b1, o1, none⟩))) (h2 : w.cell? ⟨pb, po + 1, none⟩ = some (.pointer (some ⟨b2, o2, none⟩)))
    (h3 : w.cell? ⟨b1, o1, none⟩ = some (.int .i64 k1)) (h4 : w.cell? ⟨b2, o2, none⟩ = some (.int .i64 k2)) :
    Calls Try.prog 59 #[.agg #[.int .i64 op, .slice (some ⟨pb, po, none⟩) 2 c], .int .i64 p, .int .i64 q] w fun e w' => e = .returned (.bool (k1 == p && k2 == q)) ∧ Below w.heap.size w w' := by
  cases e1 : (k1 == p)
  · go_enter Try.func59, Try.ntmps59
    go_wp2
    go_returns
    exact ⟨by simp, by go_grown⟩
  · cases e2 : (k2 == q)
    all_goals
      go_enter Try.func59, Try.ntmps59
      go_wp2
      go_returns
      exact ⟨by simp, by go_grown⟩
theorem are_at {op p q : Int} {P : Option Addr} {n c : Nat} {l : List Ar} {v : Bool} (h : isF l p q = v) (hn : l.length = n) (w : World) (hP : To w w.heap.size P l) :
    Calls Try.prog 59 #[.agg #[.int .i64 op, .slice P n c], .int .i64 p, .int .i64 q] w fun e w' => e = .returned (.bool v) ∧ Below w.heap.size w w' := by
  subst hn
  by_cases hn : l.length = 2
  · match l, hn, h, hP with
    | [x, y], _, h, hP =>
      obtain ⟨pb, po, b1, o1, b2, o2, rfl, hpb, hb1, hb2, h1, h2, h3, h4⟩ := hP.two
      rw [← h]
      exact are_two pb po b1 o1 b2 o2 c x.k y.k p q w hpb hb1 hb2 h1 h2 (h3 0 (by decide)) (h4 0 (by decide))
  · rw [isF_not hn] at h
    subst h
    exact are_not P l.length c p q hn w
theorem To.drew {w : World} {B : Nat} {P : Option Addr} {l : List Ar} (h : To w B P l) : To w.drew B P l := h
/-- A new row of pointers to what stood. -/
theorem To.made {w0 w : World} {g : Nat} {l : List Ar} {cs : List Value} (hb : Below w0.heap.size w0 w) (hg : g = w.heap.size)
    (h : ∀ (i : Nat) (a : Ar), l[i]? = some a → ∃ b o, b < w0.heap.size ∧ cs[i]? = some (Value.pointer (some ⟨b, o, none⟩)) ∧ ∀ j, j < 11 → w0.cell? ⟨b, o + j, none⟩ = (AC a)[j]?) :
    To (w.alloc (.cells cs.toArray 52)) (w.alloc (.cells cs.toArray 52)).heap.size (some ⟨g, 0, none⟩) l := by
  subst hg
  refine .inr ⟨_, _, rfl, by simp, fun i a hi => ?_⟩
  obtain ⟨b, o, h1, h2, h3⟩ := h i a hi
  have hlt : b < w.heap.size := Nat.lt_of_lt_of_le h1 hb.size
  refine ⟨b, o, by simp; omega, ?_, fun j hj => ?_⟩
  · rw [Nat.zero_add, cell_of_row _ w.heap.size i cs.toArray 52 (0, 0) (heap_alloc_new w _)]
    simpa using h2
  · rw [((Below.refl w.heap.size w).alloc (Nat.le_refl _) _).cell (p := ⟨b, o + j, none⟩) hlt, hb.cell (p := ⟨b, o + j, none⟩) h1]
    exact h3 j hj
set_option maxHeartbeats 1000000 in
theorem exchanged_any {op : Int} (P : Option Addr) (c : Nat) (x y : Ar) (w : World) (hP : To w w.heap.size P [x, y]) :
    Calls Try.prog 48 #[.agg #[.int .i64 op, .slice P 2 c]] w fun e w' => ∃ P', e = .returned (.slice P' 2 2) ∧ Below w.heap.size w w' ∧ To w' w'.heap.size P' [y, x] := by
  obtain ⟨pb, po, b1, o1, b2, o2, rfl, hpb, hb1, hb2, h1, h2, h3, h4⟩ := hP.two
  have H3 := hid h3
  have H4 := hid h4
  clear h3 h4 hP
  go_enter Try.func48, Try.ntmps48
  go_wp2
  refine wp_region_still_tail 8 (by kernel_rfl) (by kernel_rfl) ?_
  change wpStill _ _ (World.drew _) _ _ _
  simp only [List.take_succ_cons, List.take_zero, List.drop_succ_cons, List.drop_zero]
  repeat still_step
  refine wpStill_nil ?_
  change wpList _ _ _ _ _ (World.drew _)
  go_wp2
  go_ret
  refine ⟨_, rfl, by go_grown, To.drew (To.made (w0 := w) ((Below.refl _ _).alloc (Nat.le_refl _) _) (by simp) ?_)⟩
  intro i a hi
  rcases i with _ | _ | i
  · simp at hi; subst hi; exact ⟨b2, o2, hb2, rfl, H4.out⟩
  · simp at hi; subst hi; exact ⟨b1, o1, hb1, rfl, H3.out⟩
  · simp at hi
/-- Is it xchg of two registers of one class? -/
def alikeF (op : Int) (l : List Ar) : Bool := (op == 11) && isF l 1 1 && clF l
set_option maxHeartbeats 2000000 in
theorem alike_op {op : Int} (h : (op == 11) = false) (P : Option Addr) (n c : Nat) (w : World) :
    Calls Try.prog 47 #[.agg #[.int .i64 op, .slice P n c]] w fun e w' => e = .returned (.bool false) ∧ Below w.heap.size w w' := by
  go_enter Try.func47, Try.ntmps47
  go_wp2
  go_quiet (fail)
  go_wp2
  go_ret
  exact ⟨rfl, bdrewN (by go_grown) _⟩
set_option maxHeartbeats 4000000 in
theorem alike_not {P : Option Addr} {n c : Nat} {l : List Ar} (h : isF l 1 1 = false) (hn : l.length = n) (w : World) (hP : To w w.heap.size P l) :
    Calls Try.prog 47 #[.agg #[.int .i64 11, .slice P n c]] w fun e w' => e = .returned (.bool false) ∧ Below w.heap.size w w' := by
  have H := hid h
  have HN := hid hn
  have HO := hid ((Own.nil w).alloc w.heap.size #[.int .i64 11, .slice P n c] 51 rfl)
  have HT := hid (hP.below ((Below.refl _ _).alloc (Nat.le_refl _) (.cells #[.int .i64 11, .slice P n c] 51)))
  clear h hn hP
  go_enter Try.func47, Try.ntmps47
  go_wp2
  have hz : w.heap.size ≤ (w.alloc (.cells #[.int .i64 11, .slice P n c] 51)).heap.size := by simp
  have c0 := HO.out.c
  have z0 := HO.out.z
  generalize w.alloc (.cells #[.int .i64 11, .slice P n c] 51) = W at HO HT hz c0 z0 ⊢
  have hS := Old.of (Below.refl W.heap.size W)
  refine wp_region_noPanic ?_
  refine wp_region_held_drew (S := (fun w' => Below W.heap.size W w' ∧ ∀ b o, b < W.heap.size → w'.cell? ⟨b, o, none⟩ = W.cell? ⟨b, o, none⟩)) (by kernel_rfl) ?_ (fun hHeld => ?_)
  · (first | assumption | exact old_drew ‹_› | (refine old_kept ?_ (by assumption); assumption))
  refine wpAnyH_take (i := 0) (v := ?_) (show _ = some (Oper.mk _ _ _ _ _ _) from rfl) (by kernel_rfl) (by kernel_rfl) (by kernel_rfl) (fun _ _ _ h => h) (Or.inl ⟨by kernel_rfl, ?_⟩) (by assumption) ?_
  rotate_left
  · intro w hSw; (try dsimp only at hSw); go_simp; try with_reducible rfl
  simp only [Act.put, List.setIfInBounds_toArray, List.set_cons_zero, List.set_cons_succ]
  refine wpAnyH_take (i := 1) (v := ?_) (show _ = some (Oper.mk _ _ _ _ _ _) from rfl) (by kernel_rfl) (by kernel_rfl) (by kernel_rfl) (fun _ _ _ h => h) (Or.inl ⟨by kernel_rfl, ?_⟩) (by assumption) ?_
  rotate_left
  · intro w hSw; (try dsimp only at hSw); go_simp; try with_reducible rfl
  simp only [Act.put, List.setIfInBounds_toArray, List.set_cons_zero, List.set_cons_succ]
  refine wpAnyH_take (i := 2) (v := ?_) (show _ = some (Oper.mk _ _ _ _ _ _) from rfl) (by kernel_rfl) (by kernel_rfl) (by kernel_rfl) (fun _ _ _ h => h) (Or.inl ⟨by kernel_rfl, ?_⟩) (by assumption) ?_
  rotate_left
  · intro w hSw; (try dsimp only at hSw); go_simp; try with_reducible rfl
  simp only [Act.put, List.setIfInBounds_toArray, List.set_cons_zero, List.set_cons_succ]
  refine wpAnyH_take (i := 3) (v := ?_) (show _ = some (Oper.mk _ _ _ _ _ _) from rfl) (by kernel_rfl) (by kernel_rfl) (by kernel_rfl) (fun _ _ _ h => h) (Or.inl ⟨by kernel_rfl, ?_⟩) (by assumption) ?_
  rotate_left
  · intro w hSw; (try dsimp only at hSw); go_simp; try with_reducible rfl
  simp only [Act.put, List.setIfInBounds_toArray, List.set_cons_zero, List.set_cons_succ]
  refine wpAnyH_take (i := 4) (v := ?_) (show _ = some (Oper.mk _ _ _ _ _ _) from rfl) (by kernel_rfl) (by kernel_rfl) (by kernel_rfl) (fun _ _ _ h => h) (Or.inl ⟨by kernel_rfl, ?_⟩) (by assumption) ?_
  rotate_left
  · intro w hSw; (try dsimp only at hSw); go_simp; try with_reducible rfl
  simp only [Act.put, List.setIfInBounds_toArray, List.set_cons_zero, List.set_cons_succ]
  refine wpAnyH_ready (rs := [5]) (by kernel_rfl) (by simp) ?_
  refine AllReadyH.cons (show _ = some (Oper.mk _ _ _ _ _ _) from rfl) (fun K hK => ?_) AllReadyH.nil
  go_simp
  go_at_call 59; refine (are_at H.out HN.out _ ((HT.out.below (Below.mono (by apply And.left; assumption) hz)).mono (Nat.le_trans hz (by apply Below.size; apply And.left; assumption)))).mono ?_; rintro e w5 ⟨rfl, hbel⟩
  go_wp2_with fail
  refine hK.out _ _ ?_ (fun hHeld => ?_)
  · try dsimp only
    (first | assumption | exact old_drew ‹_› | (refine old_kept ?_ (by assumption); assumption))
  clear hK K
  refine wpAnyH_take (i := 6) (v := ?_) (show _ = some (Oper.mk _ _ _ _ _ _) from rfl) (by kernel_rfl) (by kernel_rfl) (by kernel_rfl) (fun _ _ _ h => h) (Or.inl ⟨by kernel_rfl, ?_⟩) (by assumption) ?_
  rotate_left
  · intro w hSw; (try dsimp only at hSw); go_simp; try with_reducible rfl
  simp only [Act.put, List.setIfInBounds_toArray, List.set_cons_zero, List.set_cons_succ]
  refine wpAnyH_take (i := 7) (v := ?_) (show _ = some (Oper.mk _ _ _ _ _ _) from rfl) (by kernel_rfl) (by kernel_rfl) (by kernel_rfl) (fun _ _ _ h => h) (Or.inl ⟨by kernel_rfl, ?_⟩) (by assumption) ?_
  rotate_left
  · intro w hSw; (try dsimp only at hSw); go_simp; try with_reducible rfl
  simp only [Act.put, List.setIfInBounds_toArray, List.set_cons_zero, List.set_cons_succ]
  refine wpAnyH_take (i := 8) (v := undef) (show _ = some (Oper.mk _ _ _ _ _ _) from rfl) (by kernel_rfl) (by kernel_rfl) (by kernel_rfl) (fun _ _ _ h => h) (Or.inr ⟨by kernel_rfl, rfl⟩) (by assumption) ?_
  simp only [Act.put, List.setIfInBounds_toArray, List.set_cons_zero, List.set_cons_succ]
  refine wpAnyH_take (i := 9) (v := undef) (show _ = some (Oper.mk _ _ _ _ _ _) from rfl) (by kernel_rfl) (by kernel_rfl) (by kernel_rfl) (fun _ _ _ h => h) (Or.inr ⟨by kernel_rfl, rfl⟩) (by assumption) ?_
  simp only [Act.put, List.setIfInBounds_toArray, List.set_cons_zero, List.set_cons_succ]
  refine wpAnyH_take (i := 10) (v := undef) (show _ = some (Oper.mk _ _ _ _ _ _) from rfl) (by kernel_rfl) (by kernel_rfl) (by kernel_rfl) (fun _ _ _ h => h) (Or.inr ⟨by kernel_rfl, rfl⟩) (by assumption) ?_
  simp only [Act.put, List.setIfInBounds_toArray, List.set_cons_zero, List.set_cons_succ]
  refine wpAnyH_take (i := 11) (v := undef) (show _ = some (Oper.mk _ _ _ _ _ _) from rfl) (by kernel_rfl) (by kernel_rfl) (by kernel_rfl) (fun _ _ _ h => h) (Or.inr ⟨by kernel_rfl, rfl⟩) (by assumption) ?_
  simp only [Act.put, List.setIfInBounds_toArray, List.set_cons_zero, List.set_cons_succ]
  refine wpAnyH_take (i := 12) (v := undef) (show _ = some (Oper.mk _ _ _ _ _ _) from rfl) (by kernel_rfl) (by kernel_rfl) (by kernel_rfl) (fun _ _ _ h => h) (Or.inr ⟨by kernel_rfl, rfl⟩) (by assumption) ?_
  simp only [Act.put, List.setIfInBounds_toArray, List.set_cons_zero, List.set_cons_succ]
  refine wpAnyH_take (i := 13) (v := undef) (show _ = some (Oper.mk _ _ _ _ _ _) from rfl) (by kernel_rfl) (by kernel_rfl) (by kernel_rfl) (fun _ _ _ h => h) (Or.inr ⟨by kernel_rfl, rfl⟩) (by assumption) ?_
  simp only [Act.put, List.setIfInBounds_toArray, List.set_cons_zero, List.set_cons_succ]
  refine wpAnyH_take (i := 14) (v := undef) (show _ = some (Oper.mk _ _ _ _ _ _) from rfl) (by kernel_rfl) (by kernel_rfl) (by kernel_rfl) (fun _ _ _ h => h) (Or.inr ⟨by kernel_rfl, rfl⟩) (by assumption) ?_
  simp only [Act.put, List.setIfInBounds_toArray, List.set_cons_zero, List.set_cons_succ]
  refine wpAnyH_take (i := 15) (v := undef) (show _ = some (Oper.mk _ _ _ _ _ _) from rfl) (by kernel_rfl) (by kernel_rfl) (by kernel_rfl) (fun _ _ _ h => h) (Or.inr ⟨by kernel_rfl, rfl⟩) (by assumption) ?_
  simp only [Act.put, List.setIfInBounds_toArray, List.set_cons_zero, List.set_cons_succ]
  refine wpAnyH_take (i := 16) (v := undef) (show _ = some (Oper.mk _ _ _ _ _ _) from rfl) (by kernel_rfl) (by kernel_rfl) (by kernel_rfl) (fun _ _ _ h => h) (Or.inr ⟨by kernel_rfl, rfl⟩) (by assumption) ?_
  simp only [Act.put, List.setIfInBounds_toArray, List.set_cons_zero, List.set_cons_succ]
  refine wpAnyH_take (i := 17) (v := undef) (show _ = some (Oper.mk _ _ _ _ _ _) from rfl) (by kernel_rfl) (by kernel_rfl) (by kernel_rfl) (fun _ _ _ h => h) (Or.inr ⟨by kernel_rfl, rfl⟩) (by assumption) ?_
  simp only [Act.put, List.setIfInBounds_toArray, List.set_cons_zero, List.set_cons_succ]
  refine wpAnyH_take (i := 18) (v := undef) (show _ = some (Oper.mk _ _ _ _ _ _) from rfl) (by kernel_rfl) (by kernel_rfl) (by kernel_rfl) (fun _ _ _ h => h) (Or.inr ⟨by kernel_rfl, rfl⟩) (by assumption) ?_
  simp only [Act.put, List.setIfInBounds_toArray, List.set_cons_zero, List.set_cons_succ]
  refine wpAnyH_take (i := 19) (v := undef) (show _ = some (Oper.mk _ _ _ _ _ _) from rfl) (by kernel_rfl) (by kernel_rfl) (by kernel_rfl) (fun _ _ _ h => h) (Or.inr ⟨by kernel_rfl, rfl⟩) (by assumption) ?_
  simp only [Act.put, List.setIfInBounds_toArray, List.set_cons_zero, List.set_cons_succ]
  refine wpAnyH_take (i := 20) (v := undef) (show _ = some (Oper.mk _ _ _ _ _ _) from rfl) (by kernel_rfl) (by kernel_rfl) (by kernel_rfl) (fun _ _ _ h => h) (Or.inr ⟨by kernel_rfl, rfl⟩) (by assumption) ?_
  simp only [Act.put, List.setIfInBounds_toArray, List.set_cons_zero, List.set_cons_succ]
  refine wpAnyH_take (i := 21) (v := undef) (show _ = some (Oper.mk _ _ _ _ _ _) from rfl) (by kernel_rfl) (by kernel_rfl) (by kernel_rfl) (fun _ _ _ h => h) (Or.inr ⟨by kernel_rfl, rfl⟩) (by assumption) ?_
  simp only [Act.put, List.setIfInBounds_toArray, List.set_cons_zero, List.set_cons_succ]
  refine wpAnyH_take (i := 22) (v := undef) (show _ = some (Oper.mk _ _ _ _ _ _) from rfl) (by kernel_rfl) (by kernel_rfl) (by kernel_rfl) (fun _ _ _ h => h) (Or.inr ⟨by kernel_rfl, rfl⟩) (by assumption) ?_
  simp only [Act.put, List.setIfInBounds_toArray, List.set_cons_zero, List.set_cons_succ]
  refine wpAnyH_take (i := 23) (v := undef) (show _ = some (Oper.mk _ _ _ _ _ _) from rfl) (by kernel_rfl) (by kernel_rfl) (by kernel_rfl) (fun _ _ _ h => h) (Or.inr ⟨by kernel_rfl, rfl⟩) (by assumption) ?_
  simp only [Act.put, List.setIfInBounds_toArray, List.set_cons_zero, List.set_cons_succ]
  refine wpAnyH_take (i := 24) (v := undef) (show _ = some (Oper.mk _ _ _ _ _ _) from rfl) (by kernel_rfl) (by kernel_rfl) (by kernel_rfl) (fun _ _ _ h => h) (Or.inr ⟨by kernel_rfl, rfl⟩) (by assumption) ?_
  simp only [Act.put, List.setIfInBounds_toArray, List.set_cons_zero, List.set_cons_succ]
  refine wpAnyH_take (i := 25) (v := ?_) (show _ = some (Oper.mk _ _ _ _ _ _) from rfl) (by kernel_rfl) (by kernel_rfl) (by kernel_rfl) (fun _ _ _ h => h) (Or.inl ⟨by kernel_rfl, ?_⟩) (by assumption) ?_
  rotate_left
  · intro w hSw; (try dsimp only at hSw); go_simp; try with_reducible rfl
  simp only [Act.put, List.setIfInBounds_toArray, List.set_cons_zero, List.set_cons_succ]
  refine wpAnyH_take (i := 26) (v := ?_) (show _ = some (Oper.mk _ _ _ _ _ _) from rfl) (by kernel_rfl) (by kernel_rfl) (by kernel_rfl) (fun _ _ _ h => h) (Or.inl ⟨by kernel_rfl, ?_⟩) (by assumption) ?_
  rotate_left
  · intro w hSw; (try dsimp only at hSw); go_simp; try with_reducible rfl
  simp only [Act.put, List.setIfInBounds_toArray, List.set_cons_zero, List.set_cons_succ]
  refine wpAnyH_done (by kernel_rfl) ?_ _
  refine NoPanic.normal ?_
  go_wp2
  go_ret
  exact ⟨rfl, HO.out.below.trans (Below.mono (by apply And.left; assumption) hz)⟩
set_option maxHeartbeats 4000000 in
theorem alike_two {P : Option Addr} {c : Nat} {x y : Ar} (h : isF [x, y] 1 1 = true) (w : World) (hP : To w w.heap.size P [x, y]) :
    Calls Try.prog 47 #[.agg #[.int .i64 11, .slice P 2 c]] w fun e w' => e = .returned (.bool (x.rc == y.rc)) ∧ Below w.heap.size w w' := by
  have H := hid h
  clear h
  obtain ⟨pb, po, b1, o1, b2, o2, rfl, hpb, hb1, hb2, h1, h2, h3, h4⟩ := hP.two
  have x0 := h3 0 (by decide)
  have x1 := h3 1 (by decide)
  have x2 := h3 2 (by decide)
  have y0 := h4 0 (by decide)
  have y1 := h4 1 (by decide)
  have y2 := h4 2 (by decide)
  simp only [Nat.add_zero, List.getElem?_cons_zero, List.getElem?_cons_succ] at x0 x1 x2 y0 y1 y2
  have HO := hid ((Own.nil w).alloc w.heap.size #[.int .i64 11, .slice (some ⟨pb, po, none⟩) 2 c] 51 rfl)
  have HT := hid (hP.below ((Below.refl _ _).alloc (Nat.le_refl _) (.cells #[.int .i64 11, .slice (some ⟨pb, po, none⟩) 2 c] 51)))
  have hz : w.heap.size < (w.alloc (.cells #[.int .i64 11, .slice (some ⟨pb, po, none⟩) 2 c] 51)).heap.size := by simp
  have hpre : ∀ b o, b < w.heap.size → (w.alloc (.cells #[.int .i64 11, .slice (some ⟨pb, po, none⟩) 2 c] 51)).cell? ⟨b, o, none⟩ = w.cell? ⟨b, o, none⟩ := fun b o hb => ((Below.refl _ _).alloc (Nat.le_refl _) _).cell (p := ⟨b, o, none⟩) hb
  rw [← hpre _ _ hpb] at h1 h2
  rw [← hpre _ _ hb1] at x0 x1 x2
  rw [← hpre _ _ hb2] at y0 y1 y2
  have hpb' : pb < (w.alloc (.cells #[.int .i64 11, .slice (some ⟨pb, po, none⟩) 2 c] 51)).heap.size := by omega
  have hb1' : b1 < (w.alloc (.cells #[.int .i64 11, .slice (some ⟨pb, po, none⟩) 2 c] 51)).heap.size := by omega
  have hb2' : b2 < (w.alloc (.cells #[.int .i64 11, .slice (some ⟨pb, po, none⟩) 2 c] 51)).heap.size := by omega
  clear hpre h3 h4 hP hpb hb1 hb2
  go_enter Try.func47, Try.ntmps47
  go_wp2
  have c0 := HO.out.c
  have z0 := HO.out.z
  generalize w.alloc (.cells #[.int .i64 11, .slice (some ⟨pb, po, none⟩) 2 c] 51) = W at HO HT hz c0 z0 h1 h2 x0 x1 x2 y0 y1 y2 hpb' hb1' hb2' ⊢
  have hS := Old.of (Below.refl W.heap.size W)
  go_region_held3 (fun w' => Below W.heap.size W w' ∧ ∀ b o, b < W.heap.size → w'.cell? ⟨b, o, none⟩ = W.cell? ⟨b, o, none⟩) (first | assumption | exact old_drew ‹_› | (refine old_kept ?_ (by assumption); assumption)) (first | (go_at_call 59; refine (are_at H.out rfl _ ?_).mono ?_; exact (HT.out.below (Below.mono (by apply And.left; assumption) (Nat.le_of_lt hz))).mono (Nat.le_trans (Nat.le_of_lt hz) (by apply Below.size; apply And.left; assumption)); rintro e w5 ⟨rfl, hbel⟩))
  go_wp2
  go_ret
  exact ⟨rfl, HO.out.below.trans (Below.mono (by apply And.left; assumption) (Nat.le_of_lt hz))⟩
theorem alike_of {op : Int} {P : Option Addr} {n c : Nat} {l : List Ar} {v : Bool} (h : alikeF op l = v) (hn : l.length = n) (w : World) (hP : To w w.heap.size P l) :
    Calls Try.prog 47 #[.agg #[.int .i64 op, .slice P n c]] w fun e w' => e = .returned (.bool v) ∧ Below w.heap.size w w' := by
  subst h
  unfold alikeF
  cases hop : (op == 11)
  · exact alike_op hop P n c w
  · have hop' : op = 11 := by simpa using hop
    subst hop'
    cases hi : isF l 1 1
    · exact alike_not hi hn w hP
    · obtain ⟨x, y, rfl, _, _⟩ := isF_two hi
      subst hn
      exact alike_two hi w hP
end Go.Proofs.Ytmlmdbholakioaa
