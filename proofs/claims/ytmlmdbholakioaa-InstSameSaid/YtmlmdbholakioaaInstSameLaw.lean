/-
  The walk of InstSame.
-/
import Derived.Test.YtmlmdbholakioaaInstAwake
import Derived.Deep.RegionHeld3
namespace Go.Proofs.Ytmlmdbholakioaa
open Go.RowKit

theorem sameI_iff {op op' : Int} {l l' : List Ar} : sameI op l op' l' = true ↔ instF op l = 0 ∧ instF op' l' = 0 ∧ canonOp op l = canonOp op' l' ∧ canonL op l = canonL op' l' := by
  simp [sameI, eqL_iff, and_assoc]
theorem sameI_symm (op op' : Int) (l l' : List Ar) : sameI op' l' op l = sameI op l op' l' := by
  rw [Bool.eq_iff_iff, sameI_iff, sameI_iff]
  constructor
  · rintro ⟨h1, h2, h3, h4⟩; exact ⟨h2, h1, h3.symm, h4.symm⟩
  · rintro ⟨h1, h2, h3, h4⟩; exact ⟨h2, h1, h3.symm, h4.symm⟩
theorem sameI_trans {op op' op'' : Int} {l l' l'' : List Ar} (h : sameI op l op' l' = true) (k : sameI op' l' op'' l'' = true) : sameI op l op'' l'' = true := by
  rw [sameI_iff] at h k ⊢
  exact ⟨h.1, k.2.1, h.2.2.1.trans k.2.2.1, h.2.2.2.trans k.2.2.2⟩
theorem sameI_op {op op' : Int} {l l' : List Ar} (h : sameI op l op' l' = true) : op = op' ∧ instF op l = 0 ∧ instF op' l' = 0 := by
  rw [sameI_iff] at h
  obtain ⟨h1, h2, h3, _⟩ := h
  unfold canonOp at h3
  rw [if_pos h1, if_pos h2] at h3
  exact ⟨h3, h1, h2⟩
set_option maxHeartbeats 1000000 in
theorem isame_long0 (op0 : Int) (A0 : Option Addr) (c0 : Nat) (l0 : List Ar) (op1 : Int) (A1 : Option Addr) (c1 : Nat) (l1 : List Ar) (op2 : Int) (A2 : Option Addr) (c2 : Nat) (l2 : List Ar) (w : World) (m0 : Args w w.heap.size A0 l0) (f0 : Fine l0) (_u0 : l0.length ≤ c0) (_b0 : c0 ≤ 9223372036854775807) (m1 : Args w w.heap.size A1 l1) (f1 : Fine l1) (_u1 : l1.length ≤ c1) (_b1 : c1 ≤ 9223372036854775807) (m2 : Args w w.heap.size A2 l2) (f2 : Fine l2) (_u2 : l2.length ≤ c2) (_b2 : c2 ≤ 9223372036854775807) (h0 : 9 < l0.length) :
    Calls Try.prog 5 #[.agg #[.int .i64 op0, .slice A0 l0.length c0], .agg #[.int .i64 op1, .slice A1 l1.length c1], .agg #[.int .i64 op2, .slice A2 l2.length c2]] w fun e w' => e = .returned (.bool true) ∧ Below w.heap.size w w' := by
  have b0 : (l0.length : Int) ≤ 9223372036854775807 := by omega
  have M0 := hid m0
  have F0 := hid f0
  clear m0 f0
  have M1 := hid m1
  have F1 := hid f1
  clear m1 f1
  have M2 := hid m2
  have F2 := hid f2
  clear m2 f2
  have HO := hid ((((Own.nil w).alloc w.heap.size #[.int .i64 op0, .slice A0 l0.length c0] 24 rfl).alloc (w.heap.size + 1) #[.int .i64 op1, .slice A1 l1.length c1] 24 (by simp)).alloc (w.heap.size + 1 + 1) #[.int .i64 op2, .slice A2 l2.length c2] 24 (by simp))
  go_enter Try.func5, Try.ntmps5
  go_wp2_with fail
  refine (lawake_any _).mono ?_
  rintro e w1 ⟨rfl, hb1⟩
  have HO := hid (HO.out.call hb1)
  clear hb1
  have x0 := HO.out.tl.tl.c
  have x1 := HO.out.tl.c
  have x2 := HO.out.c
  have y0 := HO.out.tl.tl.z
  have y1 := HO.out.tl.z
  have y2 := HO.out.z
  go_wp2_with fail
  go_ret
  exact ⟨rfl, HO.out.below⟩
set_option maxHeartbeats 1000000 in
theorem isame_long1 (op0 : Int) (A0 : Option Addr) (c0 : Nat) (l0 : List Ar) (op1 : Int) (A1 : Option Addr) (c1 : Nat) (l1 : List Ar) (op2 : Int) (A2 : Option Addr) (c2 : Nat) (l2 : List Ar) (w : World) (m0 : Args w w.heap.size A0 l0) (f0 : Fine l0) (_u0 : l0.length ≤ c0) (_b0 : c0 ≤ 9223372036854775807) (m1 : Args w w.heap.size A1 l1) (f1 : Fine l1) (_u1 : l1.length ≤ c1) (_b1 : c1 ≤ 9223372036854775807) (m2 : Args w w.heap.size A2 l2) (f2 : Fine l2) (_u2 : l2.length ≤ c2) (_b2 : c2 ≤ 9223372036854775807) (h0 : l0.length ≤ 9) (h1 : 9 < l1.length) :
    Calls Try.prog 5 #[.agg #[.int .i64 op0, .slice A0 l0.length c0], .agg #[.int .i64 op1, .slice A1 l1.length c1], .agg #[.int .i64 op2, .slice A2 l2.length c2]] w fun e w' => e = .returned (.bool true) ∧ Below w.heap.size w w' := by
  have b0 : (l0.length : Int) ≤ 9223372036854775807 := by omega
  have M0 := hid m0
  have F0 := hid f0
  clear m0 f0
  have M1 := hid m1
  have F1 := hid f1
  clear m1 f1
  have M2 := hid m2
  have F2 := hid f2
  clear m2 f2
  have HO := hid ((((Own.nil w).alloc w.heap.size #[.int .i64 op0, .slice A0 l0.length c0] 24 rfl).alloc (w.heap.size + 1) #[.int .i64 op1, .slice A1 l1.length c1] 24 (by simp)).alloc (w.heap.size + 1 + 1) #[.int .i64 op2, .slice A2 l2.length c2] 24 (by simp))
  go_enter Try.func5, Try.ntmps5
  go_wp2_with fail
  refine (lawake_any _).mono ?_
  rintro e w1 ⟨rfl, hb1⟩
  have HO := hid (HO.out.call hb1)
  clear hb1
  have x0 := HO.out.tl.tl.c
  have x1 := HO.out.tl.c
  have x2 := HO.out.c
  have y0 := HO.out.tl.tl.z
  have y1 := HO.out.tl.z
  have y2 := HO.out.z
  go_wp2_with fail
  go_ret
  exact ⟨rfl, HO.out.below⟩
set_option maxHeartbeats 1000000 in
theorem isame_long2 (op0 : Int) (A0 : Option Addr) (c0 : Nat) (l0 : List Ar) (op1 : Int) (A1 : Option Addr) (c1 : Nat) (l1 : List Ar) (op2 : Int) (A2 : Option Addr) (c2 : Nat) (l2 : List Ar) (w : World) (m0 : Args w w.heap.size A0 l0) (f0 : Fine l0) (_u0 : l0.length ≤ c0) (_b0 : c0 ≤ 9223372036854775807) (m1 : Args w w.heap.size A1 l1) (f1 : Fine l1) (_u1 : l1.length ≤ c1) (_b1 : c1 ≤ 9223372036854775807) (m2 : Args w w.heap.size A2 l2) (f2 : Fine l2) (_u2 : l2.length ≤ c2) (_b2 : c2 ≤ 9223372036854775807) (h0 : l0.length ≤ 9) (h1 : l1.length ≤ 9) (h2 : 9 < l2.length) :
    Calls Try.prog 5 #[.agg #[.int .i64 op0, .slice A0 l0.length c0], .agg #[.int .i64 op1, .slice A1 l1.length c1], .agg #[.int .i64 op2, .slice A2 l2.length c2]] w fun e w' => e = .returned (.bool true) ∧ Below w.heap.size w w' := by
  have b0 : (l0.length : Int) ≤ 9223372036854775807 := by omega
  have M0 := hid m0
  have F0 := hid f0
  clear m0 f0
  have M1 := hid m1
  have F1 := hid f1
  clear m1 f1
  have M2 := hid m2
  have F2 := hid f2
  clear m2 f2
  have HO := hid ((((Own.nil w).alloc w.heap.size #[.int .i64 op0, .slice A0 l0.length c0] 24 rfl).alloc (w.heap.size + 1) #[.int .i64 op1, .slice A1 l1.length c1] 24 (by simp)).alloc (w.heap.size + 1 + 1) #[.int .i64 op2, .slice A2 l2.length c2] 24 (by simp))
  go_enter Try.func5, Try.ntmps5
  go_wp2_with fail
  refine (lawake_any _).mono ?_
  rintro e w1 ⟨rfl, hb1⟩
  have HO := hid (HO.out.call hb1)
  clear hb1
  have x0 := HO.out.tl.tl.c
  have x1 := HO.out.tl.c
  have x2 := HO.out.c
  have y0 := HO.out.tl.tl.z
  have y1 := HO.out.tl.z
  have y2 := HO.out.z
  go_wp2_with fail
  go_ret
  exact ⟨rfl, HO.out.below⟩
set_option maxHeartbeats 4000000 in
theorem isame_short (op0 : Int) (A0 : Option Addr) (c0 : Nat) (l0 : List Ar) (op1 : Int) (A1 : Option Addr) (c1 : Nat) (l1 : List Ar) (op2 : Int) (A2 : Option Addr) (c2 : Nat) (l2 : List Ar) (w : World) (m0 : Args w w.heap.size A0 l0) (f0 : Fine l0) (_u0 : l0.length ≤ c0) (_b0 : c0 ≤ 9223372036854775807) (m1 : Args w w.heap.size A1 l1) (f1 : Fine l1) (_u1 : l1.length ≤ c1) (_b1 : c1 ≤ 9223372036854775807) (m2 : Args w w.heap.size A2 l2) (f2 : Fine l2) (_u2 : l2.length ≤ c2) (_b2 : c2 ≤ 9223372036854775807) (h0 : l0.length ≤ 9) (h1 : l1.length ≤ 9) (h2 : l2.length ≤ 9) :
    Calls Try.prog 5 #[.agg #[.int .i64 op0, .slice A0 l0.length c0], .agg #[.int .i64 op1, .slice A1 l1.length c1], .agg #[.int .i64 op2, .slice A2 l2.length c2]] w fun e w' => e = .returned (.bool true) ∧ Below w.heap.size w w' := by
  obtain ⟨p, hp⟩ : ∃ p, sameI op0 l0 op1 l1 = p := ⟨_, rfl⟩
  obtain ⟨q, hq⟩ : ∃ q, sameI op1 l1 op2 l2 = q := ⟨_, rfl⟩
  have HP := hid hp
  have HQ := hid hq
  have HP2 := hid ((sameI_symm op0 op1 l0 l1).trans hp)
  clear hp hq
  have M0 := hid m0
  have F0 := hid f0
  clear m0 f0
  have M1 := hid m1
  have F1 := hid f1
  clear m1 f1
  have M2 := hid m2
  have F2 := hid f2
  clear m2 f2
  have HO := hid ((((Own.nil w).alloc w.heap.size #[.int .i64 op0, .slice A0 l0.length c0] 24 rfl).alloc (w.heap.size + 1) #[.int .i64 op1, .slice A1 l1.length c1] 24 (by simp)).alloc (w.heap.size + 1 + 1) #[.int .i64 op2, .slice A2 l2.length c2] 24 (by simp))
  go_enter Try.func5, Try.ntmps5
  go_wp2_with fail
  refine (lawake_any _).mono ?_
  rintro e w1 ⟨rfl, hb1⟩
  have HO := hid (HO.out.call hb1)
  clear hb1
  have x0 := HO.out.tl.tl.c
  have x1 := HO.out.tl.c
  have x2 := HO.out.c
  have y0 := HO.out.tl.tl.z
  have y1 := HO.out.tl.z
  have y2 := HO.out.z
  go_upto_region 4 with fail
  have HB1 := hid HO.out.below
  have A0h := hid (M0.out.call HB1.out)
  have A1h := hid (M1.out.call HB1.out)
  have A2h := hid (M2.out.call HB1.out)
  generalize w1 = W at HO HB1 A0h A1h A2h x0 x1 x2 y0 y1 y2 ⊢
  have HS := Old.refl W
  go_region_held3 (fun w' => Below W.heap.size W w' ∧ ∀ b o, b < W.heap.size → w'.cell? ⟨b, o, none⟩ = W.cell? ⟨b, o, none⟩) (first | assumption | exact old_drew HS | exact old_drew ‹_› | (refine old_kept ?_ (by assumption); assumption)) (first | (go_at_call 15; with_reducible refine (same_at (op := op0) (op' := op1) (l := l0) (l' := l1) HP.out rfl rfl h0 h1 F0.out F1.out _ ?_ ?_).mono ?_; (focus exact A0h.out.call (by apply And.left; assumption)); (focus exact A1h.out.call (by apply And.left; assumption)); rintro e w9 ⟨rfl, hbel⟩) | (go_at_call 15; with_reducible refine (same_at (op := op1) (op' := op2) (l := l1) (l' := l2) HQ.out rfl rfl h1 h2 F1.out F2.out _ ?_ ?_).mono ?_; (focus exact A1h.out.call (by apply And.left; assumption)); (focus exact A2h.out.call (by apply And.left; assumption)); rintro e w9 ⟨rfl, hbel⟩))
  have HO := hid (HO.out.call (show Below W.heap.size W w9 by apply And.left; assumption))
  have HBe := hid HO.out.below
  clear x0 x1 x2 y0 y1 y2 HS
  have x0 := HO.out.tl.tl.c
  have x1 := HO.out.tl.c
  have x2 := HO.out.c
  have y0 := HO.out.tl.tl.z
  have y1 := HO.out.tl.z
  have y2 := HO.out.z
  cases p
  ·
    go_wp2_with fail
    refine (same_at (op := op1) (op' := op0) (l := l1) (l' := l0) HP2.out rfl rfl h1 h0 F1.out F0.out _ (M1.out.call HO.out.below) (M0.out.call HO.out.below)).mono ?_
    rintro e v1 ⟨rfl, hb⟩
    have HO := hid (HO.out.call hb)
    clear hb x0 x1 x2 y0 y1 y2
    have x0 := HO.out.tl.tl.c
    have x1 := HO.out.tl.c
    have x2 := HO.out.c
    have y0 := HO.out.tl.tl.z
    have y1 := HO.out.tl.z
    have y2 := HO.out.z
    go_wp2_with fail
    go_ret
    exact ⟨rfl, HO.out.below⟩
  · cases q
    ·
      have HF := hid (sameI_op HP.out)
      have HE0 := hid HF.out.2.1
      have HE1 := hid HF.out.2.2
      have hop : (op0 == op1) = true := beq_iff_eq.2 HF.out.1
      go_wp2_with fail
      refine (same_at (op := op1) (op' := op0) (l := l1) (l' := l0) HP2.out rfl rfl h1 h0 F1.out F0.out _ (M1.out.call HO.out.below) (M0.out.call HO.out.below)).mono ?_
      rintro e v1 ⟨rfl, hb⟩
      have HO := hid (HO.out.call hb)
      clear hb x0 x1 x2 y0 y1 y2
      have x0 := HO.out.tl.tl.c
      have x1 := HO.out.tl.c
      have x2 := HO.out.c
      have y0 := HO.out.tl.tl.z
      have y1 := HO.out.tl.z
      have y2 := HO.out.z
      go_wp2_with fail
      refine (check_at (op := op0) (l := l0) HE0.out rfl h0 F0.out _ (M0.out.call HO.out.below)).mono ?_
      rintro e v2 ⟨rfl, hb⟩
      have HO := hid (HO.out.call hb)
      clear hb x0 x1 x2 y0 y1 y2
      have x0 := HO.out.tl.tl.c
      have x1 := HO.out.tl.c
      have x2 := HO.out.c
      have y0 := HO.out.tl.tl.z
      have y1 := HO.out.tl.z
      have y2 := HO.out.z
      go_wp2_with fail
      refine (check_at (op := op1) (l := l1) HE1.out rfl h1 F1.out _ (M1.out.call HO.out.below)).mono ?_
      rintro e v3 ⟨rfl, hb⟩
      have HO := hid (HO.out.call hb)
      clear hb x0 x1 x2 y0 y1 y2
      have x0 := HO.out.tl.tl.c
      have x1 := HO.out.tl.c
      have x2 := HO.out.c
      have y0 := HO.out.tl.tl.z
      have y1 := HO.out.tl.z
      have y2 := HO.out.z
      go_wp2_with fail
      go_ret
      exact ⟨rfl, HO.out.below⟩
    · have HT := hid (sameI_trans HP.out HQ.out)
      have HF := hid (sameI_op HP.out)
      have HE0 := hid HF.out.2.1
      have HE1 := hid HF.out.2.2
      have hop : (op0 == op1) = true := beq_iff_eq.2 HF.out.1
      go_wp2_with fail
      refine (same_at (op := op1) (op' := op0) (l := l1) (l' := l0) HP2.out rfl rfl h1 h0 F1.out F0.out _ (M1.out.call HO.out.below) (M0.out.call HO.out.below)).mono ?_
      rintro e v1 ⟨rfl, hb⟩
      have HO := hid (HO.out.call hb)
      clear hb x0 x1 x2 y0 y1 y2
      have x0 := HO.out.tl.tl.c
      have x1 := HO.out.tl.c
      have x2 := HO.out.c
      have y0 := HO.out.tl.tl.z
      have y1 := HO.out.tl.z
      have y2 := HO.out.z
      go_wp2_with fail
      refine (same_at (op := op0) (op' := op2) (l := l0) (l' := l2) HT.out rfl rfl h0 h2 F0.out F2.out _ (M0.out.call HO.out.below) (M2.out.call HO.out.below)).mono ?_
      rintro e v2 ⟨rfl, hb⟩
      have HO := hid (HO.out.call hb)
      clear hb x0 x1 x2 y0 y1 y2
      have x0 := HO.out.tl.tl.c
      have x1 := HO.out.tl.c
      have x2 := HO.out.c
      have y0 := HO.out.tl.tl.z
      have y1 := HO.out.tl.z
      have y2 := HO.out.z
      go_wp2_with fail
      refine (check_at (op := op0) (l := l0) HE0.out rfl h0 F0.out _ (M0.out.call HO.out.below)).mono ?_
      rintro e v3 ⟨rfl, hb⟩
      have HO := hid (HO.out.call hb)
      clear hb x0 x1 x2 y0 y1 y2
      have x0 := HO.out.tl.tl.c
      have x1 := HO.out.tl.c
      have x2 := HO.out.c
      have y0 := HO.out.tl.tl.z
      have y1 := HO.out.tl.z
      have y2 := HO.out.z
      go_wp2_with fail
      refine (check_at (op := op1) (l := l1) HE1.out rfl h1 F1.out _ (M1.out.call HO.out.below)).mono ?_
      rintro e v4 ⟨rfl, hb⟩
      have HO := hid (HO.out.call hb)
      clear hb x0 x1 x2 y0 y1 y2
      have x0 := HO.out.tl.tl.c
      have x1 := HO.out.tl.c
      have x2 := HO.out.c
      have y0 := HO.out.tl.tl.z
      have y1 := HO.out.tl.z
      have y2 := HO.out.z
      go_wp2_with fail
      go_ret
      exact ⟨rfl, HO.out.below⟩
theorem isame_law (op0 : Int) (A0 : Option Addr) (c0 : Nat) (l0 : List Ar) (op1 : Int) (A1 : Option Addr) (c1 : Nat) (l1 : List Ar) (op2 : Int) (A2 : Option Addr) (c2 : Nat) (l2 : List Ar) (w : World) (m0 : Args w w.heap.size A0 l0) (f0 : Fine l0) (u0 : l0.length ≤ c0) (b0 : c0 ≤ 9223372036854775807) (m1 : Args w w.heap.size A1 l1) (f1 : Fine l1) (u1 : l1.length ≤ c1) (b1 : c1 ≤ 9223372036854775807) (m2 : Args w w.heap.size A2 l2) (f2 : Fine l2) (u2 : l2.length ≤ c2) (b2 : c2 ≤ 9223372036854775807) :
    Calls Try.prog 5 #[.agg #[.int .i64 op0, .slice A0 l0.length c0], .agg #[.int .i64 op1, .slice A1 l1.length c1], .agg #[.int .i64 op2, .slice A2 l2.length c2]] w fun e w' => e = .returned (.bool true) ∧ Below w.heap.size w w' := by
  by_cases h0 : l0.length ≤ 9
  · by_cases h1 : l1.length ≤ 9
    · by_cases h2 : l2.length ≤ 9
      · exact isame_short op0 A0 c0 l0 op1 A1 c1 l1 op2 A2 c2 l2 w m0 f0 u0 b0 m1 f1 u1 b1 m2 f2 u2 b2 h0 h1 h2
      · exact isame_long2 op0 A0 c0 l0 op1 A1 c1 l1 op2 A2 c2 l2 w m0 f0 u0 b0 m1 f1 u1 b1 m2 f2 u2 b2 h0 h1 (by omega)
    · exact isame_long1 op0 A0 c0 l0 op1 A1 c1 l1 op2 A2 c2 l2 w m0 f0 u0 b0 m1 f1 u1 b1 m2 f2 u2 b2 h0 (by omega)
  · exact isame_long0 op0 A0 c0 l0 op1 A1 c1 l1 op2 A2 c2 l2 w m0 f0 u0 b0 m1 f1 u1 b1 m2 f2 u2 b2 (by omega)
end Go.Proofs.Ytmlmdbholakioaa
