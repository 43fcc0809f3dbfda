/-
  The walk of InstTells.
-/
import Derived.Test.YtmlmdbholakioaaInstTells0
namespace Go.Proofs.Ytmlmdbholakioaa
open Go.RowKit
set_option maxHeartbeats 1000000 in
theorem itells_long0 (op0 : Int) (A0 : Option Addr) (c0 : Nat) (l0 : List Ar) (op1 : Int) (A1 : Option Addr) (c1 : Nat) (l1 : List Ar) (w : World) (m0 : Args w w.heap.size A0 l0) (f0 : Fine l0) (_u0 : l0.length ≤ c0) (_b0 : c0 ≤ 9223372036854775807) (m1 : Args w w.heap.size A1 l1) (f1 : Fine l1) (_u1 : l1.length ≤ c1) (_b1 : c1 ≤ 9223372036854775807) (h0 : 9 < l0.length) :
    Calls Try.prog 3 #[.agg #[.int .i64 op0, .slice A0 l0.length c0], .agg #[.int .i64 op1, .slice A1 l1.length c1]] w fun e w' => e = .returned (.bool true) ∧ Below w.heap.size w w' := by
  have b0 : (l0.length : Int) ≤ 9223372036854775807 := by omega
  have M0 := hid m0
  have F0 := hid f0
  clear m0 f0
  have M1 := hid m1
  have F1 := hid f1
  clear m1 f1
  have HO := hid (((Own.nil w).alloc w.heap.size #[.int .i64 op0, .slice A0 l0.length c0] 24 rfl).alloc (w.heap.size + 1) #[.int .i64 op1, .slice A1 l1.length c1] 24 (by simp))
  go_enter Try.func3, Try.ntmps3
  go_wp2_with fail
  refine (lawake_any _).mono ?_
  rintro e w1 ⟨rfl, hb1⟩
  have HO := hid (HO.out.call hb1)
  clear hb1
  go_wp2_with fail
  go_ret
  exact ⟨rfl, HO.out.below⟩
set_option maxHeartbeats 1000000 in
theorem itells_long1 (op0 : Int) (A0 : Option Addr) (c0 : Nat) (l0 : List Ar) (op1 : Int) (A1 : Option Addr) (c1 : Nat) (l1 : List Ar) (w : World) (m0 : Args w w.heap.size A0 l0) (f0 : Fine l0) (_u0 : l0.length ≤ c0) (_b0 : c0 ≤ 9223372036854775807) (m1 : Args w w.heap.size A1 l1) (f1 : Fine l1) (_u1 : l1.length ≤ c1) (_b1 : c1 ≤ 9223372036854775807) (h0 : l0.length ≤ 9) (h1 : 9 < l1.length) :
    Calls Try.prog 3 #[.agg #[.int .i64 op0, .slice A0 l0.length c0], .agg #[.int .i64 op1, .slice A1 l1.length c1]] w fun e w' => e = .returned (.bool true) ∧ Below w.heap.size w w' := by
  have b0 : (l0.length : Int) ≤ 9223372036854775807 := by omega
  have M0 := hid m0
  have F0 := hid f0
  clear m0 f0
  have M1 := hid m1
  have F1 := hid f1
  clear m1 f1
  have HO := hid (((Own.nil w).alloc w.heap.size #[.int .i64 op0, .slice A0 l0.length c0] 24 rfl).alloc (w.heap.size + 1) #[.int .i64 op1, .slice A1 l1.length c1] 24 (by simp))
  go_enter Try.func3, Try.ntmps3
  go_wp2_with fail
  refine (lawake_any _).mono ?_
  rintro e w1 ⟨rfl, hb1⟩
  have HO := hid (HO.out.call hb1)
  clear hb1
  go_wp2_with fail
  go_ret
  exact ⟨rfl, HO.out.below⟩
set_option maxHeartbeats 8000000 in
set_option maxRecDepth 100000 in
theorem itells_short (op0 : Int) (A0 : Option Addr) (c0 : Nat) (l0 : List Ar) (op1 : Int) (A1 : Option Addr) (c1 : Nat) (l1 : List Ar) (w : World) (m0 : Args w w.heap.size A0 l0) (f0 : Fine l0) (_u0 : l0.length ≤ c0) (_b0 : c0 ≤ 9223372036854775807) (m1 : Args w w.heap.size A1 l1) (f1 : Fine l1) (_u1 : l1.length ≤ c1) (_b1 : c1 ≤ 9223372036854775807) (h0 : l0.length ≤ 9) (h1 : l1.length ≤ 9) :
    Calls Try.prog 3 #[.agg #[.int .i64 op0, .slice A0 l0.length c0], .agg #[.int .i64 op1, .slice A1 l1.length c1]] w fun e w' => e = .returned (.bool true) ∧ Below w.heap.size w w' := by
  obtain ⟨e1, he1⟩ : ∃ e, instF op0 l0 = e := ⟨_, rfl⟩
  obtain ⟨o1, ho1⟩ : ∃ o, canonOp op0 l0 = o := ⟨_, rfl⟩
  obtain ⟨L1, hL1⟩ : ∃ L, canonL op0 l0 = L := ⟨_, rfl⟩
  obtain ⟨⟨bx, bs⟩, hbi⟩ : ∃ b, bitsF op0 l0 = b := ⟨_, rfl⟩
  obtain ⟨sv, hsv⟩ : ∃ s, sameI op0 l0 op1 l1 = s := ⟨_, rfl⟩
  have h4 : L1.length ≤ 4 := hL1 ▸ canonL_length op0 l0
  have HE1 := hid he1
  have HO1 := hid ho1
  have HL1 := hid hL1
  have HBI := hid hbi
  have HSV := hid hsv
  clear he1 ho1 hL1 hbi hsv
  have M0 := hid m0
  have F0 := hid f0
  clear m0 f0
  have M1 := hid m1
  have F1 := hid f1
  clear m1 f1
  have HO := hid (((Own.nil w).alloc w.heap.size #[.int .i64 op0, .slice A0 l0.length c0] 24 rfl).alloc (w.heap.size + 1) #[.int .i64 op1, .slice A1 l1.length c1] 24 (by simp))
  have HW2 := hid (two_alloc w (.cells #[.int .i64 op0, .slice A0 l0.length c0] 24) (.cells #[.int .i64 op1, .slice A1 l1.length c1] 24))
  have N0 := hid M0.out
  have N1 := hid M1.out
  have M0 := hid (M0.out.call HW2.out)
  have M1 := hid (M1.out.call HW2.out)
  go_enter Try.func3, Try.ntmps3
  go_upto_region 3 with fail
  clear HW2
  generalize (w.alloc (.cells #[.int .i64 op0, .slice A0 l0.length c0] 24)).alloc (.cells #[.int .i64 op1, .slice A1 l1.length c1] 24) = W at *
  have x0 := HO.out.tl.c
  have x1 := HO.out.c
  have y0 := HO.out.tl.z
  have y1 := HO.out.z
  go_cut [5, 6] from 30 to 33 (fun s5 s6 wx => ∃ (i5 i6 : Nat) (G0 G1 : Option Addr) (d0 d1 : Nat), s5 = .pointer (some ⟨i5, 0, none⟩) ∧ s6 = .pointer (some ⟨i6, 0, none⟩) ∧ i5 ≠ i6 ∧ W.heap.size ≤ i5 ∧ W.heap.size ≤ i6 ∧ Hid (Below W.heap.size W wx) ∧ Hid (BlkAt wx i5 #[.int .i64 op0, .slice G0 l0.length d0] 24) ∧ Hid (BlkAt wx i6 #[.int .i64 op1, .slice G1 l1.length d1] 24) ∧ Hid (OwnA W.heap.size wx G0 l0) ∧ Hid (OwnA W.heap.size wx G1 l1))
  case first =>
    have HS := Old.refl W
    go_region_held3 (fun w' => Below W.heap.size W w' ∧ ∀ b o, b < W.heap.size → w'.cell? ⟨b, o, none⟩ = W.cell? ⟨b, o, none⟩) (first | assumption | exact old_drew HS | exact old_drew ‹_› | exact old_alloc ‹_› _ | (refine old_kept ?_ (by assumption); assumption) | exact old_alloc HS _ | exact old_alloc (old_drew HS) _ | exact old_kept HS (by assumption) | exact old_kept (old_drew HS) (by assumption) | (refine Old.of ?_; (focus (repeat (first | with_reducible assumption | with_reducible exact Below.refl _ _ | with_reducible refine bel_alloc ?_ _ | with_reducible refine bel_drew ?_ | ((with_reducible refine bel_set ?_ _ _ ?_); rotate_left; focus (first | (simp; done) | omega | (simp; omega))) | (apply bel_call; rotate_left; with_reducible assumption)))))) (first | (go_at_call 7; (with_reducible refine (copy_at (op := op0) (A := A0) (l := l0) rfl h0 _ ?_).mono ?_); (focus exact M0.out.call (by apply And.left; first | assumption | exact HS | exact old_drew HS)); rintro e w5 ⟨G5, d5, rfl, hb5, hP5⟩; have hq5 := hid (oa_lt hP5); have hs5 := hb5.size; (try simp at hs5); (try (have hcx := fun j => Below.cell hb5 (p := ⟨W.heap.size, j, none⟩) (by first | (simp; done) | (simp; omega) | omega))); (try (have hfx := fun j => Below.frozen hb5 (p := ⟨W.heap.size, j, none⟩) (by first | (simp; done) | (simp; omega) | omega))); (try (have hzx : W.heap.size < w5.heap.size := by omega)); (try (have hnx : W.heap.size ≠ w5.heap.size := by omega)); (try (have hcx := fun j => Below.cell hb5 (p := ⟨W.heap.size + 1, j, none⟩) (by first | (simp; done) | (simp; omega) | omega))); (try (have hfx := fun j => Below.frozen hb5 (p := ⟨W.heap.size + 1, j, none⟩) (by first | (simp; done) | (simp; omega) | omega))); (try (have hzx : W.heap.size + 1 < w5.heap.size := by omega)); (try (have hnx : W.heap.size + 1 ≠ w5.heap.size := by omega))) | (go_at_call 7; (with_reducible refine (copy_at (op := op1) (A := A1) (l := l1) rfl h1 _ ?_).mono ?_); (focus exact M1.out.call (by apply And.left; first | assumption | exact HS | exact old_drew HS)); rintro e w6 ⟨G6, d6, rfl, hb6, hP6⟩; have hq6 := hid (oa_lt hP6); have hs6 := hb6.size; (try simp at hs6); (try (have hcx := fun j => Below.cell hb6 (p := ⟨W.heap.size, j, none⟩) (by first | (simp; done) | (simp; omega) | omega))); (try (have hfx := fun j => Below.frozen hb6 (p := ⟨W.heap.size, j, none⟩) (by first | (simp; done) | (simp; omega) | omega))); (try (have hzx : W.heap.size < w6.heap.size := by omega)); (try (have hnx : W.heap.size ≠ w6.heap.size := by omega)); (try (have hcx := fun j => Below.cell hb6 (p := ⟨W.heap.size + 1, j, none⟩) (by first | (simp; done) | (simp; omega) | omega))); (try (have hfx := fun j => Below.frozen hb6 (p := ⟨W.heap.size + 1, j, none⟩) (by first | (simp; done) | (simp; omega) | omega))); (try (have hzx : W.heap.size + 1 < w6.heap.size := by omega)); (try (have hnx : W.heap.size + 1 ≠ w6.heap.size := by omega)); (try (have hcx := fun j => Below.cell hb6 (p := ⟨w5.heap.size, j, none⟩) (by first | (simp; done) | (simp; omega) | omega))); (try (have hfx := fun j => Below.frozen hb6 (p := ⟨w5.heap.size, j, none⟩) (by first | (simp; done) | (simp; omega) | omega))); (try (have hzx : w5.heap.size < w6.heap.size := by omega)); (try (have hnx : w5.heap.size ≠ w6.heap.size := by omega)); (try (have hcx := fun j => Below.cell hb6 (p := ⟨w5.heap.size + 1, j, none⟩) (by first | (simp; done) | (simp; omega) | omega))); (try (have hfx := fun j => Below.frozen hb6 (p := ⟨w5.heap.size + 1, j, none⟩) (by first | (simp; done) | (simp; omega) | omega))); (try (have hzx : w5.heap.size + 1 < w6.heap.size := by omega)); (try (have hnx : w5.heap.size + 1 ≠ w6.heap.size := by omega))))
    all_goals
      have hP5 := OwnA.mono hP5 (show W.heap.size ≤ _ by first | omega | (simp; done) | (simp; omega))
      have hP6 := OwnA.mono hP6 (show W.heap.size ≤ _ by first | omega | (simp; done) | (simp; omega))
      go_wp2_with fail
      go_meet
      refine ⟨_, _, G5, G6, d5, d6, rfl, rfl, ?_, ?_, ?_, hid (by apply And.left; assumption), hid ?_, hid ?_, hid ?_, hid ?_⟩
      · first | omega | (simp; done) | (simp; omega)
      · first | omega | (simp; done) | (simp; omega)
      · first | omega | (simp; done) | (simp; omega)
      · (focus (repeat (first | ((with_reducible refine blk_new ?_); focus (first | rfl | (simp; done))) | with_reducible refine blk_alloc ?_ _ | with_reducible refine blk_drew ?_ | with_reducible apply blk_two | (with_reducible refine blk_other ?_ (by first | omega | (simp; done) | (simp; omega))) | (refine blk_call ?_ (by with_reducible assumption)))))
      · (focus (repeat (first | ((with_reducible refine blk_new ?_); focus (first | rfl | (simp; done))) | with_reducible refine blk_alloc ?_ _ | with_reducible refine blk_drew ?_ | with_reducible apply blk_two | (with_reducible refine blk_other ?_ (by first | omega | (simp; done) | (simp; omega))) | (refine blk_call ?_ (by with_reducible assumption)))))
      · (focus (repeat (first | with_reducible assumption | with_reducible refine oa_alloc ?_ _ | with_reducible refine oa_drew ?_ | ((with_reducible refine oa_set ?_ ?_); rotate_left; focus (intro g hg hl; (have q := (hq5).out g hg hl; (try simp at q); omega))) | (refine oa_call ?_ (by with_reducible assumption)))))
      · (focus (repeat (first | with_reducible assumption | with_reducible refine oa_alloc ?_ _ | with_reducible refine oa_drew ?_ | ((with_reducible refine oa_set ?_ ?_); rotate_left; focus (intro g hg hl; (have q := (hq6).out g hg hl; (try simp at q); omega))) | (refine oa_call ?_ (by with_reducible assumption)))))
  case rest =>
    clear x0 x1 y0 y1 M0 M1
    obtain ⟨i5, i6, G0, G1, d0, d1, rfl, rfl, hne, hi5, hi6, HB, HB5, HB6, HA0, HA1⟩ := hcut
    have HO := hid (own_two HO.out HB.out HB5.out HB6.out hi5 hi6 hne)
    clear HB HB5 HB6 hne hi5 hi6
    generalize wc = V at *
    have HZ := hid (show ∀ x ∈ ([⟨i6, #[.int .i64 op1, .slice G1 l1.length d1], 24⟩, ⟨i5, #[.int .i64 op0, .slice G0 l0.length d0], 24⟩, ⟨w.heap.size + 1, #[.int .i64 op1, .slice A1 l1.length c1], 24⟩, ⟨w.heap.size, #[.int .i64 op0, .slice A0 l0.length c0], 24⟩] : List Blk), x.b < V.heap.size from fun x hx => HO.out.lt hx)
    have HW := hid HO.out.below.size
    have HG0 := hid (fun g hA hl => (oa_lt HA0.out g hA hl).2)
    have HG1 := hid (fun g hA hl => (oa_lt HA1.out g hA hl).2)
    have x6 := HO.out.c
    have x5 := HO.out.tl.c
    have x1 := HO.out.tl.tl.c
    have x0 := HO.out.tl.tl.tl.c
    have y6 := HO.out.z
    have y5 := HO.out.tl.z
    have y1 := HO.out.tl.tl.z
    have y0 := HO.out.tl.tl.tl.z
    go_wp2_with fail
    refine (inst_canon_any h0 F0.out _ HA0.out.args).mono ?_
    rw [HO1.out, HL1.out, HE1.out]
    rintro e w1 ⟨X1, xc, rfl, hb1, hX1⟩
    have HXL := hid (oa_lt hX1)
    have HV1 := hid hb1.size
    have HO := hid ((HO.out.call hb1).alloc w1.heap.size #[.int .i64 o1, .slice X1 L1.length xc] 24 rfl)
    have HX := hid (hX1.below ((Below.refl _ _).alloc (Nat.le_refl _) (.cells #[.int .i64 o1, .slice X1 L1.length xc] 24)))
    have HA0 := hid ((HA0.out.below hb1).below ((Below.refl _ _).alloc (Nat.le_refl _) (.cells #[.int .i64 o1, .slice X1 L1.length xc] 24)))
    have HA1 := hid ((HA1.out.below hb1).below ((Below.refl _ _).alloc (Nat.le_refl _) (.cells #[.int .i64 o1, .slice X1 L1.length xc] 24)))
    clear hb1 hX1
    clear x5 x6 x0 x1 y5 y6 y0 y1
    have x0 := HO.out.tl.tl.tl.tl.c
    have y0 := HO.out.tl.tl.tl.tl.z
    go_wp2_with fail
    refine (rinst_canon_any h0 F0.out _ (N0.out.call HO.out.below)).mono ?_
    rw [HO1.out, HL1.out, HE1.out]
    rintro e w2 ⟨Y1, yc, rfl, hb2, hY1⟩
    have HO := hid ((HO.out.call hb2).alloc w2.heap.size #[.int .i64 o1, .slice Y1 L1.length yc] 24 rfl)
    have HX := hid ((HX.out.below hb2).below ((Below.refl _ _).alloc (Nat.le_refl _) (.cells #[.int .i64 o1, .slice Y1 L1.length yc] 24)))
    have HY := hid (hY1.below ((Below.refl _ _).alloc (Nat.le_refl _) (.cells #[.int .i64 o1, .slice Y1 L1.length yc] 24)))
    have HA0 := hid ((HA0.out.below hb2).below ((Below.refl _ _).alloc (Nat.le_refl _) (.cells #[.int .i64 o1, .slice Y1 L1.length yc] 24)))
    have HA1 := hid ((HA1.out.below hb2).below ((Below.refl _ _).alloc (Nat.le_refl _) (.cells #[.int .i64 o1, .slice Y1 L1.length yc] 24)))
    clear hb2 hY1 x0 y0
    have x5 := HO.out.tl.tl.tl.c
    have y5 := HO.out.tl.tl.tl.z
    go_wp2_with fail
    refine (bits_of HBI.out F0.out _ HA0.out.args).mono ?_
    rintro e w3 ⟨rfl, hb3⟩
    have HO := hid (HO.out.call hb3)
    have HX := hid (HX.out.below hb3)
    have HY := hid (HY.out.below hb3)
    have HA0 := hid (HA0.out.below hb3)
    have HA1 := hid (HA1.out.below hb3)
    clear hb3 x5 y5
    have x0 := HO.out.tl.tl.tl.tl.tl.c
    have y0 := HO.out.tl.tl.tl.tl.tl.z
    go_wp2_with fail
    refine (rbits_of HBI.out _ (N0.out.call HO.out.below)).mono ?_
    rintro e w4 ⟨rfl, hb4⟩
    have HO := hid (HO.out.call hb4)
    have HX := hid (HX.out.below hb4)
    have HY := hid (HY.out.below hb4)
    have HA0 := hid (HA0.out.below hb4)
    have HA1 := hid (HA1.out.below hb4)
    clear hb4 x0 y0
    have x9 := HO.out.c
    have x7 := HO.out.tl.c
    have x6 := HO.out.tl.tl.c
    have x5 := HO.out.tl.tl.tl.c
    have x1 := HO.out.tl.tl.tl.tl.c
    have x0 := HO.out.tl.tl.tl.tl.tl.c
    have y9 := HO.out.z
    have y7 := HO.out.tl.z
    have y6 := HO.out.tl.tl.z
    have y5 := HO.out.tl.tl.tl.z
    have y1 := HO.out.tl.tl.tl.tl.z
    have y0 := HO.out.tl.tl.tl.tl.tl.z

    go_upto_region 8 with fail
    have HN0 := hid (N0.out.call HO.out.below)
    have HN1 := hid (N1.out.call HO.out.below)
    have HS := Old.refl w4
    go_region_held3 (fun w' => Below w4.heap.size w4 w' ∧ ∀ b o, b < w4.heap.size → w'.cell? ⟨b, o, none⟩ = w4.cell? ⟨b, o, none⟩) (first | assumption | exact old_drew HS | exact old_drew ‹_› | (refine old_kept ?_ (by assumption); assumption)) (first
      | (go_at_call 12; with_reducible refine (check_at (op := op0) (l := l0) HE1.out rfl h0 F0.out _ ?_).mono ?_; (focus exact HA0.out.args.call (by apply And.left; first | assumption | exact HS | exact old_drew HS | exact old_drew ‹_›)); rintro e w9 ⟨rfl, hbel⟩)
      | (go_at_call 13; with_reducible refine (rcheck_at (op := op0) (l := l0) HE1.out rfl h0 F0.out _ ?_).mono ?_; (focus exact HN0.out.call (by apply And.left; first | assumption | exact HS | exact old_drew HS | exact old_drew ‹_›)); rintro e w9 ⟨rfl, hbel⟩)
      | (go_at_call 14; with_reducible refine (sameInst_of (op := o1) (op' := o1) (l := L1) (r := L1) (eqI_refl o1 L1) rfl rfl (by omega) _ ?_ ?_).mono ?_; (focus exact HX.out.args.call (by apply And.left; first | assumption | exact HS | exact old_drew HS | exact old_drew ‹_›)); (focus exact HY.out.args.call (by apply And.left; first | assumption | exact HS | exact old_drew HS | exact old_drew ‹_›)); rintro e w9 ⟨rfl, hbel⟩)
      | (go_at_call 15; with_reducible refine (same_at (op := op0) (op' := op1) (l := l0) (l' := l1) HSV.out rfl rfl h0 h1 F0.out F1.out _ ?_ ?_).mono ?_; (focus exact HA0.out.args.call (by apply And.left; first | assumption | exact HS | exact old_drew HS | exact old_drew ‹_›)); (focus exact HA1.out.args.call (by apply And.left; first | assumption | exact HS | exact old_drew HS | exact old_drew ‹_›)); rintro e w9 ⟨rfl, hbel⟩)
      | (go_at_call 16; with_reducible refine (rsame_at (op := op0) (op' := op1) (l := l0) (l' := l1) HSV.out rfl rfl h0 h1 F0.out F1.out _ ?_ ?_).mono ?_; (focus exact HN0.out.call (by apply And.left; first | assumption | exact HS | exact old_drew HS | exact old_drew ‹_›)); (focus exact HN1.out.call (by apply And.left; first | assumption | exact HS | exact old_drew HS | exact old_drew ‹_›)); rintro e w9 ⟨rfl, hbel⟩))
    have hk : Below w4.heap.size w4 w9 := by apply And.left; assumption
    have HO := hid (HO.out.call hk)
    have HX := hid (HX.out.below hk)
    have HA0 := hid (HA0.out.below hk)
    have HA1 := hid (HA1.out.below hk)
    clear hk x5 x6 x0 x1 x7 x9 y5 y6 y0 y1 y7 y9 HS HY HN0 HN1
    have x7 := HO.out.tl.c
    have y7 := HO.out.tl.z
    have HVW := hid (Nat.le_trans HV1.out (Nat.le_of_lt y7))
    go_wp2_with fail
    refine (over_all (op := o1) (c := xc) (show L1.length ≤ 9 by omega) _ HX.out).mono ?_
    rintro e w10 ⟨row, rfl, hgr, hrow⟩
    have hr := row_in hrow HXL.out
    have HO := hid (own_past HO.out.tl.tl hgr HZ.out HW.out (fun k hk => (hr k hk).1))
    have HA0 := hid (oa_past HA0.out hgr HG0.out (fun k hk => (hr k hk).1))
    have HA1 := hid (oa_past HA1.out hgr HG1.out (fun k hk => (hr k hk).1))
    have HVZ := hid (show V.heap.size ≤ w10.heap.size from Nat.le_trans (HVW.out) hgr.size)
    clear hgr hrow hr HX HXL x7 y7 HVW HV1
    have x6 := HO.out.c
    have x5 := HO.out.tl.c
    have x1 := HO.out.tl.tl.c
    have x0 := HO.out.tl.tl.tl.c
    have y6 := HO.out.z
    have y5 := HO.out.tl.z
    have y1 := HO.out.tl.tl.z
    have y0 := HO.out.tl.tl.tl.z
    by_cases hE : e1 = 0
    · have HEE := hid (HE1.out.trans hE)
      have hq1 := HO1.out
      have hq2 := HL1.out
      unfold canonOp at hq1
      unfold canonL at hq2
      rw [if_pos HEE.out] at hq1 hq2
      have HIC := hid hq2
      clear hq1 hq2 hE
      obtain ⟨sv2, hsv⟩ : ∃ s, spF op0 L1 = s := ⟨_, rfl⟩
      rcases sv2 with _ | _
      · have HSP := hid hsv
        clear hsv
        have HN0 := hid (N0.out.call HO.out.below)
        go_upto_region 10 with fail
        have HS := Old.refl w10
        go_region_held3 (fun w' => Below w10.heap.size w10 w' ∧ ∀ b o, b < w10.heap.size → w'.cell? ⟨b, o, none⟩ = w10.cell? ⟨b, o, none⟩) (first | assumption | exact old_drew HS | exact old_drew ‹_› | (refine old_kept ?_ (by assumption); assumption)) (first | (go_at_call 18; with_reducible refine (itat_one (op := op0) (l := l0) (L := L1) rfl h0 F0.out HEE.out HIC.out HSP.out _ ?_).mono ?_; (focus exact HA0.out.args.call (by apply And.left; first | assumption | exact HS | exact old_drew HS | exact old_drew ‹_›)); rintro e w11 ⟨sb, cap, P, p, rfl, hbi, hsp⟩) | (go_at_call 19; with_reducible refine (rtat_one (op := op0) (l := l0) (L := L1) rfl h0 F0.out HEE.out HIC.out HSP.out _ ?_).mono ?_; (focus exact HN0.out.call (by apply And.left; first | assumption | exact HS | exact old_drew HS | exact old_drew ‹_›)); rintro e w12 ⟨sr, rap, R, r, rfl, hbr, hsr⟩))
        have hk : Below w10.heap.size w10 w12 := by apply And.left; assumption
        have HO := hid (HO.out.call hk)
        have HA0 := hid (HA0.out.below hk)
        have HA1 := hid (HA1.out.below hk)
        clear hk HN0 HS
        clear x5 x6 x0 x1 y5 y6 y0 y1
        have x6 := HO.out.c
        have x5 := HO.out.tl.c
        have x1 := HO.out.tl.tl.c
        have x0 := HO.out.tl.tl.tl.c
        have y6 := HO.out.z
        have y5 := HO.out.tl.z
        have y1 := HO.out.tl.tl.z
        have y0 := HO.out.tl.tl.tl.z


        have HPL := hid (oa_lt hsp.2.2.2.2)
        have HP := hid (At.call hsp hbr)
        have HR := hid hsr
        clear hbi hbr hsp hsr
        go_wp2_with fail
        go_loopw [18] (fun i wr => (i = .int .i64 0 ∧ wr = w12) ∨ (i = .int .i64 1 ∧ Hid (Own w [⟨i6, #[.int .i64 op1, .slice G1 l1.length d1], 24⟩, ⟨i5, #[.int .i64 op0, .slice G0 l0.length d0], 24⟩, ⟨w.heap.size + 1, #[.int .i64 op1, .slice A1 l1.length c1], 24⟩, ⟨w.heap.size, #[.int .i64 op0, .slice A0 l0.length c0], 24⟩] wr) ∧ Hid (OwnA W.heap.size wr G0 l0) ∧ Hid (OwnA W.heap.size wr G1 l1))) (fun i _ => 1 - (intOf i).toNat)
        case atStart => exact .inl ⟨rfl, rfl⟩
        case round =>
          rcases hrel with ⟨rfl, rfl⟩ | ⟨rfl, KO, KA0, KA1⟩
          ·
            have q0 := HP.out.2.2.1
            have q1 := HP.out.2.2.2.1
            have q2 := HP.out.2.1
            have r0 := HR.out.2.2.1
            have r1 := HR.out.2.2.2.1
            have r2 := HR.out.2.1
            go_upto_region 16 with fail
            have HS := Old.refl wr
            go_region_held3 (fun w' => Below wr.heap.size wr w' ∧ ∀ b o, b < wr.heap.size → w'.cell? ⟨b, o, none⟩ = wr.cell? ⟨b, o, none⟩) (first | assumption | exact old_drew HS | exact old_drew ‹_› | (refine old_kept ?_ (by assumption); assumption)) (first | (go_at_call 14; (with_reducible refine (sameInst_of (op := op0) (op' := op0) (l := L1) (r := L1) (eqI_refl op0 L1) rfl rfl (by omega) _ ?_ ?_).mono ?_); (focus exact HP.out.2.2.2.2.args.call (by apply And.left; first | assumption | exact HS | exact old_drew HS | exact old_drew ‹_›)); (focus exact HR.out.2.2.2.2.args.call (by apply And.left; first | assumption | exact HS | exact old_drew HS | exact old_drew ‹_›)); rintro e w13 ⟨rfl, hbel⟩))
            have hk : Below wr.heap.size wr w13 := by apply And.left; assumption
            have HO := hid (HO.out.call hk)
            have HA0 := hid (HA0.out.below hk)
            have HA1 := hid (HA1.out.below hk)
            have HP := hid (HP.out.call hk)
            clear hk q0 q1 q2 r0 r1 r2 HS
            have q0 := HP.out.2.2.1
            have q1 := HP.out.2.2.2.1
            have q2 := HP.out.2.1
            go_wp2_with fail
            refine (over_all (op := op0) (c := p) (show L1.length ≤ 9 by omega) _ HP.out.2.2.2.2).mono ?_
            rintro e w14 ⟨row, rfl, hgr, hrow⟩
            have hr := row_in hrow HPL.out
            have hv := HVZ.out
            have HO := hid (own_past HO.out hgr HZ.out HW.out (fun k hk => Nat.le_trans hv (hr k hk).1))
            have HA0 := hid (oa_past HA0.out hgr HG0.out (fun k hk => Nat.le_trans hv (hr k hk).1))
            have HA1 := hid (oa_past HA1.out hgr HG1.out (fun k hk => Nat.le_trans hv (hr k hk).1))
            clear hgr hrow hr hv HP HR q0 q1 q2
            go_wp2_with fail
            go_roundw
            case rel => exact .inr ⟨rfl, hid HO.out, hid HA0.out, hid HA1.out⟩
            case measure => simp [intOf]
          · clear HO HA0 HA1 HP HR
            have HO := KO
            have HA0 := KA0
            have HA1 := KA1
            clear KO KA0 KA1
            clear x5 x6 x0 x1 y5 y6 y0 y1
            have x6 := HO.out.c
            have x5 := HO.out.tl.c
            have x1 := HO.out.tl.tl.c
            have x0 := HO.out.tl.tl.tl.c
            have y6 := HO.out.z
            have y5 := HO.out.tl.z
            have y1 := HO.out.tl.tl.z
            have y0 := HO.out.tl.tl.tl.z

            go_wp2_with fail
            refine (sameInst_of (op := op0) (op' := op0) (l := l0) (r := l0) (eqI_refl op0 l0) rfl rfl h0 _ HA0.out.args (N0.out.call HO.out.below)).mono ?_
            rintro e v1 ⟨rfl, hb⟩
            have HO := hid (HO.out.call hb)
            have HA1 := hid (HA1.out.below hb)
            clear hb HA0
            clear x5 x6 x0 x1 y5 y6 y0 y1
            have x6 := HO.out.c
            have x5 := HO.out.tl.c
            have x1 := HO.out.tl.tl.c
            have x0 := HO.out.tl.tl.tl.c
            have y6 := HO.out.z
            have y5 := HO.out.tl.z
            have y1 := HO.out.tl.tl.z
            have y0 := HO.out.tl.tl.tl.z

            go_wp2_with fail
            refine (sameInst_of (op := op1) (op' := op1) (l := l1) (r := l1) (eqI_refl op1 l1) rfl rfl h1 _ HA1.out.args (N1.out.call HO.out.below)).mono ?_
            rintro e v2 ⟨rfl, hb⟩
            have HO := hid (HO.out.call hb)
            clear hb
            go_wp2_with fail
            refine (lawake_any _).mono ?_
            rintro e v3 ⟨rfl, hb⟩
            have HO := hid (HO.out.call hb)
            clear hb
            go_wp2_with fail
            go_ret
            exact ⟨rfl, HO.out.below⟩
      · have HSP := hid hsv
        have HML := hid (show (swF L1).length ≤ 9 by rw [swF_length]; omega)
        clear hsv
        have HN0 := hid (N0.out.call HO.out.below)
        go_upto_region 10 with fail
        have HS := Old.refl w10
        go_region_held3 (fun w' => Below w10.heap.size w10 w' ∧ ∀ b o, b < w10.heap.size → w'.cell? ⟨b, o, none⟩ = w10.cell? ⟨b, o, none⟩) (first | assumption | exact old_drew HS | exact old_drew ‹_› | (refine old_kept ?_ (by assumption); assumption)) (first | (go_at_call 18; with_reducible refine (itat_two (op := op0) (l := l0) (L := L1) rfl h0 F0.out HEE.out HIC.out HSP.out _ ?_).mono ?_; (focus exact HA0.out.args.call (by apply And.left; first | assumption | exact HS | exact old_drew HS | exact old_drew ‹_›)); rintro e w11 ⟨sb, cap, P, p, Q, q, rfl, hbi, hsp, hsq, HAP⟩) | (go_at_call 19; with_reducible refine (rtat_two (op := op0) (l := l0) (L := L1) rfl h0 F0.out HEE.out HIC.out HSP.out _ ?_).mono ?_; (focus exact HN0.out.call (by apply And.left; first | assumption | exact HS | exact old_drew HS | exact old_drew ‹_›)); rintro e w12 ⟨sr, rap, R, r, U, u, rfl, hbr, hsr, hsu⟩))
        have hk : Below w10.heap.size w10 w12 := by apply And.left; assumption
        have HO := hid (HO.out.call hk)
        have HA0 := hid (HA0.out.below hk)
        have HA1 := hid (HA1.out.below hk)
        clear hk HN0 HS
        clear x5 x6 x0 x1 y5 y6 y0 y1
        have x6 := HO.out.c
        have x5 := HO.out.tl.c
        have x1 := HO.out.tl.tl.c
        have x0 := HO.out.tl.tl.tl.c
        have y6 := HO.out.z
        have y5 := HO.out.tl.z
        have y1 := HO.out.tl.tl.z
        have y0 := HO.out.tl.tl.tl.z


        have HPL := hid (oa_lt hsp.2.2.2.2)
        have HQL := hid (oa_lt hsq.2.2.2.2)
        have HP := hid (At.call hsp hbr)
        have HQ := hid (At.call hsq hbr)
        have HR := hid hsr
        have HU := hid hsu
        obtain ⟨M1, hM1⟩ : ∃ M1, swF L1 = M1 := ⟨_, rfl⟩
        have hm : M1.length ≤ 9 := by rw [← hM1]; exact HML.out
        rw [hM1] at HQ HU HQL
        clear hbi hbr hsp hsr hsq hsu hM1
        go_wp2_with fail
        go_loopw [18] (fun i wr => (i = .int .i64 0 ∧ wr = w12) ∨ (i = .int .i64 1 ∧ Hid (Own w [⟨i6, #[.int .i64 op1, .slice G1 l1.length d1], 24⟩, ⟨i5, #[.int .i64 op0, .slice G0 l0.length d0], 24⟩, ⟨w.heap.size + 1, #[.int .i64 op1, .slice A1 l1.length c1], 24⟩, ⟨w.heap.size, #[.int .i64 op0, .slice A0 l0.length c0], 24⟩] wr) ∧ Hid (OwnA W.heap.size wr G0 l0) ∧ Hid (OwnA W.heap.size wr G1 l1) ∧ Hid (At w10.heap.size wr sb 2 3 op0 Q q M1) ∧ Hid (At w11.heap.size wr sr 2 3 op0 U u M1)) ∨ (i = .int .i64 2 ∧ Hid (Own w [⟨i6, #[.int .i64 op1, .slice G1 l1.length d1], 24⟩, ⟨i5, #[.int .i64 op0, .slice G0 l0.length d0], 24⟩, ⟨w.heap.size + 1, #[.int .i64 op1, .slice A1 l1.length c1], 24⟩, ⟨w.heap.size, #[.int .i64 op0, .slice A0 l0.length c0], 24⟩] wr) ∧ Hid (OwnA W.heap.size wr G0 l0) ∧ Hid (OwnA W.heap.size wr G1 l1))) (fun i _ => 2 - (intOf i).toNat)
        case atStart => exact .inl ⟨rfl, rfl⟩
        case round =>
          rcases hrel with ⟨rfl, rfl⟩ | ⟨rfl, KO, KA0, KA1, KQ, KU⟩ | ⟨rfl, KO, KA0, KA1⟩
          ·
            have q0 := HP.out.2.2.1
            have q1 := HP.out.2.2.2.1
            have q2 := HP.out.2.1
            have r0 := HR.out.2.2.1
            have r1 := HR.out.2.2.2.1
            have r2 := HR.out.2.1
            go_upto_region 16 with fail
            have HS := Old.refl wr
            go_region_held3 (fun w' => Below wr.heap.size wr w' ∧ ∀ b o, b < wr.heap.size → w'.cell? ⟨b, o, none⟩ = wr.cell? ⟨b, o, none⟩) (first | assumption | exact old_drew HS | exact old_drew ‹_› | (refine old_kept ?_ (by assumption); assumption)) (first | (go_at_call 14; (with_reducible refine (sameInst_of (op := op0) (op' := op0) (l := L1) (r := L1) (eqI_refl op0 L1) rfl rfl (by omega) _ ?_ ?_).mono ?_); (focus exact HP.out.2.2.2.2.args.call (by apply And.left; first | assumption | exact HS | exact old_drew HS | exact old_drew ‹_›)); (focus exact HR.out.2.2.2.2.args.call (by apply And.left; first | assumption | exact HS | exact old_drew HS | exact old_drew ‹_›)); rintro e w13 ⟨rfl, hbel⟩))
            have hk : Below wr.heap.size wr w13 := by apply And.left; assumption
            have HO := hid (HO.out.call hk)
            have HA0 := hid (HA0.out.below hk)
            have HA1 := hid (HA1.out.below hk)
            have HP := hid (HP.out.call hk)
            have HQ := hid (HQ.out.call hk)
            have HU := hid (HU.out.call hk)
            clear hk q0 q1 q2 r0 r1 r2 HS
            have q0 := HP.out.2.2.1
            have q1 := HP.out.2.2.2.1
            have q2 := HP.out.2.1
            go_wp2_with fail
            refine (over_all (op := op0) (c := p) (show L1.length ≤ 9 by omega) _ HP.out.2.2.2.2).mono ?_
            rintro e w14 ⟨row, rfl, hgr, hrow⟩
            have hr := row_in hrow HPL.out
            have hv := HVZ.out
            have HO := hid (own_past HO.out hgr HZ.out HW.out (fun k hk => Nat.le_trans hv (hr k hk).1))
            have HA0 := hid (oa_past HA0.out hgr HG0.out (fun k hk => Nat.le_trans hv (hr k hk).1))
            have HA1 := hid (oa_past HA1.out hgr HG1.out (fun k hk => Nat.le_trans hv (hr k hk).1))
            have HQ := hid (HQ.out.grown hgr (fun e => (HAP.out.1 sb (hrow sb e.symm).1) rfl) (fun g hA hl e => (HAP.out.2 g (hrow g e.symm).1 g hA) rfl))
            have HU := hid (at_past HU.out hgr (fun k hk => (hr k hk).2))
            clear hgr hrow hr hv HP HR q0 q1 q2
            go_wp2_with fail
            go_roundw
            case rel => exact .inr (.inl ⟨rfl, hid HO.out, hid HA0.out, hid HA1.out, hid HQ.out, hid HU.out⟩)
            case measure => simp [intOf]
          · clear HO HA0 HA1 HP HR HQ HU
            have HO := KO
            have HA0 := KA0
            have HA1 := KA1
            have HP := KQ
            have HR := KU
            clear KO KA0 KA1 KQ KU
            clear x5 x6 x0 x1 y5 y6 y0 y1
            have x6 := HO.out.c
            have x5 := HO.out.tl.c
            have x1 := HO.out.tl.tl.c
            have x0 := HO.out.tl.tl.tl.c
            have y6 := HO.out.z
            have y5 := HO.out.tl.z
            have y1 := HO.out.tl.tl.z
            have y0 := HO.out.tl.tl.tl.z

            have q0 := HP.out.2.2.1
            have q1 := HP.out.2.2.2.1
            have q2 := HP.out.2.1
            have r0 := HR.out.2.2.1
            have r1 := HR.out.2.2.2.1
            have r2 := HR.out.2.1
            go_upto_region 16 with fail
            have HS := Old.refl wr
            go_region_held3 (fun w' => Below wr.heap.size wr w' ∧ ∀ b o, b < wr.heap.size → w'.cell? ⟨b, o, none⟩ = wr.cell? ⟨b, o, none⟩) (first | assumption | exact old_drew HS | exact old_drew ‹_› | (refine old_kept ?_ (by assumption); assumption)) (first | (go_at_call 14; (with_reducible refine (sameInst_of (op := op0) (op' := op0) (l := M1) (r := M1) (eqI_refl op0 M1) rfl rfl (by omega) _ ?_ ?_).mono ?_); (focus exact HP.out.2.2.2.2.args.call (by apply And.left; first | assumption | exact HS | exact old_drew HS | exact old_drew ‹_›)); (focus exact HR.out.2.2.2.2.args.call (by apply And.left; first | assumption | exact HS | exact old_drew HS | exact old_drew ‹_›)); rintro e w13 ⟨rfl, hbel⟩))
            have hk : Below wr.heap.size wr w13 := by apply And.left; assumption
            have HO := hid (HO.out.call hk)
            have HA0 := hid (HA0.out.below hk)
            have HA1 := hid (HA1.out.below hk)
            have HP := hid (HP.out.call hk)
            clear hk q0 q1 q2 r0 r1 r2 HS
            have q0 := HP.out.2.2.1
            have q1 := HP.out.2.2.2.1
            have q2 := HP.out.2.1
            go_wp2_with fail
            refine (over_all (op := op0) (c := q) (show M1.length ≤ 9 by omega) _ HP.out.2.2.2.2).mono ?_
            rintro e w14 ⟨row, rfl, hgr, hrow⟩
            have hr := row_in hrow HQL.out
            have hv := HVZ.out
            have HO := hid (own_past HO.out hgr HZ.out HW.out (fun k hk => Nat.le_trans hv (hr k hk).1))
            have HA0 := hid (oa_past HA0.out hgr HG0.out (fun k hk => Nat.le_trans hv (hr k hk).1))
            have HA1 := hid (oa_past HA1.out hgr HG1.out (fun k hk => Nat.le_trans hv (hr k hk).1))
            clear hgr hrow hr hv HP HR q0 q1 q2
            go_wp2_with fail
            go_roundw
            case rel => exact .inr (.inr ⟨rfl, hid HO.out, hid HA0.out, hid HA1.out⟩)
            case measure => simp [intOf]
          · clear HO HA0 HA1 HP HR HQ HU
            have HO := KO
            have HA0 := KA0
            have HA1 := KA1
            clear KO KA0 KA1
            clear x5 x6 x0 x1 y5 y6 y0 y1
            have x6 := HO.out.c
            have x5 := HO.out.tl.c
            have x1 := HO.out.tl.tl.c
            have x0 := HO.out.tl.tl.tl.c
            have y6 := HO.out.z
            have y5 := HO.out.tl.z
            have y1 := HO.out.tl.tl.z
            have y0 := HO.out.tl.tl.tl.z

            go_wp2_with fail
            refine (sameInst_of (op := op0) (op' := op0) (l := l0) (r := l0) (eqI_refl op0 l0) rfl rfl h0 _ HA0.out.args (N0.out.call HO.out.below)).mono ?_
            rintro e v1 ⟨rfl, hb⟩
            have HO := hid (HO.out.call hb)
            have HA1 := hid (HA1.out.below hb)
            clear hb HA0
            clear x5 x6 x0 x1 y5 y6 y0 y1
            have x6 := HO.out.c
            have x5 := HO.out.tl.c
            have x1 := HO.out.tl.tl.c
            have x0 := HO.out.tl.tl.tl.c
            have y6 := HO.out.z
            have y5 := HO.out.tl.z
            have y1 := HO.out.tl.tl.z
            have y0 := HO.out.tl.tl.tl.z

            go_wp2_with fail
            refine (sameInst_of (op := op1) (op' := op1) (l := l1) (r := l1) (eqI_refl op1 l1) rfl rfl h1 _ HA1.out.args (N1.out.call HO.out.below)).mono ?_
            rintro e v2 ⟨rfl, hb⟩
            have HO := hid (HO.out.call hb)
            clear hb
            go_wp2_with fail
            refine (lawake_any _).mono ?_
            rintro e v3 ⟨rfl, hb⟩
            have HO := hid (HO.out.call hb)
            clear hb
            go_wp2_with fail
            go_ret
            exact ⟨rfl, HO.out.below⟩
    · have HN := hid (show ¬ instF op0 l0 = 0 from fun h => hE (HE1.out.symm.trans h))
      clear hE
      have HN0 := hid (N0.out.call HO.out.below)
      go_upto_region 10 with fail
      have HS := Old.refl w10
      go_region_held3 (fun w' => Below w10.heap.size w10 w' ∧ ∀ b o, b < w10.heap.size → w'.cell? ⟨b, o, none⟩ = w10.cell? ⟨b, o, none⟩) (first | assumption | exact old_drew HS | exact old_drew ‹_› | (refine old_kept ?_ (by assumption); assumption)) (first | (go_at_call 18; with_reducible refine (isp_none (op := op0) (l := l0) h0 F0.out HN.out _ ?_).mono ?_; (focus exact HA0.out.args.call (by apply And.left; first | assumption | exact HS | exact old_drew HS | exact old_drew ‹_›)); rintro e w11 ⟨rfl, hbi⟩) | (go_at_call 19; with_reducible refine (rsp_none (op := op0) (l := l0) h0 F0.out HN.out _ ?_).mono ?_; (focus exact HN0.out.call (by apply And.left; first | assumption | exact HS | exact old_drew HS | exact old_drew ‹_›)); rintro e w12 ⟨rfl, hbr⟩))
      have hk : Below w10.heap.size w10 w12 := by apply And.left; assumption
      have HO := hid (HO.out.call hk)
      have HA0 := hid (HA0.out.below hk)
      have HA1 := hid (HA1.out.below hk)
      clear hk HN0 HS
      clear x5 x6 x0 x1 y5 y6 y0 y1
      have x6 := HO.out.c
      have x5 := HO.out.tl.c
      have x1 := HO.out.tl.tl.c
      have x0 := HO.out.tl.tl.tl.c
      have y6 := HO.out.z
      have y5 := HO.out.tl.z
      have y1 := HO.out.tl.tl.z
      have y0 := HO.out.tl.tl.tl.z


      clear hbi hbr
      go_wp2_with fail
      go_loopw [18] (fun i wr => i = .int .i64 0 ∧ wr = w12) (fun _ _ => 0)
      case atStart => exact ⟨rfl, rfl⟩
      case round =>
        obtain ⟨rfl, rfl⟩ := hrel
        go_wp2_with fail
        refine (sameInst_of (op := op0) (op' := op0) (l := l0) (r := l0) (eqI_refl op0 l0) rfl rfl h0 _ HA0.out.args (N0.out.call HO.out.below)).mono ?_
        rintro e v1 ⟨rfl, hb⟩
        have HO := hid (HO.out.call hb)
        have HA1 := hid (HA1.out.below hb)
        clear hb HA0
        clear x5 x6 x0 x1 y5 y6 y0 y1
        have x6 := HO.out.c
        have x5 := HO.out.tl.c
        have x1 := HO.out.tl.tl.c
        have x0 := HO.out.tl.tl.tl.c
        have y6 := HO.out.z
        have y5 := HO.out.tl.z
        have y1 := HO.out.tl.tl.z
        have y0 := HO.out.tl.tl.tl.z

        go_wp2_with fail
        refine (sameInst_of (op := op1) (op' := op1) (l := l1) (r := l1) (eqI_refl op1 l1) rfl rfl h1 _ HA1.out.args (N1.out.call HO.out.below)).mono ?_
        rintro e v2 ⟨rfl, hb⟩
        have HO := hid (HO.out.call hb)
        clear hb
        go_wp2_with fail
        refine (lawake_any _).mono ?_
        rintro e v3 ⟨rfl, hb⟩
        have HO := hid (HO.out.call hb)
        clear hb
        go_wp2_with fail
        go_ret
        exact ⟨rfl, HO.out.below⟩
theorem itells_law (op0 : Int) (A0 : Option Addr) (c0 : Nat) (l0 : List Ar) (op1 : Int) (A1 : Option Addr) (c1 : Nat) (l1 : List Ar) (w : World) (m0 : Args w w.heap.size A0 l0) (f0 : Fine l0) (u0 : l0.length ≤ c0) (b0 : c0 ≤ 9223372036854775807) (m1 : Args w w.heap.size A1 l1) (f1 : Fine l1) (u1 : l1.length ≤ c1) (b1 : c1 ≤ 9223372036854775807) :
    Calls Try.prog 3 #[.agg #[.int .i64 op0, .slice A0 l0.length c0], .agg #[.int .i64 op1, .slice A1 l1.length c1]] w fun e w' => e = .returned (.bool true) ∧ Below w.heap.size w w' := by
  by_cases h0 : l0.length ≤ 9
  · by_cases h1 : l1.length ≤ 9
    · exact itells_short op0 A0 c0 l0 op1 A1 c1 l1 w m0 f0 u0 b0 m1 f1 u1 b1 h0 h1
    · exact itells_long1 op0 A0 c0 l0 op1 A1 c1 l1 w m0 f0 u0 b0 m1 f1 u1 b1 h0 (by omega)
  · exact itells_long0 op0 A0 c0 l0 op1 A1 c1 l1 w m0 f0 u0 b0 m1 f1 u1 b1 (by omega)
end Go.Proofs.Ytmlmdbholakioaa
