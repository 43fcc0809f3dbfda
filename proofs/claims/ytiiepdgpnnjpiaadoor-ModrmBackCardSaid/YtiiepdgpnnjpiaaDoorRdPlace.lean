/-
  The program's reader: the displacement of a place.
-/
import Derived.Test.YtiiepdgpnnjpiaaDoorRdRegs
import Derived.Test.YtiiepdgpnnjpiaaDoorArgs
namespace Go.Proofs.YtiiepdgpnnjpiaaDoor
open Go.RowKit
set_option maxRecDepth 100000

theorem turn_cells {A w1 : World} {g : Nat} (hb : A.grownBy w1 (some g)) (h : Nat) (hh : h < A.heap.size) (hne : h ≠ g) :
    (∀ j, w1.cell? ⟨h, j, none⟩ = A.cell? ⟨h, j, none⟩) ∧ (∀ j, w1.frozen? ⟨h, j, none⟩ = A.frozen? ⟨h, j, none⟩) ∧ h < w1.heap.size := by
  have e := hb.block h hh (by simpa using hne)
  refine ⟨fun j => World.cell?_of_block (a := ⟨h, j, none⟩) e, fun j => ?_, by have := hb.size; omega⟩
  simp [World.frozen?, e]
theorem Own.turn2 {w wx wy : World} {l : List Blk} {g : Nat} {n : Nat} (h : Own w l wx) (hg : wx.grownBy wy (some g)) (hn : w.heap.size = n) (hlt : g < n) : ∃ u : World, w.grownBy u (some g) ∧ u.heap.size = n ∧ Own u l wy := by
  subst hn
  exact h.turn hg hlt
theorem RegsAns.parts {er p0 p1 p2 p3 p4 p5 p6 : Int} {n g : Nat} {bs : List Int} {sz a : Nat} {w w' : World} {e : Ending} (h : RegsAns (er, ⟨p0, p1, p2, p3, p4, p5, p6⟩, n) g bs sz a w e w') :
    e = .returned (.tuple #[.agg #[.int .i64 p0, .int .i64 p1, .int .i64 p2, .int .i64 p3, .int .i64 p4, .int .i64 p5, .int .i64 p6], .int .i64 er]) ∧ w.grownBy w' (some g) ∧ (er = 0 → CurAt w' g bs sz ((a + n : Nat) : Int) 0) := by
  obtain ⟨h1, h2, h3⟩ := h
  refine ⟨h1, h2, fun e0 => ?_⟩
  simp only [e0] at h3
  exact h3
theorem readN_ok {dv : Int} (g b : Nat) (bs : List Int) (sz a s : Nat) (hdv : getN (bs.take sz) a s true = dv) (hs : s = 1 ∨ s = 4) (w : World) (h1 : One b (.int .i64 s) 3 w) (hc : CurAt w g bs sz a 0) (hsz : sz ≤ 15) (ha : a + s ≤ sz) :
    Calls Tryd.prog 96 #[.pointer (some ⟨g, 0, none⟩), .pointer (some ⟨b, 0, none⟩)] w fun e w' => e = .returned (.int .i64 dv) ∧ Turned w w' g bs sz ((a + s : Nat) : Int) 0 := by
  have c0 := h1.cell
  have H := hid hc
  clear hc
  have hso : sizeOk (s : Int) = true := by rcases hs with rfl | rfl <;> rfl
  have HS := hid hso
  clear hso
  go_enter Tryd.func96, Tryd.ntmps96
  go_wp2_with fail
  refine (int_ok g bs sz a s true _ H.out hsz HS.out (by omega)).mono ?_
  rw [hdv]
  rintro e w1 ⟨rfl, h2, h3⟩
  have HT := hid (And.intro h2 h3)
  clear h2 h3
  go_wp2
  go_ret
  refine ⟨rfl, HT.out.1, ?_⟩
  have := HT.out.2
  rw [show ((a + s : Nat) : Int) = (a : Int) + s by omega]
  exact this
theorem readN_stop (g b : Nat) (bs : List Int) (sz a s : Nat) (hs : s = 1 ∨ s = 4) (w : World) (h1 : One b (.int .i64 s) 3 w) (hc : CurAt w g bs sz a 0) (hsz : sz ≤ 15) (ha : a ≤ sz) (ha2 : sz < a + s) :
    Calls Tryd.prog 96 #[.pointer (some ⟨g, 0, none⟩), .pointer (some ⟨b, 0, none⟩)] w fun e w' => e = .returned (.int .i64 0) ∧ Turned w w' g bs sz a 9 := by
  have c0 := h1.cell
  have H := hid hc
  clear hc
  have hso : sizeOk (s : Int) = true := by rcases hs with rfl | rfl <;> rfl
  have HS := hid hso
  clear hso
  go_enter Tryd.func96, Tryd.ntmps96
  go_wp2_with fail
  refine (int_stop g bs sz a s true _ H.out hsz HS.out ha (by omega)).mono ?_
  rintro e w1 ⟨rfl, h2, h3⟩
  have HT := hid (And.intro h2 h3)
  clear h2 h3
  go_wp2
  go_ret
  exact ⟨rfl, HT.out⟩
/-- A cell stays. -/
theorem box_call {w1 w2 : World} {k j : Nat} {v : Value} (h : w1.cell? ⟨k, j, none⟩ = some v) (hb : Below w1.heap.size w1 w2) : w2.cell? ⟨k, j, none⟩ = some v :=
  (hb.cell (p := ⟨k, j, none⟩) (World.block_lt_of_cell? w1 _ h)).trans h
theorem box_turn {w1 w2 : World} {k j g : Nat} {v : Value} (h : w1.cell? ⟨k, j, none⟩ = some v) (hb : w1.grownBy w2 (some g)) (hne : k ≠ g) : w2.cell? ⟨k, j, none⟩ = some v :=
  ((turn_cells hb k (World.block_lt_of_cell? w1 ⟨k, j, none⟩ h) hne).1 j).trans h
theorem box_set {w1 : World} {k j b i : Nat} {v u : Value} (h : w1.cell? ⟨k, j, none⟩ = some v) (hne : k ≠ b) : (w1.setCell ⟨b, i, none⟩ u).cell? ⟨k, j, none⟩ = some v :=
  (World.cell?_of_block (a := ⟨k, j, none⟩) (Below.heap_setCell w1 ⟨b, i, none⟩ u k hne)).trans h
/-- A region that draws its order: from here on more is held. -/
theorem wpAnyH_strong {P : Program} {md : Region.Mode} {ops : Array Oper} {Q : Exit → Act → World → Prop} {S S' : World → Prop} (hS : ∀ w, S' w → S w) : ∀ (fuel : Nat) (listed : Array Bool) (a : Act) (w : World), wpAnyH P md ops Q S' fuel listed a w → wpAnyH P md ops Q S fuel listed a w
  | 0, _, _, _, h => h
  | fuel + 1, _, _, _, h => ⟨h.1, fun i hi => wpOp_mono (fun a' w' h' => ⟨hS w' h'.1, wpAnyH_strong hS fuel _ a' w' h'.2⟩) (h.2 i hi)⟩
set_option maxHeartbeats 1000000 in
theorem place_err (g : Nat) (bs : List Int) (sz a n : Nat) (mod rm x b p0 p1 p2 p3 p4 p5 p6 er : Int) (hr : 0 ≤ rm ∧ rm ≤ 7) (hx : 0 ≤ x ∧ x ≤ 1) (hb : 0 ≤ b ∧ b ≤ 1) (HR : Hid (regsF mod rm x b ((bs.take sz).drop a) = (er, ⟨p0, p1, p2, p3, p4, p5, p6⟩, n))) (he : ¬ er = 0) (w : World) (hc : CurAt w g bs sz a 0) (hsz : sz ≤ 15) (ha : a ≤ sz) :
    Calls Tryd.prog 61 #[.agg #[.pointer (some ⟨g, 0, none⟩), .int .i64 x, .int .i64 b], .int .i64 mod, .int .i64 rm] w fun e w' => e = .returned (.tuple #[.agg #[.int .i64 0, .int .i64 0, .int .i64 0, .int .i64 0, .int .i64 0, .int .i64 0, .int .i64 0], .int .i64 er]) ∧ w.grownBy w' (some g) := by
  have HC := hid hc
  have HG := hid hc.lt
  clear hc
  have HO := hid (((Own.nil w).alloc w.heap.size #[.pointer (some ⟨g, 0, none⟩), .int .i64 x, .int .i64 b] 70 rfl).alloc (w.heap.size + 1) #[.int .i64 0, .int .i64 0, .int .i64 0, .int .i64 0, .int .i64 0, .int .i64 0, .int .i64 0] 25 (by simp))
  go_enter Tryd.func61, Tryd.ntmps61
  go_wp2_with fail
  generalize hW1 : (w.alloc (.cells #[.pointer (some ⟨g, 0, none⟩), .int .i64 x, .int .i64 b] 70)).alloc (.cells #[.int .i64 0, .int .i64 0, .int .i64 0, .int .i64 0, .int .i64 0, .int .i64 0, .int .i64 0] 25) = W1 at *
  have HC1 := hid (HC.out.below HO.out.below HG.out)
  refine (regs_any g bs sz a mod rm x b hr hx hb _ HC1.out hsz ha).mono ?_
  rw [HR.out]
  intro e wb hans
  obtain ⟨rfl, hg1, hc1⟩ := hans.parts
  clear hans
  obtain ⟨u, hu1, hu2, ho⟩ := HO.out.turn hg1 HG.out
  have HU := hid (And.intro hu1 hu2)
  have HO := hid ho
  have HC := hid hc1
  clear hg1 hc1 hu1 hu2 ho HC1 hW1
  have c0 := HO.out.tl.c
  have z0 := HO.out.tl.z
  have c1 := HO.out.c
  have z1 := HO.out.z
  have f1 := HO.out.f
  have hge : u.heap.size ≤ w.heap.size + 1 := by have := HU.out.2; omega
  have a0 := HO.out.tl.a
  have a1 := HO.out.a
  have b1 := HO.out.fa
  go_wp2_with (with_reducible change bodyPost _ _ _ Exit.ret _ _; go_loud (refine bodyPost_ret (v := .tuple #[.agg #[.int .i64 0, .int .i64 0, .int .i64 0, .int .i64 0, .int .i64 0, .int .i64 0, .int .i64 0], .int .i64 er]) (by simp [results, Tryd.results61, go_sem, *]) rfl ⟨rfl, turn_trans HU.out.1 (turn_of_below ?_ _)⟩))
  repeat first | with_reducible exact HO.out.below | with_reducible refine below_set ?_ hge _ _ | with_reducible refine below_alloc ?_ _
set_option maxHeartbeats 1000000 in
theorem place_0s (g : Nat) (bs : List Int) (sz a n : Nat) (rm x b p1 p2 p3 p4 p5 p6 y0 y1 y2 y3 y4 y5 y6 : Int) (hr : 0 ≤ rm ∧ rm ≤ 7) (hx : 0 ≤ x ∧ x ≤ 1) (hb : 0 ≤ b ∧ b ≤ 1) (HR : Hid (regsF 0 rm x b ((bs.take sz).drop a) = (0, ⟨5, p1, p2, p3, p4, p5, p6⟩, n))) (HX : Hid (outF ⟨5, p1, p2, p3, p4, 0, p6⟩ = ⟨y0, y1, y2, y3, y4, y5, y6⟩)) (HK : Hid (checkF ⟨5, p1, p2, p3, p4, 0, p6⟩ = 0)) (HS : Hid (I64 p4)) (w : World) (hc : CurAt w g bs sz a 0) (hsz : sz ≤ 15) (ha : a ≤ sz) :
    Calls Tryd.prog 61 #[.agg #[.pointer (some ⟨g, 0, none⟩), .int .i64 x, .int .i64 b], .int .i64 0, .int .i64 rm] w fun e w' => e = .returned (.tuple #[.agg #[.int .i64 y0, .int .i64 y1, .int .i64 y2, .int .i64 y3, .int .i64 y4, .int .i64 y5, .int .i64 y6], .int .i64 0]) ∧ Turned w w' g bs sz ((a + n : Nat) : Int) 0 := by
  have HC := hid hc
  have HG := hid hc.lt
  clear hc
  have HO := hid (((Own.nil w).alloc w.heap.size #[.pointer (some ⟨g, 0, none⟩), .int .i64 x, .int .i64 b] 70 rfl).alloc (w.heap.size + 1) #[.int .i64 0, .int .i64 0, .int .i64 0, .int .i64 0, .int .i64 0, .int .i64 0, .int .i64 0] 25 (by simp))
  go_enter Tryd.func61, Tryd.ntmps61
  go_wp2_with fail
  generalize hW1 : (w.alloc (.cells #[.pointer (some ⟨g, 0, none⟩), .int .i64 x, .int .i64 b] 70)).alloc (.cells #[.int .i64 0, .int .i64 0, .int .i64 0, .int .i64 0, .int .i64 0, .int .i64 0, .int .i64 0] 25) = W1 at *
  have HC1 := hid (HC.out.below HO.out.below HG.out)
  refine (regs_any g bs sz a 0 rm x b hr hx hb _ HC1.out hsz ha).mono ?_
  rw [HR.out]
  intro e wb hans
  obtain ⟨rfl, hg1, hc1⟩ := hans.parts
  clear hans
  obtain ⟨u, hu1, hu2, ho⟩ := HO.out.turn hg1 HG.out
  have HU := hid (And.intro hu1 hu2)
  have HO := hid ho
  have HC := hid hc1
  clear hg1 hc1 hu1 hu2 ho HC1 hW1
  have c0 := HO.out.tl.c
  have z0 := HO.out.tl.z
  have c1 := HO.out.c
  have z1 := HO.out.z
  have f1 := HO.out.f
  have hzb := HO.out.z
  have hn1 : ¬ wb.heap.size = w.heap.size + 1 := by omega
  have hn2 : ¬ w.heap.size + 1 = wb.heap.size := by omega
  have hn3 : ¬ w.heap.size = wb.heap.size := by omega
  have hn4 : ¬ wb.heap.size = w.heap.size := by omega
  have HC := hid (HC.out rfl)
  have hgw : w.heap.size ≠ g := by have := HG.out; omega
  have hgb : wb.heap.size ≠ g := by have := HG.out; omega
  have HM := hid (HO.out.alloc wb.heap.size #[.int .i64 5, .int .i64 p1, .int .i64 p2, .int .i64 p3, .int .i64 p4, .int .i64 p5, .int .i64 p6] 25 rfl)
  have HCM := hid (HC.out.alloc (.cells #[.int .i64 5, .int .i64 p1, .int .i64 p2, .int .i64 p3, .int .i64 p4, .int .i64 p5, .int .i64 p6] 25))
  have a0 := HO.out.tl.a
  have a1 := HO.out.a
  have b1 := HO.out.fa
  go_wp2_with fail
  have hS := show (wb.alloc (.cells #[.int .i64 5, .int .i64 p1, .int .i64 p2, .int .i64 p3, .int .i64 p4, .int .i64 p5, .int .i64 p6] 25)).drew.cell? ⟨w.heap.size, 0, none⟩ = some (.pointer (some ⟨g, 0, none⟩)) from HM.out.tl.tl.c 0
  refine wp_region_held_drew (S := (fun w' => w'.cell? ⟨w.heap.size, 0, none⟩ = some (.pointer (some ⟨g, 0, none⟩)))) (by kernel_rfl) hS (fun hHeld => ?_)
  refine wpAnyH_take (i := 1) (v := ?_) (show _ = some (Oper.mk _ _ _ _ _ _) from rfl) (by kernel_rfl) (by kernel_rfl) (by kernel_rfl) (fun _ _ _ h => h) (Or.inl ⟨by kernel_rfl, ?_⟩) (by assumption) ?_
  rotate_left
  · intro w hSw; (try dsimp only at hSw); (try obtain ⟨hSw1, hSw2⟩ := hSw); go_simp; try with_reducible rfl
  simp only [Act.put, List.setIfInBounds_toArray, List.set_cons_zero, List.set_cons_succ]
  refine wpAnyH_take (i := 5) (v := ?_) (show _ = some (Oper.mk _ _ _ _ _ _) from rfl) (by kernel_rfl) (by kernel_rfl) (by kernel_rfl) (fun _ _ _ h => h) (Or.inl ⟨by kernel_rfl, ?_⟩) (by assumption) ?_
  rotate_left
  · intro w hSw; (try dsimp only at hSw); (try obtain ⟨hSw1, hSw2⟩ := hSw); go_simp; try with_reducible rfl
  simp only [Act.put, List.setIfInBounds_toArray, List.set_cons_zero, List.set_cons_succ]
  refine wpAnyH_take (i := 6) (v := ?_) (show _ = some (Oper.mk _ _ _ _ _ _) from rfl) (by kernel_rfl) (by kernel_rfl) (by kernel_rfl) (fun _ _ _ h => h) (Or.inl ⟨by kernel_rfl, ?_⟩) (by assumption) ?_
  rotate_left
  · intro w hSw; (try dsimp only at hSw); (try obtain ⟨hSw1, hSw2⟩ := hSw); go_simp; try with_reducible rfl
  simp only [Act.put, List.setIfInBounds_toArray, List.set_cons_zero, List.set_cons_succ]
  refine wpAnyH_ready (rs := [0]) (by kernel_rfl) (by simp) ?_
  refine AllReadyH.cons (show _ = some (Oper.mk _ _ _ _ _ _) from rfl) (fun K hK => ?_) AllReadyH.nil
  go_simp
  go_at_call 71
  refine (disps_any _).mono ?_
  rintro e w3 ⟨gd, ad, bd, rfl, hbel, h3⟩
  obtain ⟨hx3, hy3, hz3⟩ := bel_cells hbel wb.heap.size (by first | assumption | (simp; done))
  have HT := hid h3
  have HC3 := hid (HCM.out.below ((Below.refl _ _).drew.trans hbel) HCM.out.lt)
  have HB3 := hid hbel
  have hk3 : w3.cell? ⟨gd, 1, none⟩ = some (.func (.func 83) #[] #[]) := cell_of_row w3 gd 1 _ _ _ h3.kg
  have hgd : gd ≠ g := by have h1 := h3.ge.1; have h2 := HCM.out.lt; simp only [World.size_drew] at h1; omega
  have hgd2 : gd ≠ wb.heap.size := by have h1 := h3.ge.1; have h2 := HM.out.z; simp only [World.size_drew] at h1; omega
  clear h3
  go_wp2_with fail
  have hS3 := box_call hHeld hbel
  refine hK.out _ _ hS3 (fun _ => ?_)
  clear hK K
  have hS2 := And.intro hS3 hk3
  refine wpAnyH_strong (S' := (fun w' => w'.cell? ⟨w.heap.size, 0, none⟩ = some (.pointer (some ⟨g, 0, none⟩)) ∧ w'.cell? ⟨gd, 1, none⟩ = some (.func (.func 83) #[] #[]))) (fun _ h => h.1) _ _ _ _ ?_
  refine wpAnyH_take (i := 2) (v := ?_) (show _ = some (Oper.mk _ _ _ _ _ _) from rfl) (by kernel_rfl) (by kernel_rfl) (by kernel_rfl) (fun _ _ _ h => h) (Or.inl ⟨by kernel_rfl, ?_⟩) (by assumption) ?_
  rotate_left
  · intro w hSw; (try dsimp only at hSw); (try obtain ⟨hSw1, hSw2⟩ := hSw); go_simp; try with_reducible rfl
  simp only [Act.put, List.setIfInBounds_toArray, List.set_cons_zero, List.set_cons_succ]
  refine wpAnyH_take (i := 3) (v := ?_) (show _ = some (Oper.mk _ _ _ _ _ _) from rfl) (by kernel_rfl) (by kernel_rfl) (by kernel_rfl) (fun _ _ _ h => h) (Or.inl ⟨by kernel_rfl, ?_⟩) (by assumption) ?_
  rotate_left
  · intro w hSw; (try dsimp only at hSw); (try obtain ⟨hSw1, hSw2⟩ := hSw); go_simp; try with_reducible rfl
  simp only [Act.put, List.setIfInBounds_toArray, List.set_cons_zero, List.set_cons_succ]
  refine wpAnyH_take (i := 4) (v := ?_) (show _ = some (Oper.mk _ _ _ _ _ _) from rfl) (by kernel_rfl) (by kernel_rfl) (by kernel_rfl) (fun _ _ _ h => h) (Or.inl ⟨by kernel_rfl, ?_⟩) (by assumption) ?_
  rotate_left
  · intro w hSw; (try dsimp only at hSw); (try obtain ⟨hSw1, hSw2⟩ := hSw); go_simp; try with_reducible rfl
  simp only [Act.put, List.setIfInBounds_toArray, List.set_cons_zero, List.set_cons_succ]
  refine wpAnyH_ready (rs := [7]) (by kernel_rfl) (by simp) ?_
  refine AllReadyH.cons (show _ = some (Oper.mk _ _ _ _ _ _) from rfl) (fun K hK => ?_) AllReadyH.nil
  go_simp
  go_at_call 83
  refine (read0_any _ _).mono ?_
  rintro e w4 ⟨rfl, rfl⟩
  go_wp2_with fail
  refine hK.out _ _ hS2 (fun _ => ?_)
  clear hK K
  refine wpAnyH_take (i := 8) (v := ?_) (show _ = some (Oper.mk _ _ _ _ _ _) from rfl) (by kernel_rfl) (by kernel_rfl) (by kernel_rfl) (fun _ _ _ h => h) (Or.inl ⟨by kernel_rfl, ?_⟩) (by assumption) ?_
  rotate_left
  · intro w hSw; (try dsimp only at hSw); (try obtain ⟨hSw1, hSw2⟩ := hSw); go_simp; try with_reducible rfl
  simp only [Act.put, List.setIfInBounds_toArray, List.set_cons_zero, List.set_cons_succ]
  refine wpAnyH_ready (rs := [9]) (by kernel_rfl) (by simp) ?_
  refine AllReadyH.cons (show _ = some (Oper.mk _ _ _ _ _ _) from rfl) (fun K hK => ?_) AllReadyH.nil
  go_simp
  refine hK.out _ _ (And.intro (box_set hS2.1 hn3) (box_set hS2.2 hgd2)) (fun _ => ?_)
  clear hK K
  refine wpAnyH_done (by kernel_rfl) ?_ _
  have HU2 := HU
  have HM := hid ((HM.out.drew.call HB3.out).set 5 (.int .i64 0))
  have HCM := hid (HC3.out.far (show g ≠ wb.heap.size from fun e => hgb e.symm) 5 (.int .i64 0))
  clear hS hHeld hS3 hS2 hbel hx3 hy3 hz3 hk3 a0 a1 b1
  generalize w3.setCell ⟨wb.heap.size, 5, none⟩ (.int .i64 0) = wm at *
  clear c0 z0 c1 z1 f1
  have c0 := HM.out.tl.tl.c
  have z0 := HM.out.tl.tl.z
  have c1 := HM.out.tl.c
  have z1 := HM.out.tl.z
  have f1 := HM.out.tl.f
  have c2 := HM.out.c
  have f2 := HM.out.f
  have z2 := HM.out.z
  go_wp2_with fail
  refine (err_any g bs sz _ _ _ HCM.out).mono ?_
  rintro e w6 ⟨rfl, rfl⟩
  go_wp2_with fail
  refine (canon_of (p := ⟨y0, y1, y2, y3, y4, y5, y6⟩) (k := 0) HX.out HK.out HS.out _).mono ?_
  rintro e w7 ⟨rfl, hb7⟩
  unfold MV
  have HM := hid (HM.out.call hb7)
  have HCM := hid (HCM.out.below hb7 HCM.out.lt)
  clear hb7 c0 z0 c1 z1 f1 c2 f2 z2
  have c0 := HM.out.tl.tl.c
  have z0 := HM.out.tl.tl.z
  have c1 := HM.out.tl.c
  have z1 := HM.out.tl.z
  have f1 := HM.out.tl.f
  have c2 := HM.out.c
  have f2 := HM.out.f
  have z2 := HM.out.z
  have hge : u.heap.size ≤ w.heap.size + 1 := by have := HU2.out.2; omega
  have hg3 : g ≠ w.heap.size + 1 := by have := HG.out; omega
  go_wp2_with (with_reducible change bodyPost _ _ _ Exit.ret _ _; go_loud (refine bodyPost_ret (v := .tuple #[.agg #[.int .i64 y0, .int .i64 y1, .int .i64 y2, .int .i64 y3, .int .i64 y4, .int .i64 y5, .int .i64 y6], .int .i64 0]) (by simp [results, Tryd.results61, go_sem, *]) rfl ⟨rfl, turned_mk (turn_trans HU2.out.1 (turn_of_below ?_ _)) ?_⟩))
  · repeat first | with_reducible exact HM.out.below | with_reducible refine below_set ?_ hge _ _
  · repeat first | with_reducible exact HCM.out | with_reducible refine CurAt.far ?_ hg3 _ _
set_option maxHeartbeats 1000000 in
theorem place_1s (g : Nat) (bs : List Int) (sz a n : Nat) (rm x b p1 p2 p3 p4 p5 p6 y0 y1 y2 y3 y4 y5 y6 dv : Int) (hr : 0 ≤ rm ∧ rm ≤ 7) (hx : 0 ≤ x ∧ x ≤ 1) (hb : 0 ≤ b ∧ b ≤ 1) (HR : Hid (regsF 1 rm x b ((bs.take sz).drop a) = (0, ⟨5, p1, p2, p3, p4, p5, p6⟩, n))) (hdv : Hid (getN (bs.take sz) ((a + n : Nat) : Int) 1 true = dv)) (hl : a + n + 1 ≤ sz) (HX : Hid (outF ⟨5, p1, p2, p3, p4, dv, p6⟩ = ⟨y0, y1, y2, y3, y4, y5, y6⟩)) (HK : Hid (checkF ⟨5, p1, p2, p3, p4, dv, p6⟩ = 0)) (HS : Hid (I64 p4)) (w : World) (hc : CurAt w g bs sz a 0) (hsz : sz ≤ 15) (ha : a ≤ sz) :
    Calls Tryd.prog 61 #[.agg #[.pointer (some ⟨g, 0, none⟩), .int .i64 x, .int .i64 b], .int .i64 1, .int .i64 rm] w fun e w' => e = .returned (.tuple #[.agg #[.int .i64 y0, .int .i64 y1, .int .i64 y2, .int .i64 y3, .int .i64 y4, .int .i64 y5, .int .i64 y6], .int .i64 0]) ∧ Turned w w' g bs sz ((a + n + 1 : Nat) : Int) 0 := by
  have HC := hid hc
  have HG := hid hc.lt
  clear hc
  have HO := hid (((Own.nil w).alloc w.heap.size #[.pointer (some ⟨g, 0, none⟩), .int .i64 x, .int .i64 b] 70 rfl).alloc (w.heap.size + 1) #[.int .i64 0, .int .i64 0, .int .i64 0, .int .i64 0, .int .i64 0, .int .i64 0, .int .i64 0] 25 (by simp))
  go_enter Tryd.func61, Tryd.ntmps61
  go_wp2_with fail
  generalize hW1 : (w.alloc (.cells #[.pointer (some ⟨g, 0, none⟩), .int .i64 x, .int .i64 b] 70)).alloc (.cells #[.int .i64 0, .int .i64 0, .int .i64 0, .int .i64 0, .int .i64 0, .int .i64 0, .int .i64 0] 25) = W1 at *
  have HC1 := hid (HC.out.below HO.out.below HG.out)
  refine (regs_any g bs sz a 1 rm x b hr hx hb _ HC1.out hsz ha).mono ?_
  rw [HR.out]
  intro e wb hans
  obtain ⟨rfl, hg1, hc1⟩ := hans.parts
  clear hans
  obtain ⟨u, hu1, hu2, ho⟩ := HO.out.turn hg1 HG.out
  have HU := hid (And.intro hu1 hu2)
  have HO := hid ho
  have HC := hid hc1
  clear hg1 hc1 hu1 hu2 ho HC1 hW1
  have c0 := HO.out.tl.c
  have z0 := HO.out.tl.z
  have c1 := HO.out.c
  have z1 := HO.out.z
  have f1 := HO.out.f
  have hzb := HO.out.z
  have hn1 : ¬ wb.heap.size = w.heap.size + 1 := by omega
  have hn2 : ¬ w.heap.size + 1 = wb.heap.size := by omega
  have hn3 : ¬ w.heap.size = wb.heap.size := by omega
  have hn4 : ¬ wb.heap.size = w.heap.size := by omega
  have HC := hid (HC.out rfl)
  have hgw : w.heap.size ≠ g := by have := HG.out; omega
  have hgb : wb.heap.size ≠ g := by have := HG.out; omega
  have HM := hid (HO.out.alloc wb.heap.size #[.int .i64 5, .int .i64 p1, .int .i64 p2, .int .i64 p3, .int .i64 p4, .int .i64 p5, .int .i64 p6] 25 rfl)
  have HCM := hid (HC.out.alloc (.cells #[.int .i64 5, .int .i64 p1, .int .i64 p2, .int .i64 p3, .int .i64 p4, .int .i64 p5, .int .i64 p6] 25))
  have a0 := HO.out.tl.a
  have a1 := HO.out.a
  have b1 := HO.out.fa
  go_wp2_with fail
  have hS := show (wb.alloc (.cells #[.int .i64 5, .int .i64 p1, .int .i64 p2, .int .i64 p3, .int .i64 p4, .int .i64 p5, .int .i64 p6] 25)).drew.cell? ⟨w.heap.size, 0, none⟩ = some (.pointer (some ⟨g, 0, none⟩)) from HM.out.tl.tl.c 0
  refine wp_region_held_drew (S := (fun w' => w'.cell? ⟨w.heap.size, 0, none⟩ = some (.pointer (some ⟨g, 0, none⟩)))) (by kernel_rfl) hS (fun hHeld => ?_)
  refine wpAnyH_take (i := 1) (v := ?_) (show _ = some (Oper.mk _ _ _ _ _ _) from rfl) (by kernel_rfl) (by kernel_rfl) (by kernel_rfl) (fun _ _ _ h => h) (Or.inl ⟨by kernel_rfl, ?_⟩) (by assumption) ?_
  rotate_left
  · intro w hSw; (try dsimp only at hSw); (try obtain ⟨hSw1, hSw2⟩ := hSw); go_simp; try with_reducible rfl
  simp only [Act.put, List.setIfInBounds_toArray, List.set_cons_zero, List.set_cons_succ]
  refine wpAnyH_take (i := 5) (v := ?_) (show _ = some (Oper.mk _ _ _ _ _ _) from rfl) (by kernel_rfl) (by kernel_rfl) (by kernel_rfl) (fun _ _ _ h => h) (Or.inl ⟨by kernel_rfl, ?_⟩) (by assumption) ?_
  rotate_left
  · intro w hSw; (try dsimp only at hSw); (try obtain ⟨hSw1, hSw2⟩ := hSw); go_simp; try with_reducible rfl
  simp only [Act.put, List.setIfInBounds_toArray, List.set_cons_zero, List.set_cons_succ]
  refine wpAnyH_take (i := 6) (v := ?_) (show _ = some (Oper.mk _ _ _ _ _ _) from rfl) (by kernel_rfl) (by kernel_rfl) (by kernel_rfl) (fun _ _ _ h => h) (Or.inl ⟨by kernel_rfl, ?_⟩) (by assumption) ?_
  rotate_left
  · intro w hSw; (try dsimp only at hSw); (try obtain ⟨hSw1, hSw2⟩ := hSw); go_simp; try with_reducible rfl
  simp only [Act.put, List.setIfInBounds_toArray, List.set_cons_zero, List.set_cons_succ]
  refine wpAnyH_ready (rs := [0]) (by kernel_rfl) (by simp) ?_
  refine AllReadyH.cons (show _ = some (Oper.mk _ _ _ _ _ _) from rfl) (fun K hK => ?_) AllReadyH.nil
  go_simp
  go_at_call 71
  refine (disps_any _).mono ?_
  rintro e w3 ⟨gd, ad, bd, rfl, hbel, h3⟩
  obtain ⟨hx3, hy3, hz3⟩ := bel_cells hbel wb.heap.size (by first | assumption | (simp; done))
  have HT := hid h3
  have HC3 := hid (HCM.out.below ((Below.refl _ _).drew.trans hbel) HCM.out.lt)
  have HB3 := hid hbel
  have hk3 : w3.cell? ⟨gd, 3, none⟩ = some (.func (.func 96) #[] #[.pointer (some ⟨ad, 0, none⟩)]) := cell_of_row w3 gd 3 _ _ _ h3.kg
  have hgd : gd ≠ g := by have h1 := h3.ge.1; have h2 := HCM.out.lt; simp only [World.size_drew] at h1; omega
  have hgd2 : gd ≠ wb.heap.size := by have h1 := h3.ge.1; have h2 := HM.out.z; simp only [World.size_drew] at h1; omega
  clear h3
  go_wp2_with fail
  have hS3 := box_call hHeld hbel
  refine hK.out _ _ hS3 (fun _ => ?_)
  clear hK K
  have hS2 := And.intro hS3 hk3
  refine wpAnyH_strong (S' := (fun w' => w'.cell? ⟨w.heap.size, 0, none⟩ = some (.pointer (some ⟨g, 0, none⟩)) ∧ w'.cell? ⟨gd, 3, none⟩ = some (.func (.func 96) #[] #[.pointer (some ⟨ad, 0, none⟩)]))) (fun _ h => h.1) _ _ _ _ ?_
  refine wpAnyH_take (i := 2) (v := ?_) (show _ = some (Oper.mk _ _ _ _ _ _) from rfl) (by kernel_rfl) (by kernel_rfl) (by kernel_rfl) (fun _ _ _ h => h) (Or.inl ⟨by kernel_rfl, ?_⟩) (by assumption) ?_
  rotate_left
  · intro w hSw; (try dsimp only at hSw); (try obtain ⟨hSw1, hSw2⟩ := hSw); go_simp; try with_reducible rfl
  simp only [Act.put, List.setIfInBounds_toArray, List.set_cons_zero, List.set_cons_succ]
  refine wpAnyH_take (i := 3) (v := ?_) (show _ = some (Oper.mk _ _ _ _ _ _) from rfl) (by kernel_rfl) (by kernel_rfl) (by kernel_rfl) (fun _ _ _ h => h) (Or.inl ⟨by kernel_rfl, ?_⟩) (by assumption) ?_
  rotate_left
  · intro w hSw; (try dsimp only at hSw); (try obtain ⟨hSw1, hSw2⟩ := hSw); go_simp; try with_reducible rfl
  simp only [Act.put, List.setIfInBounds_toArray, List.set_cons_zero, List.set_cons_succ]
  refine wpAnyH_take (i := 4) (v := ?_) (show _ = some (Oper.mk _ _ _ _ _ _) from rfl) (by kernel_rfl) (by kernel_rfl) (by kernel_rfl) (fun _ _ _ h => h) (Or.inl ⟨by kernel_rfl, ?_⟩) (by assumption) ?_
  rotate_left
  · intro w hSw; (try dsimp only at hSw); (try obtain ⟨hSw1, hSw2⟩ := hSw); go_simp; try with_reducible rfl
  simp only [Act.put, List.setIfInBounds_toArray, List.set_cons_zero, List.set_cons_succ]
  refine wpAnyH_ready (rs := [7]) (by kernel_rfl) (by simp) ?_
  refine AllReadyH.cons (show _ = some (Oper.mk _ _ _ _ _ _) from rfl) (fun K hK => ?_) AllReadyH.nil
  go_simp
  go_at_call 96
  refine (readN_ok g ad bs sz (a + n) 1 hdv.out (.inl rfl) _ HT.out.ka HC3.out hsz hl).mono ?_
  rintro e w4 ⟨rfl, hturn, hc4⟩
  obtain ⟨hx4, hy4, hz4⟩ := turn_cells hturn wb.heap.size (by first | assumption | omega) hgb
  have HC4 := hid hc4
  have HT4 := hid hturn
  clear hc4
  go_wp2_with fail
  have hS4 := And.intro (box_turn hS2.1 hturn hgw) (box_turn hS2.2 hturn hgd)
  refine hK.out _ _ hS4 (fun _ => ?_)
  clear hK K
  refine wpAnyH_take (i := 8) (v := ?_) (show _ = some (Oper.mk _ _ _ _ _ _) from rfl) (by kernel_rfl) (by kernel_rfl) (by kernel_rfl) (fun _ _ _ h => h) (Or.inl ⟨by kernel_rfl, ?_⟩) (by assumption) ?_
  rotate_left
  · intro w hSw; (try dsimp only at hSw); (try obtain ⟨hSw1, hSw2⟩ := hSw); go_simp; try with_reducible rfl
  simp only [Act.put, List.setIfInBounds_toArray, List.set_cons_zero, List.set_cons_succ]
  refine wpAnyH_ready (rs := [9]) (by kernel_rfl) (by simp) ?_
  refine AllReadyH.cons (show _ = some (Oper.mk _ _ _ _ _ _) from rfl) (fun K hK => ?_) AllReadyH.nil
  go_simp
  refine hK.out _ _ (And.intro (box_set hS4.1 hn3) (box_set hS4.2 hgd2)) (fun _ => ?_)
  clear hK K
  refine wpAnyH_done (by kernel_rfl) ?_ _
  obtain ⟨u2, hu1, hu2, ho⟩ := (HM.out.drew.call HB3.out).turn2 HT4.out HU.out.2 HG.out
  have HU2 := hid (And.intro (turn_trans HU.out.1 hu1) hu2)
  have HM := hid (ho.set 5 (.int .i64 dv))
  clear hu1 hu2 ho hturn HT4
  have HCM := hid (HC4.out.far (show g ≠ wb.heap.size from fun e => hgb e.symm) 5 (.int .i64 dv))
  clear hS hHeld hS3 hS2 hbel hx3 hy3 hz3 hk3 a0 a1 b1 hS4 hx4 hy4 hz4
  generalize w4.setCell ⟨wb.heap.size, 5, none⟩ (.int .i64 dv) = wm at *
  clear c0 z0 c1 z1 f1
  have c0 := HM.out.tl.tl.c
  have z0 := HM.out.tl.tl.z
  have c1 := HM.out.tl.c
  have z1 := HM.out.tl.z
  have f1 := HM.out.tl.f
  have c2 := HM.out.c
  have f2 := HM.out.f
  have z2 := HM.out.z
  go_wp2_with fail
  refine (err_any g bs sz _ _ _ HCM.out).mono ?_
  rintro e w6 ⟨rfl, rfl⟩
  go_wp2_with fail
  refine (canon_of (p := ⟨y0, y1, y2, y3, y4, y5, y6⟩) (k := 0) HX.out HK.out HS.out _).mono ?_
  rintro e w7 ⟨rfl, hb7⟩
  unfold MV
  have HM := hid (HM.out.call hb7)
  have HCM := hid (HCM.out.below hb7 HCM.out.lt)
  clear hb7 c0 z0 c1 z1 f1 c2 f2 z2
  have c0 := HM.out.tl.tl.c
  have z0 := HM.out.tl.tl.z
  have c1 := HM.out.tl.c
  have z1 := HM.out.tl.z
  have f1 := HM.out.tl.f
  have c2 := HM.out.c
  have f2 := HM.out.f
  have z2 := HM.out.z
  have hge : u2.heap.size ≤ w.heap.size + 1 := by have := HU2.out.2; omega
  have hg3 : g ≠ w.heap.size + 1 := by have := HG.out; omega
  go_wp2_with (with_reducible change bodyPost _ _ _ Exit.ret _ _; go_loud (refine bodyPost_ret (v := .tuple #[.agg #[.int .i64 y0, .int .i64 y1, .int .i64 y2, .int .i64 y3, .int .i64 y4, .int .i64 y5, .int .i64 y6], .int .i64 0]) (by simp [results, Tryd.results61, go_sem, *]) rfl ⟨rfl, turned_mk (turn_trans HU2.out.1 (turn_of_below ?_ _)) ?_⟩))
  · repeat first | with_reducible exact HM.out.below | with_reducible refine below_set ?_ hge _ _
  · repeat first | with_reducible exact HCM.out | with_reducible refine CurAt.far ?_ hg3 _ _
set_option maxHeartbeats 1000000 in
theorem place_1s_stop (g : Nat) (bs : List Int) (sz a n : Nat) (rm x b p1 p2 p3 p4 p5 p6 : Int) (hr : 0 ≤ rm ∧ rm ≤ 7) (hx : 0 ≤ x ∧ x ≤ 1) (hb : 0 ≤ b ∧ b ≤ 1) (HR : Hid (regsF 1 rm x b ((bs.take sz).drop a) = (0, ⟨5, p1, p2, p3, p4, p5, p6⟩, n))) (hl : a + n ≤ sz) (hl2 : sz < a + n + 1) (w : World) (hc : CurAt w g bs sz a 0) (hsz : sz ≤ 15) (ha : a ≤ sz) :
    Calls Tryd.prog 61 #[.agg #[.pointer (some ⟨g, 0, none⟩), .int .i64 x, .int .i64 b], .int .i64 1, .int .i64 rm] w fun e w' => e = .returned (.tuple #[.agg #[.int .i64 0, .int .i64 0, .int .i64 0, .int .i64 0, .int .i64 0, .int .i64 0, .int .i64 0], .int .i64 9]) ∧ w.grownBy w' (some g) := by
  have HC := hid hc
  have HG := hid hc.lt
  clear hc
  have HO := hid (((Own.nil w).alloc w.heap.size #[.pointer (some ⟨g, 0, none⟩), .int .i64 x, .int .i64 b] 70 rfl).alloc (w.heap.size + 1) #[.int .i64 0, .int .i64 0, .int .i64 0, .int .i64 0, .int .i64 0, .int .i64 0, .int .i64 0] 25 (by simp))
  go_enter Tryd.func61, Tryd.ntmps61
  go_wp2_with fail
  generalize hW1 : (w.alloc (.cells #[.pointer (some ⟨g, 0, none⟩), .int .i64 x, .int .i64 b] 70)).alloc (.cells #[.int .i64 0, .int .i64 0, .int .i64 0, .int .i64 0, .int .i64 0, .int .i64 0, .int .i64 0] 25) = W1 at *
  have HC1 := hid (HC.out.below HO.out.below HG.out)
  refine (regs_any g bs sz a 1 rm x b hr hx hb _ HC1.out hsz ha).mono ?_
  rw [HR.out]
  intro e wb hans
  obtain ⟨rfl, hg1, hc1⟩ := hans.parts
  clear hans
  obtain ⟨u, hu1, hu2, ho⟩ := HO.out.turn hg1 HG.out
  have HU := hid (And.intro hu1 hu2)
  have HO := hid ho
  have HC := hid hc1
  clear hg1 hc1 hu1 hu2 ho HC1 hW1
  have c0 := HO.out.tl.c
  have z0 := HO.out.tl.z
  have c1 := HO.out.c
  have z1 := HO.out.z
  have f1 := HO.out.f
  have hzb := HO.out.z
  have hn1 : ¬ wb.heap.size = w.heap.size + 1 := by omega
  have hn2 : ¬ w.heap.size + 1 = wb.heap.size := by omega
  have hn3 : ¬ w.heap.size = wb.heap.size := by omega
  have hn4 : ¬ wb.heap.size = w.heap.size := by omega
  have HC := hid (HC.out rfl)
  have hgw : w.heap.size ≠ g := by have := HG.out; omega
  have hgb : wb.heap.size ≠ g := by have := HG.out; omega
  have HM := hid (HO.out.alloc wb.heap.size #[.int .i64 5, .int .i64 p1, .int .i64 p2, .int .i64 p3, .int .i64 p4, .int .i64 p5, .int .i64 p6] 25 rfl)
  have HCM := hid (HC.out.alloc (.cells #[.int .i64 5, .int .i64 p1, .int .i64 p2, .int .i64 p3, .int .i64 p4, .int .i64 p5, .int .i64 p6] 25))
  have a0 := HO.out.tl.a
  have a1 := HO.out.a
  have b1 := HO.out.fa
  go_wp2_with fail
  have hS := show (wb.alloc (.cells #[.int .i64 5, .int .i64 p1, .int .i64 p2, .int .i64 p3, .int .i64 p4, .int .i64 p5, .int .i64 p6] 25)).drew.cell? ⟨w.heap.size, 0, none⟩ = some (.pointer (some ⟨g, 0, none⟩)) from HM.out.tl.tl.c 0
  refine wp_region_held_drew (S := (fun w' => w'.cell? ⟨w.heap.size, 0, none⟩ = some (.pointer (some ⟨g, 0, none⟩)))) (by kernel_rfl) hS (fun hHeld => ?_)
  refine wpAnyH_take (i := 1) (v := ?_) (show _ = some (Oper.mk _ _ _ _ _ _) from rfl) (by kernel_rfl) (by kernel_rfl) (by kernel_rfl) (fun _ _ _ h => h) (Or.inl ⟨by kernel_rfl, ?_⟩) (by assumption) ?_
  rotate_left
  · intro w hSw; (try dsimp only at hSw); (try obtain ⟨hSw1, hSw2⟩ := hSw); go_simp; try with_reducible rfl
  simp only [Act.put, List.setIfInBounds_toArray, List.set_cons_zero, List.set_cons_succ]
  refine wpAnyH_take (i := 5) (v := ?_) (show _ = some (Oper.mk _ _ _ _ _ _) from rfl) (by kernel_rfl) (by kernel_rfl) (by kernel_rfl) (fun _ _ _ h => h) (Or.inl ⟨by kernel_rfl, ?_⟩) (by assumption) ?_
  rotate_left
  · intro w hSw; (try dsimp only at hSw); (try obtain ⟨hSw1, hSw2⟩ := hSw); go_simp; try with_reducible rfl
  simp only [Act.put, List.setIfInBounds_toArray, List.set_cons_zero, List.set_cons_succ]
  refine wpAnyH_take (i := 6) (v := ?_) (show _ = some (Oper.mk _ _ _ _ _ _) from rfl) (by kernel_rfl) (by kernel_rfl) (by kernel_rfl) (fun _ _ _ h => h) (Or.inl ⟨by kernel_rfl, ?_⟩) (by assumption) ?_
  rotate_left
  · intro w hSw; (try dsimp only at hSw); (try obtain ⟨hSw1, hSw2⟩ := hSw); go_simp; try with_reducible rfl
  simp only [Act.put, List.setIfInBounds_toArray, List.set_cons_zero, List.set_cons_succ]
  refine wpAnyH_ready (rs := [0]) (by kernel_rfl) (by simp) ?_
  refine AllReadyH.cons (show _ = some (Oper.mk _ _ _ _ _ _) from rfl) (fun K hK => ?_) AllReadyH.nil
  go_simp
  go_at_call 71
  refine (disps_any _).mono ?_
  rintro e w3 ⟨gd, ad, bd, rfl, hbel, h3⟩
  obtain ⟨hx3, hy3, hz3⟩ := bel_cells hbel wb.heap.size (by first | assumption | (simp; done))
  have HT := hid h3
  have HC3 := hid (HCM.out.below ((Below.refl _ _).drew.trans hbel) HCM.out.lt)
  have HB3 := hid hbel
  have hk3 : w3.cell? ⟨gd, 3, none⟩ = some (.func (.func 96) #[] #[.pointer (some ⟨ad, 0, none⟩)]) := cell_of_row w3 gd 3 _ _ _ h3.kg
  have hgd : gd ≠ g := by have h1 := h3.ge.1; have h2 := HCM.out.lt; simp only [World.size_drew] at h1; omega
  have hgd2 : gd ≠ wb.heap.size := by have h1 := h3.ge.1; have h2 := HM.out.z; simp only [World.size_drew] at h1; omega
  clear h3
  go_wp2_with fail
  have hS3 := box_call hHeld hbel
  refine hK.out _ _ hS3 (fun _ => ?_)
  clear hK K
  have hS2 := And.intro hS3 hk3
  refine wpAnyH_strong (S' := (fun w' => w'.cell? ⟨w.heap.size, 0, none⟩ = some (.pointer (some ⟨g, 0, none⟩)) ∧ w'.cell? ⟨gd, 3, none⟩ = some (.func (.func 96) #[] #[.pointer (some ⟨ad, 0, none⟩)]))) (fun _ h => h.1) _ _ _ _ ?_
  refine wpAnyH_take (i := 2) (v := ?_) (show _ = some (Oper.mk _ _ _ _ _ _) from rfl) (by kernel_rfl) (by kernel_rfl) (by kernel_rfl) (fun _ _ _ h => h) (Or.inl ⟨by kernel_rfl, ?_⟩) (by assumption) ?_
  rotate_left
  · intro w hSw; (try dsimp only at hSw); (try obtain ⟨hSw1, hSw2⟩ := hSw); go_simp; try with_reducible rfl
  simp only [Act.put, List.setIfInBounds_toArray, List.set_cons_zero, List.set_cons_succ]
  refine wpAnyH_take (i := 3) (v := ?_) (show _ = some (Oper.mk _ _ _ _ _ _) from rfl) (by kernel_rfl) (by kernel_rfl) (by kernel_rfl) (fun _ _ _ h => h) (Or.inl ⟨by kernel_rfl, ?_⟩) (by assumption) ?_
  rotate_left
  · intro w hSw; (try dsimp only at hSw); (try obtain ⟨hSw1, hSw2⟩ := hSw); go_simp; try with_reducible rfl
  simp only [Act.put, List.setIfInBounds_toArray, List.set_cons_zero, List.set_cons_succ]
  refine wpAnyH_take (i := 4) (v := ?_) (show _ = some (Oper.mk _ _ _ _ _ _) from rfl) (by kernel_rfl) (by kernel_rfl) (by kernel_rfl) (fun _ _ _ h => h) (Or.inl ⟨by kernel_rfl, ?_⟩) (by assumption) ?_
  rotate_left
  · intro w hSw; (try dsimp only at hSw); (try obtain ⟨hSw1, hSw2⟩ := hSw); go_simp; try with_reducible rfl
  simp only [Act.put, List.setIfInBounds_toArray, List.set_cons_zero, List.set_cons_succ]
  refine wpAnyH_ready (rs := [7]) (by kernel_rfl) (by simp) ?_
  refine AllReadyH.cons (show _ = some (Oper.mk _ _ _ _ _ _) from rfl) (fun K hK => ?_) AllReadyH.nil
  go_simp
  go_at_call 96
  refine (readN_stop g ad bs sz (a + n) 1 (.inl rfl) _ HT.out.ka HC3.out hsz hl hl2).mono ?_
  rintro e w4 ⟨rfl, hturn, hc4⟩
  obtain ⟨hx4, hy4, hz4⟩ := turn_cells hturn wb.heap.size (by first | assumption | omega) hgb
  have HC4 := hid hc4
  have HT4 := hid hturn
  clear hc4
  go_wp2_with fail
  have hS4 := And.intro (box_turn hS2.1 hturn hgw) (box_turn hS2.2 hturn hgd)
  refine hK.out _ _ hS4 (fun _ => ?_)
  clear hK K
  refine wpAnyH_take (i := 8) (v := ?_) (show _ = some (Oper.mk _ _ _ _ _ _) from rfl) (by kernel_rfl) (by kernel_rfl) (by kernel_rfl) (fun _ _ _ h => h) (Or.inl ⟨by kernel_rfl, ?_⟩) (by assumption) ?_
  rotate_left
  · intro w hSw; (try dsimp only at hSw); (try obtain ⟨hSw1, hSw2⟩ := hSw); go_simp; try with_reducible rfl
  simp only [Act.put, List.setIfInBounds_toArray, List.set_cons_zero, List.set_cons_succ]
  refine wpAnyH_ready (rs := [9]) (by kernel_rfl) (by simp) ?_
  refine AllReadyH.cons (show _ = some (Oper.mk _ _ _ _ _ _) from rfl) (fun K hK => ?_) AllReadyH.nil
  go_simp
  refine hK.out _ _ (And.intro (box_set hS4.1 hn3) (box_set hS4.2 hgd2)) (fun _ => ?_)
  clear hK K
  refine wpAnyH_done (by kernel_rfl) ?_ _
  obtain ⟨u2, hu1, hu2, ho⟩ := (HM.out.drew.call HB3.out).turn2 HT4.out HU.out.2 HG.out
  have HU2 := hid (And.intro (turn_trans HU.out.1 hu1) hu2)
  have HM := hid (ho.set 5 (.int .i64 0))
  clear hu1 hu2 ho hturn HT4
  have HCM := hid (HC4.out.far (show g ≠ wb.heap.size from fun e => hgb e.symm) 5 (.int .i64 0))
  clear hS hHeld hS3 hS2 hbel hx3 hy3 hz3 hk3 a0 a1 b1 hS4 hx4 hy4 hz4
  generalize w4.setCell ⟨wb.heap.size, 5, none⟩ (.int .i64 0) = wm at *
  clear c0 z0 c1 z1 f1
  have c0 := HM.out.tl.tl.c
  have z0 := HM.out.tl.tl.z
  have c1 := HM.out.tl.c
  have z1 := HM.out.tl.z
  have f1 := HM.out.tl.f
  have c2 := HM.out.c
  have f2 := HM.out.f
  have z2 := HM.out.z
  go_wp2_with fail
  refine (err_any g bs sz _ _ _ HCM.out).mono ?_
  rintro e w6 ⟨rfl, rfl⟩
  have hge : u2.heap.size ≤ w.heap.size + 1 := by have := HU2.out.2; omega
  have hg3 : g ≠ w.heap.size + 1 := by have := HG.out; omega
  go_wp2_with (with_reducible change bodyPost _ _ _ Exit.ret _ _; go_loud (refine bodyPost_ret (v := .tuple #[.agg #[.int .i64 0, .int .i64 0, .int .i64 0, .int .i64 0, .int .i64 0, .int .i64 0, .int .i64 0], .int .i64 9]) (by simp [results, Tryd.results61, go_sem, *]) rfl ⟨rfl, turn_trans HU2.out.1 (turn_of_below ?_ _)⟩))
  · repeat first | with_reducible exact HM.out.below | with_reducible refine below_set ?_ hge _ _
set_option maxHeartbeats 1000000 in
theorem place_2s (g : Nat) (bs : List Int) (sz a n : Nat) (rm x b p1 p2 p3 p4 p5 p6 y0 y1 y2 y3 y4 y5 y6 dv : Int) (hr : 0 ≤ rm ∧ rm ≤ 7) (hx : 0 ≤ x ∧ x ≤ 1) (hb : 0 ≤ b ∧ b ≤ 1) (HR : Hid (regsF 2 rm x b ((bs.take sz).drop a) = (0, ⟨5, p1, p2, p3, p4, p5, p6⟩, n))) (hdv : Hid (getN (bs.take sz) ((a + n : Nat) : Int) 4 true = dv)) (hl : a + n + 4 ≤ sz) (HX : Hid (outF ⟨5, p1, p2, p3, p4, dv, p6⟩ = ⟨y0, y1, y2, y3, y4, y5, y6⟩)) (HK : Hid (checkF ⟨5, p1, p2, p3, p4, dv, p6⟩ = 0)) (HS : Hid (I64 p4)) (w : World) (hc : CurAt w g bs sz a 0) (hsz : sz ≤ 15) (ha : a ≤ sz) :
    Calls Tryd.prog 61 #[.agg #[.pointer (some ⟨g, 0, none⟩), .int .i64 x, .int .i64 b], .int .i64 2, .int .i64 rm] w fun e w' => e = .returned (.tuple #[.agg #[.int .i64 y0, .int .i64 y1, .int .i64 y2, .int .i64 y3, .int .i64 y4, .int .i64 y5, .int .i64 y6], .int .i64 0]) ∧ Turned w w' g bs sz ((a + n + 4 : Nat) : Int) 0 := by
  have HC := hid hc
  have HG := hid hc.lt
  clear hc
  have HO := hid (((Own.nil w).alloc w.heap.size #[.pointer (some ⟨g, 0, none⟩), .int .i64 x, .int .i64 b] 70 rfl).alloc (w.heap.size + 1) #[.int .i64 0, .int .i64 0, .int .i64 0, .int .i64 0, .int .i64 0, .int .i64 0, .int .i64 0] 25 (by simp))
  go_enter Tryd.func61, Tryd.ntmps61
  go_wp2_with fail
  generalize hW1 : (w.alloc (.cells #[.pointer (some ⟨g, 0, none⟩), .int .i64 x, .int .i64 b] 70)).alloc (.cells #[.int .i64 0, .int .i64 0, .int .i64 0, .int .i64 0, .int .i64 0, .int .i64 0, .int .i64 0] 25) = W1 at *
  have HC1 := hid (HC.out.below HO.out.below HG.out)
  refine (regs_any g bs sz a 2 rm x b hr hx hb _ HC1.out hsz ha).mono ?_
  rw [HR.out]
  intro e wb hans
  obtain ⟨rfl, hg1, hc1⟩ := hans.parts
  clear hans
  obtain ⟨u, hu1, hu2, ho⟩ := HO.out.turn hg1 HG.out
  have HU := hid (And.intro hu1 hu2)
  have HO := hid ho
  have HC := hid hc1
  clear hg1 hc1 hu1 hu2 ho HC1 hW1
  have c0 := HO.out.tl.c
  have z0 := HO.out.tl.z
  have c1 := HO.out.c
  have z1 := HO.out.z
  have f1 := HO.out.f
  have hzb := HO.out.z
  have hn1 : ¬ wb.heap.size = w.heap.size + 1 := by omega
  have hn2 : ¬ w.heap.size + 1 = wb.heap.size := by omega
  have hn3 : ¬ w.heap.size = wb.heap.size := by omega
  have hn4 : ¬ wb.heap.size = w.heap.size := by omega
  have HC := hid (HC.out rfl)
  have hgw : w.heap.size ≠ g := by have := HG.out; omega
  have hgb : wb.heap.size ≠ g := by have := HG.out; omega
  have HM := hid (HO.out.alloc wb.heap.size #[.int .i64 5, .int .i64 p1, .int .i64 p2, .int .i64 p3, .int .i64 p4, .int .i64 p5, .int .i64 p6] 25 rfl)
  have HCM := hid (HC.out.alloc (.cells #[.int .i64 5, .int .i64 p1, .int .i64 p2, .int .i64 p3, .int .i64 p4, .int .i64 p5, .int .i64 p6] 25))
  have a0 := HO.out.tl.a
  have a1 := HO.out.a
  have b1 := HO.out.fa
  go_wp2_with fail
  have hS := show (wb.alloc (.cells #[.int .i64 5, .int .i64 p1, .int .i64 p2, .int .i64 p3, .int .i64 p4, .int .i64 p5, .int .i64 p6] 25)).drew.cell? ⟨w.heap.size, 0, none⟩ = some (.pointer (some ⟨g, 0, none⟩)) from HM.out.tl.tl.c 0
  refine wp_region_held_drew (S := (fun w' => w'.cell? ⟨w.heap.size, 0, none⟩ = some (.pointer (some ⟨g, 0, none⟩)))) (by kernel_rfl) hS (fun hHeld => ?_)
  refine wpAnyH_take (i := 1) (v := ?_) (show _ = some (Oper.mk _ _ _ _ _ _) from rfl) (by kernel_rfl) (by kernel_rfl) (by kernel_rfl) (fun _ _ _ h => h) (Or.inl ⟨by kernel_rfl, ?_⟩) (by assumption) ?_
  rotate_left
  · intro w hSw; (try dsimp only at hSw); (try obtain ⟨hSw1, hSw2⟩ := hSw); go_simp; try with_reducible rfl
  simp only [Act.put, List.setIfInBounds_toArray, List.set_cons_zero, List.set_cons_succ]
  refine wpAnyH_take (i := 5) (v := ?_) (show _ = some (Oper.mk _ _ _ _ _ _) from rfl) (by kernel_rfl) (by kernel_rfl) (by kernel_rfl) (fun _ _ _ h => h) (Or.inl ⟨by kernel_rfl, ?_⟩) (by assumption) ?_
  rotate_left
  · intro w hSw; (try dsimp only at hSw); (try obtain ⟨hSw1, hSw2⟩ := hSw); go_simp; try with_reducible rfl
  simp only [Act.put, List.setIfInBounds_toArray, List.set_cons_zero, List.set_cons_succ]
  refine wpAnyH_take (i := 6) (v := ?_) (show _ = some (Oper.mk _ _ _ _ _ _) from rfl) (by kernel_rfl) (by kernel_rfl) (by kernel_rfl) (fun _ _ _ h => h) (Or.inl ⟨by kernel_rfl, ?_⟩) (by assumption) ?_
  rotate_left
  · intro w hSw; (try dsimp only at hSw); (try obtain ⟨hSw1, hSw2⟩ := hSw); go_simp; try with_reducible rfl
  simp only [Act.put, List.setIfInBounds_toArray, List.set_cons_zero, List.set_cons_succ]
  refine wpAnyH_ready (rs := [0]) (by kernel_rfl) (by simp) ?_
  refine AllReadyH.cons (show _ = some (Oper.mk _ _ _ _ _ _) from rfl) (fun K hK => ?_) AllReadyH.nil
  go_simp
  go_at_call 71
  refine (disps_any _).mono ?_
  rintro e w3 ⟨gd, ad, bd, rfl, hbel, h3⟩
  obtain ⟨hx3, hy3, hz3⟩ := bel_cells hbel wb.heap.size (by first | assumption | (simp; done))
  have HT := hid h3
  have HC3 := hid (HCM.out.below ((Below.refl _ _).drew.trans hbel) HCM.out.lt)
  have HB3 := hid hbel
  have hk3 : w3.cell? ⟨gd, 5, none⟩ = some (.func (.func 96) #[] #[.pointer (some ⟨bd, 0, none⟩)]) := cell_of_row w3 gd 5 _ _ _ h3.kg
  have hgd : gd ≠ g := by have h1 := h3.ge.1; have h2 := HCM.out.lt; simp only [World.size_drew] at h1; omega
  have hgd2 : gd ≠ wb.heap.size := by have h1 := h3.ge.1; have h2 := HM.out.z; simp only [World.size_drew] at h1; omega
  clear h3
  go_wp2_with fail
  have hS3 := box_call hHeld hbel
  refine hK.out _ _ hS3 (fun _ => ?_)
  clear hK K
  have hS2 := And.intro hS3 hk3
  refine wpAnyH_strong (S' := (fun w' => w'.cell? ⟨w.heap.size, 0, none⟩ = some (.pointer (some ⟨g, 0, none⟩)) ∧ w'.cell? ⟨gd, 5, none⟩ = some (.func (.func 96) #[] #[.pointer (some ⟨bd, 0, none⟩)]))) (fun _ h => h.1) _ _ _ _ ?_
  refine wpAnyH_take (i := 2) (v := ?_) (show _ = some (Oper.mk _ _ _ _ _ _) from rfl) (by kernel_rfl) (by kernel_rfl) (by kernel_rfl) (fun _ _ _ h => h) (Or.inl ⟨by kernel_rfl, ?_⟩) (by assumption) ?_
  rotate_left
  · intro w hSw; (try dsimp only at hSw); (try obtain ⟨hSw1, hSw2⟩ := hSw); go_simp; try with_reducible rfl
  simp only [Act.put, List.setIfInBounds_toArray, List.set_cons_zero, List.set_cons_succ]
  refine wpAnyH_take (i := 3) (v := ?_) (show _ = some (Oper.mk _ _ _ _ _ _) from rfl) (by kernel_rfl) (by kernel_rfl) (by kernel_rfl) (fun _ _ _ h => h) (Or.inl ⟨by kernel_rfl, ?_⟩) (by assumption) ?_
  rotate_left
  · intro w hSw; (try dsimp only at hSw); (try obtain ⟨hSw1, hSw2⟩ := hSw); go_simp; try with_reducible rfl
  simp only [Act.put, List.setIfInBounds_toArray, List.set_cons_zero, List.set_cons_succ]
  refine wpAnyH_take (i := 4) (v := ?_) (show _ = some (Oper.mk _ _ _ _ _ _) from rfl) (by kernel_rfl) (by kernel_rfl) (by kernel_rfl) (fun _ _ _ h => h) (Or.inl ⟨by kernel_rfl, ?_⟩) (by assumption) ?_
  rotate_left
  · intro w hSw; (try dsimp only at hSw); (try obtain ⟨hSw1, hSw2⟩ := hSw); go_simp; try with_reducible rfl
  simp only [Act.put, List.setIfInBounds_toArray, List.set_cons_zero, List.set_cons_succ]
  refine wpAnyH_ready (rs := [7]) (by kernel_rfl) (by simp) ?_
  refine AllReadyH.cons (show _ = some (Oper.mk _ _ _ _ _ _) from rfl) (fun K hK => ?_) AllReadyH.nil
  go_simp
  go_at_call 96
  refine (readN_ok g bd bs sz (a + n) 4 hdv.out (.inr rfl) _ HT.out.kb HC3.out hsz hl).mono ?_
  rintro e w4 ⟨rfl, hturn, hc4⟩
  obtain ⟨hx4, hy4, hz4⟩ := turn_cells hturn wb.heap.size (by first | assumption | omega) hgb
  have HC4 := hid hc4
  have HT4 := hid hturn
  clear hc4
  go_wp2_with fail
  have hS4 := And.intro (box_turn hS2.1 hturn hgw) (box_turn hS2.2 hturn hgd)
  refine hK.out _ _ hS4 (fun _ => ?_)
  clear hK K
  refine wpAnyH_take (i := 8) (v := ?_) (show _ = some (Oper.mk _ _ _ _ _ _) from rfl) (by kernel_rfl) (by kernel_rfl) (by kernel_rfl) (fun _ _ _ h => h) (Or.inl ⟨by kernel_rfl, ?_⟩) (by assumption) ?_
  rotate_left
  · intro w hSw; (try dsimp only at hSw); (try obtain ⟨hSw1, hSw2⟩ := hSw); go_simp; try with_reducible rfl
  simp only [Act.put, List.setIfInBounds_toArray, List.set_cons_zero, List.set_cons_succ]
  refine wpAnyH_ready (rs := [9]) (by kernel_rfl) (by simp) ?_
  refine AllReadyH.cons (show _ = some (Oper.mk _ _ _ _ _ _) from rfl) (fun K hK => ?_) AllReadyH.nil
  go_simp
  refine hK.out _ _ (And.intro (box_set hS4.1 hn3) (box_set hS4.2 hgd2)) (fun _ => ?_)
  clear hK K
  refine wpAnyH_done (by kernel_rfl) ?_ _
  obtain ⟨u2, hu1, hu2, ho⟩ := (HM.out.drew.call HB3.out).turn2 HT4.out HU.out.2 HG.out
  have HU2 := hid (And.intro (turn_trans HU.out.1 hu1) hu2)
  have HM := hid (ho.set 5 (.int .i64 dv))
  clear hu1 hu2 ho hturn HT4
  have HCM := hid (HC4.out.far (show g ≠ wb.heap.size from fun e => hgb e.symm) 5 (.int .i64 dv))
  clear hS hHeld hS3 hS2 hbel hx3 hy3 hz3 hk3 a0 a1 b1 hS4 hx4 hy4 hz4
  generalize w4.setCell ⟨wb.heap.size, 5, none⟩ (.int .i64 dv) = wm at *
  clear c0 z0 c1 z1 f1
  have c0 := HM.out.tl.tl.c
  have z0 := HM.out.tl.tl.z
  have c1 := HM.out.tl.c
  have z1 := HM.out.tl.z
  have f1 := HM.out.tl.f
  have c2 := HM.out.c
  have f2 := HM.out.f
  have z2 := HM.out.z
  go_wp2_with fail
  refine (err_any g bs sz _ _ _ HCM.out).mono ?_
  rintro e w6 ⟨rfl, rfl⟩
  go_wp2_with fail
  refine (canon_of (p := ⟨y0, y1, y2, y3, y4, y5, y6⟩) (k := 0) HX.out HK.out HS.out _).mono ?_
  rintro e w7 ⟨rfl, hb7⟩
  unfold MV
  have HM := hid (HM.out.call hb7)
  have HCM := hid (HCM.out.below hb7 HCM.out.lt)
  clear hb7 c0 z0 c1 z1 f1 c2 f2 z2
  have c0 := HM.out.tl.tl.c
  have z0 := HM.out.tl.tl.z
  have c1 := HM.out.tl.c
  have z1 := HM.out.tl.z
  have f1 := HM.out.tl.f
  have c2 := HM.out.c
  have f2 := HM.out.f
  have z2 := HM.out.z
  have hge : u2.heap.size ≤ w.heap.size + 1 := by have := HU2.out.2; omega
  have hg3 : g ≠ w.heap.size + 1 := by have := HG.out; omega
  go_wp2_with (with_reducible change bodyPost _ _ _ Exit.ret _ _; go_loud (refine bodyPost_ret (v := .tuple #[.agg #[.int .i64 y0, .int .i64 y1, .int .i64 y2, .int .i64 y3, .int .i64 y4, .int .i64 y5, .int .i64 y6], .int .i64 0]) (by simp [results, Tryd.results61, go_sem, *]) rfl ⟨rfl, turned_mk (turn_trans HU2.out.1 (turn_of_below ?_ _)) ?_⟩))
  · repeat first | with_reducible exact HM.out.below | with_reducible refine below_set ?_ hge _ _
  · repeat first | with_reducible exact HCM.out | with_reducible refine CurAt.far ?_ hg3 _ _
set_option maxHeartbeats 1000000 in
theorem place_2s_stop (g : Nat) (bs : List Int) (sz a n : Nat) (rm x b p1 p2 p3 p4 p5 p6 : Int) (hr : 0 ≤ rm ∧ rm ≤ 7) (hx : 0 ≤ x ∧ x ≤ 1) (hb : 0 ≤ b ∧ b ≤ 1) (HR : Hid (regsF 2 rm x b ((bs.take sz).drop a) = (0, ⟨5, p1, p2, p3, p4, p5, p6⟩, n))) (hl : a + n ≤ sz) (hl2 : sz < a + n + 4) (w : World) (hc : CurAt w g bs sz a 0) (hsz : sz ≤ 15) (ha : a ≤ sz) :
    Calls Tryd.prog 61 #[.agg #[.pointer (some ⟨g, 0, none⟩), .int .i64 x, .int .i64 b], .int .i64 2, .int .i64 rm] w fun e w' => e = .returned (.tuple #[.agg #[.int .i64 0, .int .i64 0, .int .i64 0, .int .i64 0, .int .i64 0, .int .i64 0, .int .i64 0], .int .i64 9]) ∧ w.grownBy w' (some g) := by
  have HC := hid hc
  have HG := hid hc.lt
  clear hc
  have HO := hid (((Own.nil w).alloc w.heap.size #[.pointer (some ⟨g, 0, none⟩), .int .i64 x, .int .i64 b] 70 rfl).alloc (w.heap.size + 1) #[.int .i64 0, .int .i64 0, .int .i64 0, .int .i64 0, .int .i64 0, .int .i64 0, .int .i64 0] 25 (by simp))
  go_enter Tryd.func61, Tryd.ntmps61
  go_wp2_with fail
  generalize hW1 : (w.alloc (.cells #[.pointer (some ⟨g, 0, none⟩), .int .i64 x, .int .i64 b] 70)).alloc (.cells #[.int .i64 0, .int .i64 0, .int .i64 0, .int .i64 0, .int .i64 0, .int .i64 0, .int .i64 0] 25) = W1 at *
  have HC1 := hid (HC.out.below HO.out.below HG.out)
  refine (regs_any g bs sz a 2 rm x b hr hx hb _ HC1.out hsz ha).mono ?_
  rw [HR.out]
  intro e wb hans
  obtain ⟨rfl, hg1, hc1⟩ := hans.parts
  clear hans
  obtain ⟨u, hu1, hu2, ho⟩ := HO.out.turn hg1 HG.out
  have HU := hid (And.intro hu1 hu2)
  have HO := hid ho
  have HC := hid hc1
  clear hg1 hc1 hu1 hu2 ho HC1 hW1
  have c0 := HO.out.tl.c
  have z0 := HO.out.tl.z
  have c1 := HO.out.c
  have z1 := HO.out.z
  have f1 := HO.out.f
  have hzb := HO.out.z
  have hn1 : ¬ wb.heap.size = w.heap.size + 1 := by omega
  have hn2 : ¬ w.heap.size + 1 = wb.heap.size := by omega
  have hn3 : ¬ w.heap.size = wb.heap.size := by omega
  have hn4 : ¬ wb.heap.size = w.heap.size := by omega
  have HC := hid (HC.out rfl)
  have hgw : w.heap.size ≠ g := by have := HG.out; omega
  have hgb : wb.heap.size ≠ g := by have := HG.out; omega
  have HM := hid (HO.out.alloc wb.heap.size #[.int .i64 5, .int .i64 p1, .int .i64 p2, .int .i64 p3, .int .i64 p4, .int .i64 p5, .int .i64 p6] 25 rfl)
  have HCM := hid (HC.out.alloc (.cells #[.int .i64 5, .int .i64 p1, .int .i64 p2, .int .i64 p3, .int .i64 p4, .int .i64 p5, .int .i64 p6] 25))
  have a0 := HO.out.tl.a
  have a1 := HO.out.a
  have b1 := HO.out.fa
  go_wp2_with fail
  have hS := show (wb.alloc (.cells #[.int .i64 5, .int .i64 p1, .int .i64 p2, .int .i64 p3, .int .i64 p4, .int .i64 p5, .int .i64 p6] 25)).drew.cell? ⟨w.heap.size, 0, none⟩ = some (.pointer (some ⟨g, 0, none⟩)) from HM.out.tl.tl.c 0
  refine wp_region_held_drew (S := (fun w' => w'.cell? ⟨w.heap.size, 0, none⟩ = some (.pointer (some ⟨g, 0, none⟩)))) (by kernel_rfl) hS (fun hHeld => ?_)
  refine wpAnyH_take (i := 1) (v := ?_) (show _ = some (Oper.mk _ _ _ _ _ _) from rfl) (by kernel_rfl) (by kernel_rfl) (by kernel_rfl) (fun _ _ _ h => h) (Or.inl ⟨by kernel_rfl, ?_⟩) (by assumption) ?_
  rotate_left
  · intro w hSw; (try dsimp only at hSw); (try obtain ⟨hSw1, hSw2⟩ := hSw); go_simp; try with_reducible rfl
  simp only [Act.put, List.setIfInBounds_toArray, List.set_cons_zero, List.set_cons_succ]
  refine wpAnyH_take (i := 5) (v := ?_) (show _ = some (Oper.mk _ _ _ _ _ _) from rfl) (by kernel_rfl) (by kernel_rfl) (by kernel_rfl) (fun _ _ _ h => h) (Or.inl ⟨by kernel_rfl, ?_⟩) (by assumption) ?_
  rotate_left
  · intro w hSw; (try dsimp only at hSw); (try obtain ⟨hSw1, hSw2⟩ := hSw); go_simp; try with_reducible rfl
  simp only [Act.put, List.setIfInBounds_toArray, List.set_cons_zero, List.set_cons_succ]
  refine wpAnyH_take (i := 6) (v := ?_) (show _ = some (Oper.mk _ _ _ _ _ _) from rfl) (by kernel_rfl) (by kernel_rfl) (by kernel_rfl) (fun _ _ _ h => h) (Or.inl ⟨by kernel_rfl, ?_⟩) (by assumption) ?_
  rotate_left
  · intro w hSw; (try dsimp only at hSw); (try obtain ⟨hSw1, hSw2⟩ := hSw); go_simp; try with_reducible rfl
  simp only [Act.put, List.setIfInBounds_toArray, List.set_cons_zero, List.set_cons_succ]
  refine wpAnyH_ready (rs := [0]) (by kernel_rfl) (by simp) ?_
  refine AllReadyH.cons (show _ = some (Oper.mk _ _ _ _ _ _) from rfl) (fun K hK => ?_) AllReadyH.nil
  go_simp
  go_at_call 71
  refine (disps_any _).mono ?_
  rintro e w3 ⟨gd, ad, bd, rfl, hbel, h3⟩
  obtain ⟨hx3, hy3, hz3⟩ := bel_cells hbel wb.heap.size (by first | assumption | (simp; done))
  have HT := hid h3
  have HC3 := hid (HCM.out.below ((Below.refl _ _).drew.trans hbel) HCM.out.lt)
  have HB3 := hid hbel
  have hk3 : w3.cell? ⟨gd, 5, none⟩ = some (.func (.func 96) #[] #[.pointer (some ⟨bd, 0, none⟩)]) := cell_of_row w3 gd 5 _ _ _ h3.kg
  have hgd : gd ≠ g := by have h1 := h3.ge.1; have h2 := HCM.out.lt; simp only [World.size_drew] at h1; omega
  have hgd2 : gd ≠ wb.heap.size := by have h1 := h3.ge.1; have h2 := HM.out.z; simp only [World.size_drew] at h1; omega
  clear h3
  go_wp2_with fail
  have hS3 := box_call hHeld hbel
  refine hK.out _ _ hS3 (fun _ => ?_)
  clear hK K
  have hS2 := And.intro hS3 hk3
  refine wpAnyH_strong (S' := (fun w' => w'.cell? ⟨w.heap.size, 0, none⟩ = some (.pointer (some ⟨g, 0, none⟩)) ∧ w'.cell? ⟨gd, 5, none⟩ = some (.func (.func 96) #[] #[.pointer (some ⟨bd, 0, none⟩)]))) (fun _ h => h.1) _ _ _ _ ?_
  refine wpAnyH_take (i := 2) (v := ?_) (show _ = some (Oper.mk _ _ _ _ _ _) from rfl) (by kernel_rfl) (by kernel_rfl) (by kernel_rfl) (fun _ _ _ h => h) (Or.inl ⟨by kernel_rfl, ?_⟩) (by assumption) ?_
  rotate_left
  · intro w hSw; (try dsimp only at hSw); (try obtain ⟨hSw1, hSw2⟩ := hSw); go_simp; try with_reducible rfl
  simp only [Act.put, List.setIfInBounds_toArray, List.set_cons_zero, List.set_cons_succ]
  refine wpAnyH_take (i := 3) (v := ?_) (show _ = some (Oper.mk _ _ _ _ _ _) from rfl) (by kernel_rfl) (by kernel_rfl) (by kernel_rfl) (fun _ _ _ h => h) (Or.inl ⟨by kernel_rfl, ?_⟩) (by assumption) ?_
  rotate_left
  · intro w hSw; (try dsimp only at hSw); (try obtain ⟨hSw1, hSw2⟩ := hSw); go_simp; try with_reducible rfl
  simp only [Act.put, List.setIfInBounds_toArray, List.set_cons_zero, List.set_cons_succ]
  refine wpAnyH_take (i := 4) (v := ?_) (show _ = some (Oper.mk _ _ _ _ _ _) from rfl) (by kernel_rfl) (by kernel_rfl) (by kernel_rfl) (fun _ _ _ h => h) (Or.inl ⟨by kernel_rfl, ?_⟩) (by assumption) ?_
  rotate_left
  · intro w hSw; (try dsimp only at hSw); (try obtain ⟨hSw1, hSw2⟩ := hSw); go_simp; try with_reducible rfl
  simp only [Act.put, List.setIfInBounds_toArray, List.set_cons_zero, List.set_cons_succ]
  refine wpAnyH_ready (rs := [7]) (by kernel_rfl) (by simp) ?_
  refine AllReadyH.cons (show _ = some (Oper.mk _ _ _ _ _ _) from rfl) (fun K hK => ?_) AllReadyH.nil
  go_simp
  go_at_call 96
  refine (readN_stop g bd bs sz (a + n) 4 (.inr rfl) _ HT.out.kb HC3.out hsz hl hl2).mono ?_
  rintro e w4 ⟨rfl, hturn, hc4⟩
  obtain ⟨hx4, hy4, hz4⟩ := turn_cells hturn wb.heap.size (by first | assumption | omega) hgb
  have HC4 := hid hc4
  have HT4 := hid hturn
  clear hc4
  go_wp2_with fail
  have hS4 := And.intro (box_turn hS2.1 hturn hgw) (box_turn hS2.2 hturn hgd)
  refine hK.out _ _ hS4 (fun _ => ?_)
  clear hK K
  refine wpAnyH_take (i := 8) (v := ?_) (show _ = some (Oper.mk _ _ _ _ _ _) from rfl) (by kernel_rfl) (by kernel_rfl) (by kernel_rfl) (fun _ _ _ h => h) (Or.inl ⟨by kernel_rfl, ?_⟩) (by assumption) ?_
  rotate_left
  · intro w hSw; (try dsimp only at hSw); (try obtain ⟨hSw1, hSw2⟩ := hSw); go_simp; try with_reducible rfl
  simp only [Act.put, List.setIfInBounds_toArray, List.set_cons_zero, List.set_cons_succ]
  refine wpAnyH_ready (rs := [9]) (by kernel_rfl) (by simp) ?_
  refine AllReadyH.cons (show _ = some (Oper.mk _ _ _ _ _ _) from rfl) (fun K hK => ?_) AllReadyH.nil
  go_simp
  refine hK.out _ _ (And.intro (box_set hS4.1 hn3) (box_set hS4.2 hgd2)) (fun _ => ?_)
  clear hK K
  refine wpAnyH_done (by kernel_rfl) ?_ _
  obtain ⟨u2, hu1, hu2, ho⟩ := (HM.out.drew.call HB3.out).turn2 HT4.out HU.out.2 HG.out
  have HU2 := hid (And.intro (turn_trans HU.out.1 hu1) hu2)
  have HM := hid (ho.set 5 (.int .i64 0))
  clear hu1 hu2 ho hturn HT4
  have HCM := hid (HC4.out.far (show g ≠ wb.heap.size from fun e => hgb e.symm) 5 (.int .i64 0))
  clear hS hHeld hS3 hS2 hbel hx3 hy3 hz3 hk3 a0 a1 b1 hS4 hx4 hy4 hz4
  generalize w4.setCell ⟨wb.heap.size, 5, none⟩ (.int .i64 0) = wm at *
  clear c0 z0 c1 z1 f1
  have c0 := HM.out.tl.tl.c
  have z0 := HM.out.tl.tl.z
  have c1 := HM.out.tl.c
  have z1 := HM.out.tl.z
  have f1 := HM.out.tl.f
  have c2 := HM.out.c
  have f2 := HM.out.f
  have z2 := HM.out.z
  go_wp2_with fail
  refine (err_any g bs sz _ _ _ HCM.out).mono ?_
  rintro e w6 ⟨rfl, rfl⟩
  have hge : u2.heap.size ≤ w.heap.size + 1 := by have := HU2.out.2; omega
  have hg3 : g ≠ w.heap.size + 1 := by have := HG.out; omega
  go_wp2_with (with_reducible change bodyPost _ _ _ Exit.ret _ _; go_loud (refine bodyPost_ret (v := .tuple #[.agg #[.int .i64 0, .int .i64 0, .int .i64 0, .int .i64 0, .int .i64 0, .int .i64 0, .int .i64 0], .int .i64 9]) (by simp [results, Tryd.results61, go_sem, *]) rfl ⟨rfl, turn_trans HU2.out.1 (turn_of_below ?_ _)⟩))
  · repeat first | with_reducible exact HM.out.below | with_reducible refine below_set ?_ hge _ _
set_option maxHeartbeats 1000000 in
theorem place_2o (g : Nat) (bs : List Int) (sz a n : Nat) (mod rm x b p0 p1 p2 p3 p4 p5 p6 y0 y1 y2 y3 y4 y5 y6 dv : Int) (hr : 0 ≤ rm ∧ rm ≤ 7) (hx : 0 ≤ x ∧ x ≤ 1) (hb : 0 ≤ b ∧ b ≤ 1) (HR : Hid (regsF mod rm x b ((bs.take sz).drop a) = (0, ⟨p0, p1, p2, p3, p4, p5, p6⟩, n))) (h5 : ¬ p0 = 5) (hdv : Hid (getN (bs.take sz) ((a + n : Nat) : Int) 4 true = dv)) (hl : a + n + 4 ≤ sz) (HX : Hid (outF ⟨p0, p1, p2, p3, p4, dv, p6⟩ = ⟨y0, y1, y2, y3, y4, y5, y6⟩)) (HK : Hid (checkF ⟨p0, p1, p2, p3, p4, dv, p6⟩ = 0)) (HS : Hid (I64 p4)) (w : World) (hc : CurAt w g bs sz a 0) (hsz : sz ≤ 15) (ha : a ≤ sz) :
    Calls Tryd.prog 61 #[.agg #[.pointer (some ⟨g, 0, none⟩), .int .i64 x, .int .i64 b], .int .i64 mod, .int .i64 rm] w fun e w' => e = .returned (.tuple #[.agg #[.int .i64 y0, .int .i64 y1, .int .i64 y2, .int .i64 y3, .int .i64 y4, .int .i64 y5, .int .i64 y6], .int .i64 0]) ∧ Turned w w' g bs sz ((a + n + 4 : Nat) : Int) 0 := by
  have HC := hid hc
  have HG := hid hc.lt
  clear hc
  have HO := hid (((Own.nil w).alloc w.heap.size #[.pointer (some ⟨g, 0, none⟩), .int .i64 x, .int .i64 b] 70 rfl).alloc (w.heap.size + 1) #[.int .i64 0, .int .i64 0, .int .i64 0, .int .i64 0, .int .i64 0, .int .i64 0, .int .i64 0] 25 (by simp))
  go_enter Tryd.func61, Tryd.ntmps61
  go_wp2_with fail
  generalize hW1 : (w.alloc (.cells #[.pointer (some ⟨g, 0, none⟩), .int .i64 x, .int .i64 b] 70)).alloc (.cells #[.int .i64 0, .int .i64 0, .int .i64 0, .int .i64 0, .int .i64 0, .int .i64 0, .int .i64 0] 25) = W1 at *
  have HC1 := hid (HC.out.below HO.out.below HG.out)
  refine (regs_any g bs sz a mod rm x b hr hx hb _ HC1.out hsz ha).mono ?_
  rw [HR.out]
  intro e wb hans
  obtain ⟨rfl, hg1, hc1⟩ := hans.parts
  clear hans
  obtain ⟨u, hu1, hu2, ho⟩ := HO.out.turn hg1 HG.out
  have HU := hid (And.intro hu1 hu2)
  have HO := hid ho
  have HC := hid hc1
  clear hg1 hc1 hu1 hu2 ho HC1 hW1
  have c0 := HO.out.tl.c
  have z0 := HO.out.tl.z
  have c1 := HO.out.c
  have z1 := HO.out.z
  have f1 := HO.out.f
  have hzb := HO.out.z
  have hn1 : ¬ wb.heap.size = w.heap.size + 1 := by omega
  have hn2 : ¬ w.heap.size + 1 = wb.heap.size := by omega
  have hn3 : ¬ w.heap.size = wb.heap.size := by omega
  have hn4 : ¬ wb.heap.size = w.heap.size := by omega
  have HC := hid (HC.out rfl)
  have hgw : w.heap.size ≠ g := by have := HG.out; omega
  have hgb : wb.heap.size ≠ g := by have := HG.out; omega
  have HM := hid (HO.out.alloc wb.heap.size #[.int .i64 p0, .int .i64 p1, .int .i64 p2, .int .i64 p3, .int .i64 p4, .int .i64 p5, .int .i64 p6] 25 rfl)
  have HCM := hid (HC.out.alloc (.cells #[.int .i64 p0, .int .i64 p1, .int .i64 p2, .int .i64 p3, .int .i64 p4, .int .i64 p5, .int .i64 p6] 25))
  have a0 := HO.out.tl.a
  have a1 := HO.out.a
  have b1 := HO.out.fa
  go_wp2_with fail
  have hS := show (wb.alloc (.cells #[.int .i64 p0, .int .i64 p1, .int .i64 p2, .int .i64 p3, .int .i64 p4, .int .i64 p5, .int .i64 p6] 25)).drew.cell? ⟨w.heap.size, 0, none⟩ = some (.pointer (some ⟨g, 0, none⟩)) from HM.out.tl.tl.c 0
  refine wp_region_held_drew (S := (fun w' => w'.cell? ⟨w.heap.size, 0, none⟩ = some (.pointer (some ⟨g, 0, none⟩)))) (by kernel_rfl) hS (fun hHeld => ?_)
  refine wpAnyH_take (i := 1) (v := ?_) (show _ = some (Oper.mk _ _ _ _ _ _) from rfl) (by kernel_rfl) (by kernel_rfl) (by kernel_rfl) (fun _ _ _ h => h) (Or.inl ⟨by kernel_rfl, ?_⟩) (by assumption) ?_
  rotate_left
  · intro w hSw; (try dsimp only at hSw); (try obtain ⟨hSw1, hSw2⟩ := hSw); go_simp; try with_reducible rfl
  simp only [Act.put, List.setIfInBounds_toArray, List.set_cons_zero, List.set_cons_succ]
  refine wpAnyH_take (i := 5) (v := ?_) (show _ = some (Oper.mk _ _ _ _ _ _) from rfl) (by kernel_rfl) (by kernel_rfl) (by kernel_rfl) (fun _ _ _ h => h) (Or.inl ⟨by kernel_rfl, ?_⟩) (by assumption) ?_
  rotate_left
  · intro w hSw; (try dsimp only at hSw); (try obtain ⟨hSw1, hSw2⟩ := hSw); go_simp; try with_reducible rfl
  simp only [Act.put, List.setIfInBounds_toArray, List.set_cons_zero, List.set_cons_succ]
  refine wpAnyH_take (i := 6) (v := ?_) (show _ = some (Oper.mk _ _ _ _ _ _) from rfl) (by kernel_rfl) (by kernel_rfl) (by kernel_rfl) (fun _ _ _ h => h) (Or.inl ⟨by kernel_rfl, ?_⟩) (by assumption) ?_
  rotate_left
  · intro w hSw; (try dsimp only at hSw); (try obtain ⟨hSw1, hSw2⟩ := hSw); go_simp; try with_reducible rfl
  simp only [Act.put, List.setIfInBounds_toArray, List.set_cons_zero, List.set_cons_succ]
  refine wpAnyH_ready (rs := [0]) (by kernel_rfl) (by simp) ?_
  refine AllReadyH.cons (show _ = some (Oper.mk _ _ _ _ _ _) from rfl) (fun K hK => ?_) AllReadyH.nil
  go_simp
  go_at_call 71
  refine (disps_any _).mono ?_
  rintro e w3 ⟨gd, ad, bd, rfl, hbel, h3⟩
  obtain ⟨hx3, hy3, hz3⟩ := bel_cells hbel wb.heap.size (by first | assumption | (simp; done))
  have HT := hid h3
  have HC3 := hid (HCM.out.below ((Below.refl _ _).drew.trans hbel) HCM.out.lt)
  have HB3 := hid hbel
  have hk3 : w3.cell? ⟨gd, 5, none⟩ = some (.func (.func 96) #[] #[.pointer (some ⟨bd, 0, none⟩)]) := cell_of_row w3 gd 5 _ _ _ h3.kg
  have hgd : gd ≠ g := by have h1 := h3.ge.1; have h2 := HCM.out.lt; simp only [World.size_drew] at h1; omega
  have hgd2 : gd ≠ wb.heap.size := by have h1 := h3.ge.1; have h2 := HM.out.z; simp only [World.size_drew] at h1; omega
  clear h3
  go_wp2_with fail
  have hS3 := box_call hHeld hbel
  refine hK.out _ _ hS3 (fun _ => ?_)
  clear hK K
  have hS2 := And.intro hS3 hk3
  refine wpAnyH_strong (S' := (fun w' => w'.cell? ⟨w.heap.size, 0, none⟩ = some (.pointer (some ⟨g, 0, none⟩)) ∧ w'.cell? ⟨gd, 5, none⟩ = some (.func (.func 96) #[] #[.pointer (some ⟨bd, 0, none⟩)]))) (fun _ h => h.1) _ _ _ _ ?_
  refine wpAnyH_take (i := 2) (v := ?_) (show _ = some (Oper.mk _ _ _ _ _ _) from rfl) (by kernel_rfl) (by kernel_rfl) (by kernel_rfl) (fun _ _ _ h => h) (Or.inl ⟨by kernel_rfl, ?_⟩) (by assumption) ?_
  rotate_left
  · intro w hSw; (try dsimp only at hSw); (try obtain ⟨hSw1, hSw2⟩ := hSw); go_simp; try with_reducible rfl
  simp only [Act.put, List.setIfInBounds_toArray, List.set_cons_zero, List.set_cons_succ]
  refine wpAnyH_take (i := 3) (v := ?_) (show _ = some (Oper.mk _ _ _ _ _ _) from rfl) (by kernel_rfl) (by kernel_rfl) (by kernel_rfl) (fun _ _ _ h => h) (Or.inl ⟨by kernel_rfl, ?_⟩) (by assumption) ?_
  rotate_left
  · intro w hSw; (try dsimp only at hSw); (try obtain ⟨hSw1, hSw2⟩ := hSw); go_simp; try with_reducible rfl
  simp only [Act.put, List.setIfInBounds_toArray, List.set_cons_zero, List.set_cons_succ]
  refine wpAnyH_take (i := 4) (v := ?_) (show _ = some (Oper.mk _ _ _ _ _ _) from rfl) (by kernel_rfl) (by kernel_rfl) (by kernel_rfl) (fun _ _ _ h => h) (Or.inl ⟨by kernel_rfl, ?_⟩) (by assumption) ?_
  rotate_left
  · intro w hSw; (try dsimp only at hSw); (try obtain ⟨hSw1, hSw2⟩ := hSw); go_simp; try with_reducible rfl
  simp only [Act.put, List.setIfInBounds_toArray, List.set_cons_zero, List.set_cons_succ]
  refine wpAnyH_ready (rs := [7]) (by kernel_rfl) (by simp) ?_
  refine AllReadyH.cons (show _ = some (Oper.mk _ _ _ _ _ _) from rfl) (fun K hK => ?_) AllReadyH.nil
  go_simp
  go_at_call 96
  refine (readN_ok g bd bs sz (a + n) 4 hdv.out (.inr rfl) _ HT.out.kb HC3.out hsz hl).mono ?_
  rintro e w4 ⟨rfl, hturn, hc4⟩
  obtain ⟨hx4, hy4, hz4⟩ := turn_cells hturn wb.heap.size (by first | assumption | omega) hgb
  have HC4 := hid hc4
  have HT4 := hid hturn
  clear hc4
  go_wp2_with fail
  have hS4 := And.intro (box_turn hS2.1 hturn hgw) (box_turn hS2.2 hturn hgd)
  refine hK.out _ _ hS4 (fun _ => ?_)
  clear hK K
  refine wpAnyH_take (i := 8) (v := ?_) (show _ = some (Oper.mk _ _ _ _ _ _) from rfl) (by kernel_rfl) (by kernel_rfl) (by kernel_rfl) (fun _ _ _ h => h) (Or.inl ⟨by kernel_rfl, ?_⟩) (by assumption) ?_
  rotate_left
  · intro w hSw; (try dsimp only at hSw); (try obtain ⟨hSw1, hSw2⟩ := hSw); go_simp; try with_reducible rfl
  simp only [Act.put, List.setIfInBounds_toArray, List.set_cons_zero, List.set_cons_succ]
  refine wpAnyH_ready (rs := [9]) (by kernel_rfl) (by simp) ?_
  refine AllReadyH.cons (show _ = some (Oper.mk _ _ _ _ _ _) from rfl) (fun K hK => ?_) AllReadyH.nil
  go_simp
  refine hK.out _ _ (And.intro (box_set hS4.1 hn3) (box_set hS4.2 hgd2)) (fun _ => ?_)
  clear hK K
  refine wpAnyH_done (by kernel_rfl) ?_ _
  obtain ⟨u2, hu1, hu2, ho⟩ := (HM.out.drew.call HB3.out).turn2 HT4.out HU.out.2 HG.out
  have HU2 := hid (And.intro (turn_trans HU.out.1 hu1) hu2)
  have HM := hid (ho.set 5 (.int .i64 dv))
  clear hu1 hu2 ho hturn HT4
  have HCM := hid (HC4.out.far (show g ≠ wb.heap.size from fun e => hgb e.symm) 5 (.int .i64 dv))
  clear hS hHeld hS3 hS2 hbel hx3 hy3 hz3 hk3 a0 a1 b1 hS4 hx4 hy4 hz4
  generalize w4.setCell ⟨wb.heap.size, 5, none⟩ (.int .i64 dv) = wm at *
  clear c0 z0 c1 z1 f1
  have c0 := HM.out.tl.tl.c
  have z0 := HM.out.tl.tl.z
  have c1 := HM.out.tl.c
  have z1 := HM.out.tl.z
  have f1 := HM.out.tl.f
  have c2 := HM.out.c
  have f2 := HM.out.f
  have z2 := HM.out.z
  go_wp2_with fail
  refine (err_any g bs sz _ _ _ HCM.out).mono ?_
  rintro e w6 ⟨rfl, rfl⟩
  go_wp2_with fail
  refine (canon_of (p := ⟨y0, y1, y2, y3, y4, y5, y6⟩) (k := 0) HX.out HK.out HS.out _).mono ?_
  rintro e w7 ⟨rfl, hb7⟩
  unfold MV
  have HM := hid (HM.out.call hb7)
  have HCM := hid (HCM.out.below hb7 HCM.out.lt)
  clear hb7 c0 z0 c1 z1 f1 c2 f2 z2
  have c0 := HM.out.tl.tl.c
  have z0 := HM.out.tl.tl.z
  have c1 := HM.out.tl.c
  have z1 := HM.out.tl.z
  have f1 := HM.out.tl.f
  have c2 := HM.out.c
  have f2 := HM.out.f
  have z2 := HM.out.z
  have hge : u2.heap.size ≤ w.heap.size + 1 := by have := HU2.out.2; omega
  have hg3 : g ≠ w.heap.size + 1 := by have := HG.out; omega
  go_wp2_with (with_reducible change bodyPost _ _ _ Exit.ret _ _; go_loud (refine bodyPost_ret (v := .tuple #[.agg #[.int .i64 y0, .int .i64 y1, .int .i64 y2, .int .i64 y3, .int .i64 y4, .int .i64 y5, .int .i64 y6], .int .i64 0]) (by simp [results, Tryd.results61, go_sem, *]) rfl ⟨rfl, turned_mk (turn_trans HU2.out.1 (turn_of_below ?_ _)) ?_⟩))
  · repeat first | with_reducible exact HM.out.below | with_reducible refine below_set ?_ hge _ _
  · repeat first | with_reducible exact HCM.out | with_reducible refine CurAt.far ?_ hg3 _ _
set_option maxHeartbeats 1000000 in
theorem place_2o_stop (g : Nat) (bs : List Int) (sz a n : Nat) (mod rm x b p0 p1 p2 p3 p4 p5 p6 : Int) (hr : 0 ≤ rm ∧ rm ≤ 7) (hx : 0 ≤ x ∧ x ≤ 1) (hb : 0 ≤ b ∧ b ≤ 1) (HR : Hid (regsF mod rm x b ((bs.take sz).drop a) = (0, ⟨p0, p1, p2, p3, p4, p5, p6⟩, n))) (h5 : ¬ p0 = 5) (hl : a + n ≤ sz) (hl2 : sz < a + n + 4) (w : World) (hc : CurAt w g bs sz a 0) (hsz : sz ≤ 15) (ha : a ≤ sz) :
    Calls Tryd.prog 61 #[.agg #[.pointer (some ⟨g, 0, none⟩), .int .i64 x, .int .i64 b], .int .i64 mod, .int .i64 rm] w fun e w' => e = .returned (.tuple #[.agg #[.int .i64 0, .int .i64 0, .int .i64 0, .int .i64 0, .int .i64 0, .int .i64 0, .int .i64 0], .int .i64 9]) ∧ w.grownBy w' (some g) := by
  have HC := hid hc
  have HG := hid hc.lt
  clear hc
  have HO := hid (((Own.nil w).alloc w.heap.size #[.pointer (some ⟨g, 0, none⟩), .int .i64 x, .int .i64 b] 70 rfl).alloc (w.heap.size + 1) #[.int .i64 0, .int .i64 0, .int .i64 0, .int .i64 0, .int .i64 0, .int .i64 0, .int .i64 0] 25 (by simp))
  go_enter Tryd.func61, Tryd.ntmps61
  go_wp2_with fail
  generalize hW1 : (w.alloc (.cells #[.pointer (some ⟨g, 0, none⟩), .int .i64 x, .int .i64 b] 70)).alloc (.cells #[.int .i64 0, .int .i64 0, .int .i64 0, .int .i64 0, .int .i64 0, .int .i64 0, .int .i64 0] 25) = W1 at *
  have HC1 := hid (HC.out.below HO.out.below HG.out)
  refine (regs_any g bs sz a mod rm x b hr hx hb _ HC1.out hsz ha).mono ?_
  rw [HR.out]
  intro e wb hans
  obtain ⟨rfl, hg1, hc1⟩ := hans.parts
  clear hans
  obtain ⟨u, hu1, hu2, ho⟩ := HO.out.turn hg1 HG.out
  have HU := hid (And.intro hu1 hu2)
  have HO := hid ho
  have HC := hid hc1
  clear hg1 hc1 hu1 hu2 ho HC1 hW1
  have c0 := HO.out.tl.c
  have z0 := HO.out.tl.z
  have c1 := HO.out.c
  have z1 := HO.out.z
  have f1 := HO.out.f
  have hzb := HO.out.z
  have hn1 : ¬ wb.heap.size = w.heap.size + 1 := by omega
  have hn2 : ¬ w.heap.size + 1 = wb.heap.size := by omega
  have hn3 : ¬ w.heap.size = wb.heap.size := by omega
  have hn4 : ¬ wb.heap.size = w.heap.size := by omega
  have HC := hid (HC.out rfl)
  have hgw : w.heap.size ≠ g := by have := HG.out; omega
  have hgb : wb.heap.size ≠ g := by have := HG.out; omega
  have HM := hid (HO.out.alloc wb.heap.size #[.int .i64 p0, .int .i64 p1, .int .i64 p2, .int .i64 p3, .int .i64 p4, .int .i64 p5, .int .i64 p6] 25 rfl)
  have HCM := hid (HC.out.alloc (.cells #[.int .i64 p0, .int .i64 p1, .int .i64 p2, .int .i64 p3, .int .i64 p4, .int .i64 p5, .int .i64 p6] 25))
  have a0 := HO.out.tl.a
  have a1 := HO.out.a
  have b1 := HO.out.fa
  go_wp2_with fail
  have hS := show (wb.alloc (.cells #[.int .i64 p0, .int .i64 p1, .int .i64 p2, .int .i64 p3, .int .i64 p4, .int .i64 p5, .int .i64 p6] 25)).drew.cell? ⟨w.heap.size, 0, none⟩ = some (.pointer (some ⟨g, 0, none⟩)) from HM.out.tl.tl.c 0
  refine wp_region_held_drew (S := (fun w' => w'.cell? ⟨w.heap.size, 0, none⟩ = some (.pointer (some ⟨g, 0, none⟩)))) (by kernel_rfl) hS (fun hHeld => ?_)
  refine wpAnyH_take (i := 1) (v := ?_) (show _ = some (Oper.mk _ _ _ _ _ _) from rfl) (by kernel_rfl) (by kernel_rfl) (by kernel_rfl) (fun _ _ _ h => h) (Or.inl ⟨by kernel_rfl, ?_⟩) (by assumption) ?_
  rotate_left
  · intro w hSw; (try dsimp only at hSw); (try obtain ⟨hSw1, hSw2⟩ := hSw); go_simp; try with_reducible rfl
  simp only [Act.put, List.setIfInBounds_toArray, List.set_cons_zero, List.set_cons_succ]
  refine wpAnyH_take (i := 5) (v := ?_) (show _ = some (Oper.mk _ _ _ _ _ _) from rfl) (by kernel_rfl) (by kernel_rfl) (by kernel_rfl) (fun _ _ _ h => h) (Or.inl ⟨by kernel_rfl, ?_⟩) (by assumption) ?_
  rotate_left
  · intro w hSw; (try dsimp only at hSw); (try obtain ⟨hSw1, hSw2⟩ := hSw); go_simp; try with_reducible rfl
  simp only [Act.put, List.setIfInBounds_toArray, List.set_cons_zero, List.set_cons_succ]
  refine wpAnyH_take (i := 6) (v := ?_) (show _ = some (Oper.mk _ _ _ _ _ _) from rfl) (by kernel_rfl) (by kernel_rfl) (by kernel_rfl) (fun _ _ _ h => h) (Or.inl ⟨by kernel_rfl, ?_⟩) (by assumption) ?_
  rotate_left
  · intro w hSw; (try dsimp only at hSw); (try obtain ⟨hSw1, hSw2⟩ := hSw); go_simp; try with_reducible rfl
  simp only [Act.put, List.setIfInBounds_toArray, List.set_cons_zero, List.set_cons_succ]
  refine wpAnyH_ready (rs := [0]) (by kernel_rfl) (by simp) ?_
  refine AllReadyH.cons (show _ = some (Oper.mk _ _ _ _ _ _) from rfl) (fun K hK => ?_) AllReadyH.nil
  go_simp
  go_at_call 71
  refine (disps_any _).mono ?_
  rintro e w3 ⟨gd, ad, bd, rfl, hbel, h3⟩
  obtain ⟨hx3, hy3, hz3⟩ := bel_cells hbel wb.heap.size (by first | assumption | (simp; done))
  have HT := hid h3
  have HC3 := hid (HCM.out.below ((Below.refl _ _).drew.trans hbel) HCM.out.lt)
  have HB3 := hid hbel
  have hk3 : w3.cell? ⟨gd, 5, none⟩ = some (.func (.func 96) #[] #[.pointer (some ⟨bd, 0, none⟩)]) := cell_of_row w3 gd 5 _ _ _ h3.kg
  have hgd : gd ≠ g := by have h1 := h3.ge.1; have h2 := HCM.out.lt; simp only [World.size_drew] at h1; omega
  have hgd2 : gd ≠ wb.heap.size := by have h1 := h3.ge.1; have h2 := HM.out.z; simp only [World.size_drew] at h1; omega
  clear h3
  go_wp2_with fail
  have hS3 := box_call hHeld hbel
  refine hK.out _ _ hS3 (fun _ => ?_)
  clear hK K
  have hS2 := And.intro hS3 hk3
  refine wpAnyH_strong (S' := (fun w' => w'.cell? ⟨w.heap.size, 0, none⟩ = some (.pointer (some ⟨g, 0, none⟩)) ∧ w'.cell? ⟨gd, 5, none⟩ = some (.func (.func 96) #[] #[.pointer (some ⟨bd, 0, none⟩)]))) (fun _ h => h.1) _ _ _ _ ?_
  refine wpAnyH_take (i := 2) (v := ?_) (show _ = some (Oper.mk _ _ _ _ _ _) from rfl) (by kernel_rfl) (by kernel_rfl) (by kernel_rfl) (fun _ _ _ h => h) (Or.inl ⟨by kernel_rfl, ?_⟩) (by assumption) ?_
  rotate_left
  · intro w hSw; (try dsimp only at hSw); (try obtain ⟨hSw1, hSw2⟩ := hSw); go_simp; try with_reducible rfl
  simp only [Act.put, List.setIfInBounds_toArray, List.set_cons_zero, List.set_cons_succ]
  refine wpAnyH_take (i := 3) (v := ?_) (show _ = some (Oper.mk _ _ _ _ _ _) from rfl) (by kernel_rfl) (by kernel_rfl) (by kernel_rfl) (fun _ _ _ h => h) (Or.inl ⟨by kernel_rfl, ?_⟩) (by assumption) ?_
  rotate_left
  · intro w hSw; (try dsimp only at hSw); (try obtain ⟨hSw1, hSw2⟩ := hSw); go_simp; try with_reducible rfl
  simp only [Act.put, List.setIfInBounds_toArray, List.set_cons_zero, List.set_cons_succ]
  refine wpAnyH_take (i := 4) (v := ?_) (show _ = some (Oper.mk _ _ _ _ _ _) from rfl) (by kernel_rfl) (by kernel_rfl) (by kernel_rfl) (fun _ _ _ h => h) (Or.inl ⟨by kernel_rfl, ?_⟩) (by assumption) ?_
  rotate_left
  · intro w hSw; (try dsimp only at hSw); (try obtain ⟨hSw1, hSw2⟩ := hSw); go_simp; try with_reducible rfl
  simp only [Act.put, List.setIfInBounds_toArray, List.set_cons_zero, List.set_cons_succ]
  refine wpAnyH_ready (rs := [7]) (by kernel_rfl) (by simp) ?_
  refine AllReadyH.cons (show _ = some (Oper.mk _ _ _ _ _ _) from rfl) (fun K hK => ?_) AllReadyH.nil
  go_simp
  go_at_call 96
  refine (readN_stop g bd bs sz (a + n) 4 (.inr rfl) _ HT.out.kb HC3.out hsz hl hl2).mono ?_
  rintro e w4 ⟨rfl, hturn, hc4⟩
  obtain ⟨hx4, hy4, hz4⟩ := turn_cells hturn wb.heap.size (by first | assumption | omega) hgb
  have HC4 := hid hc4
  have HT4 := hid hturn
  clear hc4
  go_wp2_with fail
  have hS4 := And.intro (box_turn hS2.1 hturn hgw) (box_turn hS2.2 hturn hgd)
  refine hK.out _ _ hS4 (fun _ => ?_)
  clear hK K
  refine wpAnyH_take (i := 8) (v := ?_) (show _ = some (Oper.mk _ _ _ _ _ _) from rfl) (by kernel_rfl) (by kernel_rfl) (by kernel_rfl) (fun _ _ _ h => h) (Or.inl ⟨by kernel_rfl, ?_⟩) (by assumption) ?_
  rotate_left
  · intro w hSw; (try dsimp only at hSw); (try obtain ⟨hSw1, hSw2⟩ := hSw); go_simp; try with_reducible rfl
  simp only [Act.put, List.setIfInBounds_toArray, List.set_cons_zero, List.set_cons_succ]
  refine wpAnyH_ready (rs := [9]) (by kernel_rfl) (by simp) ?_
  refine AllReadyH.cons (show _ = some (Oper.mk _ _ _ _ _ _) from rfl) (fun K hK => ?_) AllReadyH.nil
  go_simp
  refine hK.out _ _ (And.intro (box_set hS4.1 hn3) (box_set hS4.2 hgd2)) (fun _ => ?_)
  clear hK K
  refine wpAnyH_done (by kernel_rfl) ?_ _
  obtain ⟨u2, hu1, hu2, ho⟩ := (HM.out.drew.call HB3.out).turn2 HT4.out HU.out.2 HG.out
  have HU2 := hid (And.intro (turn_trans HU.out.1 hu1) hu2)
  have HM := hid (ho.set 5 (.int .i64 0))
  clear hu1 hu2 ho hturn HT4
  have HCM := hid (HC4.out.far (show g ≠ wb.heap.size from fun e => hgb e.symm) 5 (.int .i64 0))
  clear hS hHeld hS3 hS2 hbel hx3 hy3 hz3 hk3 a0 a1 b1 hS4 hx4 hy4 hz4
  generalize w4.setCell ⟨wb.heap.size, 5, none⟩ (.int .i64 0) = wm at *
  clear c0 z0 c1 z1 f1
  have c0 := HM.out.tl.tl.c
  have z0 := HM.out.tl.tl.z
  have c1 := HM.out.tl.c
  have z1 := HM.out.tl.z
  have f1 := HM.out.tl.f
  have c2 := HM.out.c
  have f2 := HM.out.f
  have z2 := HM.out.z
  go_wp2_with fail
  refine (err_any g bs sz _ _ _ HCM.out).mono ?_
  rintro e w6 ⟨rfl, rfl⟩
  have hge : u2.heap.size ≤ w.heap.size + 1 := by have := HU2.out.2; omega
  have hg3 : g ≠ w.heap.size + 1 := by have := HG.out; omega
  go_wp2_with (with_reducible change bodyPost _ _ _ Exit.ret _ _; go_loud (refine bodyPost_ret (v := .tuple #[.agg #[.int .i64 0, .int .i64 0, .int .i64 0, .int .i64 0, .int .i64 0, .int .i64 0, .int .i64 0], .int .i64 9]) (by simp [results, Tryd.results61, go_sem, *]) rfl ⟨rfl, turn_trans HU2.out.1 (turn_of_below ?_ _)⟩))
  · repeat first | with_reducible exact HM.out.below | with_reducible refine below_set ?_ hge _ _
end Go.Proofs.YtiiepdgpnnjpiaaDoor
