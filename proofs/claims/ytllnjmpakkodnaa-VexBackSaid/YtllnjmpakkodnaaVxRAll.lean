/-
  All: the document's.
-/
import Derived.Test.YtllnjmpakkodnaaVxRLay
import Derived.Test.YtllnjmpakkodnaaVxRCheck
namespace Go.Proofs.Ytllnjmpakkodnaa
open Go.RowKit
set_option maxRecDepth 100000

/-- What the document's All answers. -/
def RVAll (q : Vx) (any : Bool) (w : World) (e : Ending) (w' : World) : Prop :=
  ∃ v Z, e = .returned (.tuple #[v, .int .i64 (errF q)]) ∧ Below w.heap.size w w' ∧ Lists w' w.heap.size v Z ∧ Z.map Zr.bs = waysF q any
theorem rok_w {r x b m n v l p k : Int} (h : okF ⟨r, x, b, m, n, v, l, p⟩ = true) (hk : k = 0 ∨ k = 1) : okF ⟨r, x, b, m, k, v, l, p⟩ = true := by
  obtain ⟨h1, h2, h3, h4, h5, h6, h7, h8⟩ := ok_parts h
  exact ok_of ⟨h1, h2, h3, hk, h5, h6, h7, h8⟩
theorem rerr_ok {q : Vx} (h : okF q = true) : errF q = 0 := by simp [errF, h]
theorem byb_drew {w : World} {g : Nat} {t : TypeId} {zs : List Int} (h : ByB w g t zs) : ByB w.drew g t zs := h
theorem cell_drew {w : World} {q : Addr} {v : Option Value} (h : w.cell? q = v) : w.drew.cell? q = v := h
theorem rall_no (r x b m n v l p : Int) (any : Bool) (h : okF ⟨r, x, b, m, n, v, l, p⟩ = false) (w : World) :
    Calls Try.prog 8 #[.agg (VC r x b m n v l p), .bool any] w (RVAll ⟨r, x, b, m, n, v, l, p⟩ any w) := by
  have HE := hid (show errF ⟨r, x, b, m, n, v, l, p⟩ = 2 by simp [errF, h])
  have HW := hid (show waysF ⟨r, x, b, m, n, v, l, p⟩ any = [] by simp [waysF, h])
  have HO := hid ((Own.nil w).alloc w.heap.size (VC r x b m n v l p) 23 rfl)
  clear h
  go_enter Try.func8, Try.ntmps8
  go_wp2_with (go_at_call 10; refine (rcheck_of HE.out _).mono ?_; rintro e w1 ⟨rfl, hb1⟩; have HO1 := hid (HO.out.call hb1); clear hb1)
  go_ret2
  exact ⟨_, [], by rw [HE.out]; rfl, HO1.out.below, Lists.nil _ _, by rw [HW.out]; rfl⟩
set_option maxHeartbeats 2000000 in
theorem rall_f1 (r v l p : Int) (HK : Hid (okF ⟨r, 0, 0, 1, 0, v, l, p⟩ = true)) (w : World) :
    Calls Try.prog 8 #[.agg (VC r 0 0 1 0 v l p), .bool false] w (RVAll ⟨r, 0, 0, 1, 0, v, l, p⟩ false w) := by
  have HE := hid (rerr_ok HK.out)
  have HK0 := hid (HK.out)
  obtain ⟨hr, -, -, -, hl, -, hv, -⟩ := ok_parts HK.out
  simp only at hr hl hv
  obtain ⟨z, hz⟩ : ∃ z, ppF p = z := ⟨_, rfl⟩
  have hz3 := ppF_range p
  rw [hz] at hz3
  have HZ := hid hz
  have hr2 : 0 ≤ r ∧ r ≤ 1 := by omega
  have hl2 : 0 ≤ l ∧ l ≤ 1 := by omega
  clear hr hl hz
  obtain ⟨r0, r1⟩ := hr2
  obtain ⟨l0, l1⟩ := hl2
  obtain ⟨v0, v1⟩ := hv
  obtain ⟨zz0, zz1⟩ := hz3
  have q0 : IntKind.i64.wrap (1 - r) = 1 - r := IntWalk.i64_in _ (by omega)
  have q1 : IntKind.i64.wrap (128 * (1 - r)) = 128 * (1 - r) := IntWalk.i64_in _ (by omega)
  have q2 : IntKind.i64.wrap (15 - v) = 15 - v := IntWalk.i64_in _ (by omega)
  have q3 : IntKind.i64.wrap (8 * (15 - v)) = 8 * (15 - v) := IntWalk.i64_in _ (by omega)
  have q4 : IntKind.i64.wrap (128 * (1 - r) + 8 * (15 - v)) = 128 * (1 - r) + 8 * (15 - v) := IntWalk.i64_in _ (by omega)
  have q5 : IntKind.i64.wrap (4 * l) = 4 * l := IntWalk.i64_in _ (by omega)
  have q6 : IntKind.i64.wrap (128 * (1 - r) + 8 * (15 - v) + 4 * l) = 128 * (1 - r) + 8 * (15 - v) + 4 * l := IntWalk.i64_in _ (by omega)
  have q7 : IntKind.i64.wrap (128 * (1 - r) + 8 * (15 - v) + 4 * l + z) = 128 * (1 - r) + 8 * (15 - v) + 4 * l + z := IntWalk.i64_in _ (by omega)
  have u0 : IntKind.u8.wrap (128 * (1 - r) + 8 * (15 - v) + 4 * l + z) = 128 * (1 - r) + 8 * (15 - v) + 4 * l + z := by rw [IntKind.wrap_u8]; omega
  have HO := hid ((Own.nil w).alloc w.heap.size (VC r 0 0 1 0 v l p) 23 rfl)
  go_enter Try.func8, Try.ntmps8
  go_wp2_with (go_at_call 10; refine (rcheck_of HE.out _).mono ?_; rintro e w1 ⟨rfl, hb1⟩; have HO1 := hid (HO.out.call hb1); clear hb1; have c1 := HO1.out.c; have z1 := HO1.out.z; have f1 := HO1.out.f)
  obtain ⟨W, rfl⟩ : ∃ W : World, W = w1 := ⟨_, rfl⟩
  have hS := Old.of (Below.refl W.heap.size W)
  have hzW : w.heap.size < W.heap.size := HO1.out.z
  go_region_held_law (fun w' => Below W.heap.size W w' ∧ ∀ b o, b < W.heap.size → w'.cell? ⟨b, o, none⟩ = W.cell? ⟨b, o, none⟩) (first | with_reducible assumption | exact old_drew ‹_› | exact old_drew (Old.of (Below.refl W.heap.size W)) | exact old_drew (old_alloc (Old.of (Below.refl W.heap.size W)) _) | exact old_drew (old_alloc (old_alloc (Old.of (Below.refl W.heap.size W)) _) _) | exact Old.of hbel) (first | (go_at_call 24; (with_reducible refine (rpp_of HZ.out _).mono ?_); rintro e w2 ⟨rfl, rfl⟩) | ((refine step_append_list rfl _ _ rfl (w.heap.size + 1) (.slice none 0 0) [] ⟨W.heap.size, [197, 128 * (1 - r) + 8 * (15 - v) + 4 * l + z]⟩ rfl (Lists.nil _ _) (by simp) (W.heap.size + 1) 1 rfl (cell_drew (cell_box' _ _ _ (by simp))) (byb_drew (byb_alloc (byb_new (zs := [197, 128 * (1 - r) + 8 * (15 - v) + 4 * l + z]) rfl) _)) (show w.heap.size + 1 ≤ W.heap.size from hzW) (by simp) (by simp; omega) ?_; intro g' n' c' w11 hl11 hgr11; have hbel := (‹Below W.heap.size W _ ∧ _›).1.grown hgr11.out (‹Below W.heap.size W _ ∧ _›).1.size (fun k hk => by simp [Value.ownBlock] at hk); have HL11 := hid hl11.out; clear hl11 hgr11)))
  have HO11 := hid (HO1.out.call hbel)
  have c11 := HO11.out.c
  have z11 := HO11.out.z
  have f11 := HO11.out.f
  go_wp2_with (first
    | (go_at_call 25; (with_reducible refine (rthree_any r 0 0 1 0 v l p 0 HK0.out (.inl rfl) _).mono ?_); rintro e w12 ⟨g12, hg12, rfl, hb12, hk12⟩; have HO12 := hid (HO11.out.call hb12); have HG12 := hid (Nat.lt_of_lt_of_le HO11.out.z hg12); have HN12 := hid (HL11.out.not_new hg12); have HL12 := hid (HL11.out.below hb12); have HB12 := hid hk12; clear hb12 hk12 hg12; have c12 := HO12.out.c; have z12 := HO12.out.z; have f12 := HO12.out.f)
    | (at_builtin; refine wpList_append_list rfl _ _ rfl (w.heap.size + 1) (.slice (some ⟨g', 0, none⟩) n' c') [⟨W.heap.size, [197, 128 * (1 - r) + 8 * (15 - v) + 4 * l + z]⟩] ⟨g12, threeB ⟨r, 0, 0, 1, 0, v, l, p⟩ 0⟩ rfl (HL12.out.alloc _) (by simp) w12.heap.size 1 rfl (cell_box _ _ _) (byb_alloc HB12.out _) HG12.out HN12.out (by simp; have := HO12.out.z; omega) ?_; intro v13 w13 hl13 hgr13; have HO13 := hid (own_app (own_box HO12.out _) (HL12.out.alloc _) hgr13.out); have HL13 := hid hl13.out; clear hl13 hgr13; have c13 := HO13.out.c; have z13 := HO13.out.z; have f13 := HO13.out.f))
  go_ret2
  exact ⟨_, _, by rw [HE.out]; rfl, HO13.out.below, HL13.out.mono (Nat.le_succ _), by simp [waysF, HK.out, shortF, wF, threeB, twoB, HZ.out]⟩
set_option maxHeartbeats 2000000 in
theorem rall_f2 (r b m n v l p : Int) (HK : Hid (okF ⟨r, 1, b, m, n, v, l, p⟩ = true)) (w : World) :
    Calls Try.prog 8 #[.agg (VC r 1 b m n v l p), .bool false] w (RVAll ⟨r, 1, b, m, n, v, l, p⟩ false w) := by
  have HE := hid (rerr_ok HK.out)
  have HK0 := hid (HK.out)
  have HN := hid (show (n : Int) = 0 ∨ (n : Int) = 1 from (ok_parts HK0.out).2.2.2.1)
  have HO := hid ((Own.nil w).alloc w.heap.size (VC r 1 b m n v l p) 23 rfl)
  go_enter Try.func8, Try.ntmps8
  go_wp2_with (first
    | (go_at_call 10; refine (rcheck_of HE.out _).mono ?_; rintro e w1 ⟨rfl, hb1⟩; have HO1 := hid (HO.out.call hb1); clear hb1; have c1 := HO1.out.c; have z1 := HO1.out.z; have f1 := HO1.out.f)
    | (go_at_call 25; (with_reducible refine (rthree_any r 1 b m n v l p n HK0.out HN.out _).mono ?_); rintro e w12 ⟨g12, hg12, rfl, hb12, hk12⟩; have HO12 := hid (HO1.out.call hb12); have HG12 := hid (Nat.lt_of_lt_of_le HO1.out.z hg12); have HB12 := hid hk12; clear hb12 hk12 hg12; have c12 := HO12.out.c; have z12 := HO12.out.z; have f12 := HO12.out.f)
    | (at_builtin; refine wpList_append_list rfl _ _ rfl (w.heap.size + 1) (.slice none 0 0) [] ⟨g12, threeB ⟨r, 1, b, m, n, v, l, p⟩ n⟩ rfl (Lists.nil _ _) (by simp) w12.heap.size 1 rfl (cell_box _ _ _) (byb_alloc HB12.out _) HG12.out (by simp) (by simp; have := HO12.out.z; omega) ?_; intro v13 w13 hl13 hgr13; have HO13 := hid (own_app (own_box HO12.out _) (Lists.nil _ _) hgr13.out); have HL13 := hid hl13.out; clear hl13 hgr13; have c13 := HO13.out.c; have z13 := HO13.out.z; have f13 := HO13.out.f))
  go_ret2
  exact ⟨_, _, by rw [HE.out]; rfl, HO13.out.below, HL13.out.mono (Nat.le_succ _), by simp [waysF, HK.out, shortF, wF, threeB]⟩
set_option maxHeartbeats 2000000 in
theorem rall_f3 (r m n v l p : Int) (HK : Hid (okF ⟨r, 0, 1, m, n, v, l, p⟩ = true)) (w : World) :
    Calls Try.prog 8 #[.agg (VC r 0 1 m n v l p), .bool false] w (RVAll ⟨r, 0, 1, m, n, v, l, p⟩ false w) := by
  have HE := hid (rerr_ok HK.out)
  have HK0 := hid (HK.out)
  have HN := hid (show (n : Int) = 0 ∨ (n : Int) = 1 from (ok_parts HK0.out).2.2.2.1)
  have HO := hid ((Own.nil w).alloc w.heap.size (VC r 0 1 m n v l p) 23 rfl)
  go_enter Try.func8, Try.ntmps8
  go_wp2_with (first
    | (go_at_call 10; refine (rcheck_of HE.out _).mono ?_; rintro e w1 ⟨rfl, hb1⟩; have HO1 := hid (HO.out.call hb1); clear hb1; have c1 := HO1.out.c; have z1 := HO1.out.z; have f1 := HO1.out.f)
    | (go_at_call 25; (with_reducible refine (rthree_any r 0 1 m n v l p n HK0.out HN.out _).mono ?_); rintro e w12 ⟨g12, hg12, rfl, hb12, hk12⟩; have HO12 := hid (HO1.out.call hb12); have HG12 := hid (Nat.lt_of_lt_of_le HO1.out.z hg12); have HB12 := hid hk12; clear hb12 hk12 hg12; have c12 := HO12.out.c; have z12 := HO12.out.z; have f12 := HO12.out.f)
    | (at_builtin; refine wpList_append_list rfl _ _ rfl (w.heap.size + 1) (.slice none 0 0) [] ⟨g12, threeB ⟨r, 0, 1, m, n, v, l, p⟩ n⟩ rfl (Lists.nil _ _) (by simp) w12.heap.size 1 rfl (cell_box _ _ _) (byb_alloc HB12.out _) HG12.out (by simp) (by simp; have := HO12.out.z; omega) ?_; intro v13 w13 hl13 hgr13; have HO13 := hid (own_app (own_box HO12.out _) (Lists.nil _ _) hgr13.out); have HL13 := hid hl13.out; clear hl13 hgr13; have c13 := HO13.out.c; have z13 := HO13.out.z; have f13 := HO13.out.f))
  go_ret2
  exact ⟨_, _, by rw [HE.out]; rfl, HO13.out.below, HL13.out.mono (Nat.le_succ _), by simp [waysF, HK.out, shortF, wF, threeB]⟩
set_option maxHeartbeats 2000000 in
theorem rall_f4 (r m v l p : Int) (HK : Hid (okF ⟨r, 0, 0, m, 1, v, l, p⟩ = true)) (w : World) :
    Calls Try.prog 8 #[.agg (VC r 0 0 m 1 v l p), .bool false] w (RVAll ⟨r, 0, 0, m, 1, v, l, p⟩ false w) := by
  have HE := hid (rerr_ok HK.out)
  have HK0 := hid (HK.out)
  have HO := hid ((Own.nil w).alloc w.heap.size (VC r 0 0 m 1 v l p) 23 rfl)
  go_enter Try.func8, Try.ntmps8
  go_wp2_with (first
    | (go_at_call 10; refine (rcheck_of HE.out _).mono ?_; rintro e w1 ⟨rfl, hb1⟩; have HO1 := hid (HO.out.call hb1); clear hb1; have c1 := HO1.out.c; have z1 := HO1.out.z; have f1 := HO1.out.f)
    | (go_at_call 25; (with_reducible refine (rthree_any r 0 0 m 1 v l p 1 HK0.out (.inr rfl) _).mono ?_); rintro e w12 ⟨g12, hg12, rfl, hb12, hk12⟩; have HO12 := hid (HO1.out.call hb12); have HG12 := hid (Nat.lt_of_lt_of_le HO1.out.z hg12); have HB12 := hid hk12; clear hb12 hk12 hg12; have c12 := HO12.out.c; have z12 := HO12.out.z; have f12 := HO12.out.f)
    | (at_builtin; refine wpList_append_list rfl _ _ rfl (w.heap.size + 1) (.slice none 0 0) [] ⟨g12, threeB ⟨r, 0, 0, m, 1, v, l, p⟩ 1⟩ rfl (Lists.nil _ _) (by simp) w12.heap.size 1 rfl (cell_box _ _ _) (byb_alloc HB12.out _) HG12.out (by simp) (by simp; have := HO12.out.z; omega) ?_; intro v13 w13 hl13 hgr13; have HO13 := hid (own_app (own_box HO12.out _) (Lists.nil _ _) hgr13.out); have HL13 := hid hl13.out; clear hl13 hgr13; have c13 := HO13.out.c; have z13 := HO13.out.z; have f13 := HO13.out.f))
  go_ret2
  exact ⟨_, _, by rw [HE.out]; rfl, HO13.out.below, HL13.out.mono (Nat.le_succ _), by simp [waysF, HK.out, shortF, wF, threeB]⟩
set_option maxHeartbeats 2000000 in
theorem rall_f5 (r v l p : Int) (HK : Hid (okF ⟨r, 0, 0, 2, 0, v, l, p⟩ = true)) (w : World) :
    Calls Try.prog 8 #[.agg (VC r 0 0 2 0 v l p), .bool false] w (RVAll ⟨r, 0, 0, 2, 0, v, l, p⟩ false w) := by
  have HE := hid (rerr_ok HK.out)
  have HK0 := hid (HK.out)
  have HO := hid ((Own.nil w).alloc w.heap.size (VC r 0 0 2 0 v l p) 23 rfl)
  go_enter Try.func8, Try.ntmps8
  go_wp2_with (first
    | (go_at_call 10; refine (rcheck_of HE.out _).mono ?_; rintro e w1 ⟨rfl, hb1⟩; have HO1 := hid (HO.out.call hb1); clear hb1; have c1 := HO1.out.c; have z1 := HO1.out.z; have f1 := HO1.out.f)
    | (go_at_call 25; (with_reducible refine (rthree_any r 0 0 2 0 v l p 0 HK0.out (.inl rfl) _).mono ?_); rintro e w12 ⟨g12, hg12, rfl, hb12, hk12⟩; have HO12 := hid (HO1.out.call hb12); have HG12 := hid (Nat.lt_of_lt_of_le HO1.out.z hg12); have HB12 := hid hk12; clear hb12 hk12 hg12; have c12 := HO12.out.c; have z12 := HO12.out.z; have f12 := HO12.out.f)
    | (at_builtin; refine wpList_append_list rfl _ _ rfl (w.heap.size + 1) (.slice none 0 0) [] ⟨g12, threeB ⟨r, 0, 0, 2, 0, v, l, p⟩ 0⟩ rfl (Lists.nil _ _) (by simp) w12.heap.size 1 rfl (cell_box _ _ _) (byb_alloc HB12.out _) HG12.out (by simp) (by simp; have := HO12.out.z; omega) ?_; intro v13 w13 hl13 hgr13; have HO13 := hid (own_app (own_box HO12.out _) (Lists.nil _ _) hgr13.out); have HL13 := hid hl13.out; clear hl13 hgr13; have c13 := HO13.out.c; have z13 := HO13.out.z; have f13 := HO13.out.f))
  go_ret2
  exact ⟨_, _, by rw [HE.out]; rfl, HO13.out.below, HL13.out.mono (Nat.le_succ _), by simp [waysF, HK.out, shortF, wF, threeB]⟩
set_option maxHeartbeats 2000000 in
theorem rall_f6 (r v l p : Int) (HK : Hid (okF ⟨r, 0, 0, 3, 0, v, l, p⟩ = true)) (w : World) :
    Calls Try.prog 8 #[.agg (VC r 0 0 3 0 v l p), .bool false] w (RVAll ⟨r, 0, 0, 3, 0, v, l, p⟩ false w) := by
  have HE := hid (rerr_ok HK.out)
  have HK0 := hid (HK.out)
  have HO := hid ((Own.nil w).alloc w.heap.size (VC r 0 0 3 0 v l p) 23 rfl)
  go_enter Try.func8, Try.ntmps8
  go_wp2_with (first
    | (go_at_call 10; refine (rcheck_of HE.out _).mono ?_; rintro e w1 ⟨rfl, hb1⟩; have HO1 := hid (HO.out.call hb1); clear hb1; have c1 := HO1.out.c; have z1 := HO1.out.z; have f1 := HO1.out.f)
    | (go_at_call 25; (with_reducible refine (rthree_any r 0 0 3 0 v l p 0 HK0.out (.inl rfl) _).mono ?_); rintro e w12 ⟨g12, hg12, rfl, hb12, hk12⟩; have HO12 := hid (HO1.out.call hb12); have HG12 := hid (Nat.lt_of_lt_of_le HO1.out.z hg12); have HB12 := hid hk12; clear hb12 hk12 hg12; have c12 := HO12.out.c; have z12 := HO12.out.z; have f12 := HO12.out.f)
    | (at_builtin; refine wpList_append_list rfl _ _ rfl (w.heap.size + 1) (.slice none 0 0) [] ⟨g12, threeB ⟨r, 0, 0, 3, 0, v, l, p⟩ 0⟩ rfl (Lists.nil _ _) (by simp) w12.heap.size 1 rfl (cell_box _ _ _) (byb_alloc HB12.out _) HG12.out (by simp) (by simp; have := HO12.out.z; omega) ?_; intro v13 w13 hl13 hgr13; have HO13 := hid (own_app (own_box HO12.out _) (Lists.nil _ _) hgr13.out); have HL13 := hid hl13.out; clear hl13 hgr13; have c13 := HO13.out.c; have z13 := HO13.out.z; have f13 := HO13.out.f))
  go_ret2
  exact ⟨_, _, by rw [HE.out]; rfl, HO13.out.below, HL13.out.mono (Nat.le_succ _), by simp [waysF, HK.out, shortF, wF, threeB]⟩
set_option maxHeartbeats 2000000 in
theorem rall_t1 (r n v l p : Int) (HK : Hid (okF ⟨r, 0, 0, 1, n, v, l, p⟩ = true)) (w : World) :
    Calls Try.prog 8 #[.agg (VC r 0 0 1 n v l p), .bool true] w (RVAll ⟨r, 0, 0, 1, n, v, l, p⟩ true w) := by
  have HE := hid (rerr_ok HK.out)
  have HK0 := hid (rok_w (k := 0) HK.out (.inl rfl))
  obtain ⟨hr, -, -, -, hl, -, hv, -⟩ := ok_parts HK.out
  simp only at hr hl hv
  obtain ⟨z, hz⟩ : ∃ z, ppF p = z := ⟨_, rfl⟩
  have hz3 := ppF_range p
  rw [hz] at hz3
  have HZ := hid hz
  have hr2 : 0 ≤ r ∧ r ≤ 1 := by omega
  have hl2 : 0 ≤ l ∧ l ≤ 1 := by omega
  clear hr hl hz
  obtain ⟨r0, r1⟩ := hr2
  obtain ⟨l0, l1⟩ := hl2
  obtain ⟨v0, v1⟩ := hv
  obtain ⟨zz0, zz1⟩ := hz3
  have q0 : IntKind.i64.wrap (1 - r) = 1 - r := IntWalk.i64_in _ (by omega)
  have q1 : IntKind.i64.wrap (128 * (1 - r)) = 128 * (1 - r) := IntWalk.i64_in _ (by omega)
  have q2 : IntKind.i64.wrap (15 - v) = 15 - v := IntWalk.i64_in _ (by omega)
  have q3 : IntKind.i64.wrap (8 * (15 - v)) = 8 * (15 - v) := IntWalk.i64_in _ (by omega)
  have q4 : IntKind.i64.wrap (128 * (1 - r) + 8 * (15 - v)) = 128 * (1 - r) + 8 * (15 - v) := IntWalk.i64_in _ (by omega)
  have q5 : IntKind.i64.wrap (4 * l) = 4 * l := IntWalk.i64_in _ (by omega)
  have q6 : IntKind.i64.wrap (128 * (1 - r) + 8 * (15 - v) + 4 * l) = 128 * (1 - r) + 8 * (15 - v) + 4 * l := IntWalk.i64_in _ (by omega)
  have q7 : IntKind.i64.wrap (128 * (1 - r) + 8 * (15 - v) + 4 * l + z) = 128 * (1 - r) + 8 * (15 - v) + 4 * l + z := IntWalk.i64_in _ (by omega)
  have u0 : IntKind.u8.wrap (128 * (1 - r) + 8 * (15 - v) + 4 * l + z) = 128 * (1 - r) + 8 * (15 - v) + 4 * l + z := by rw [IntKind.wrap_u8]; omega
  have HO := hid ((Own.nil w).alloc w.heap.size (VC r 0 0 1 n v l p) 23 rfl)
  go_enter Try.func8, Try.ntmps8
  go_wp2_with (go_at_call 10; refine (rcheck_of HE.out _).mono ?_; rintro e w1 ⟨rfl, hb1⟩; have HO1 := hid (HO.out.call hb1); clear hb1; have c1 := HO1.out.c; have z1 := HO1.out.z; have f1 := HO1.out.f; have HO1 := hid (HO1.out.set 4 (.int .i64 0)); have d1 := HO1.out.c; have y1 := HO1.out.z)
  clear c1 z1 f1
  generalize w1.setCell ⟨w.heap.size, 4, none⟩ (.int .i64 0) = W at *
  have hS := Old.of (Below.refl W.heap.size W)
  have hzW : w.heap.size < W.heap.size := HO1.out.z
  go_region_held_law (fun w' => Below W.heap.size W w' ∧ ∀ b o, b < W.heap.size → w'.cell? ⟨b, o, none⟩ = W.cell? ⟨b, o, none⟩) (first | with_reducible assumption | exact old_drew ‹_› | exact old_drew (Old.of (Below.refl W.heap.size W)) | exact old_drew (old_alloc (Old.of (Below.refl W.heap.size W)) _) | exact old_drew (old_alloc (old_alloc (Old.of (Below.refl W.heap.size W)) _) _) | exact Old.of hbel) (first | (go_at_call 24; (with_reducible refine (rpp_of HZ.out _).mono ?_); rintro e w2 ⟨rfl, rfl⟩) | ((refine step_append_list rfl _ _ rfl (w.heap.size + 1) (.slice none 0 0) [] ⟨W.heap.size, [197, 128 * (1 - r) + 8 * (15 - v) + 4 * l + z]⟩ rfl (Lists.nil _ _) (by simp) (W.heap.size + 1) 1 rfl (cell_drew (cell_box' _ _ _ (by simp))) (byb_drew (byb_alloc (byb_new (zs := [197, 128 * (1 - r) + 8 * (15 - v) + 4 * l + z]) rfl) _)) (show w.heap.size + 1 ≤ W.heap.size from hzW) (by simp) (by simp; omega) ?_; intro g' n' c' w11 hl11 hgr11; have hbel := (‹Below W.heap.size W _ ∧ _›).1.grown hgr11.out (‹Below W.heap.size W _ ∧ _›).1.size (fun k hk => by simp [Value.ownBlock] at hk); have HL11 := hid hl11.out; clear hl11 hgr11)))
  have HO11 := hid (HO1.out.call hbel)
  have c11 := HO11.out.c
  have z11 := HO11.out.z
  have f11 := HO11.out.f
  go_wp2_with (first
    | (go_at_call 25; (with_reducible refine (rthree_any r 0 0 1 0 v l p 0 HK0.out (.inl rfl) _).mono ?_); rintro e w12 ⟨g12, hg12, rfl, hb12, hk12⟩; have HO12 := hid (HO11.out.call hb12); have HG12 := hid (Nat.lt_of_lt_of_le HO11.out.z hg12); have HN12 := hid (HL11.out.not_new hg12); have HL12 := hid (HL11.out.below hb12); have HB12 := hid hk12; clear hb12 hk12 hg12; have c12 := HO12.out.c; have z12 := HO12.out.z; have f12 := HO12.out.f)
    | (at_builtin; refine wpList_append_list rfl _ _ rfl (w.heap.size + 1) (.slice (some ⟨g', 0, none⟩) n' c') [⟨W.heap.size, [197, 128 * (1 - r) + 8 * (15 - v) + 4 * l + z]⟩] ⟨g12, threeB ⟨r, 0, 0, 1, 0, v, l, p⟩ 0⟩ rfl (HL12.out.alloc _) (by simp) w12.heap.size 1 rfl (cell_box _ _ _) (byb_alloc HB12.out _) HG12.out HN12.out (by simp; have := HO12.out.z; omega) ?_; intro v13 w13 hl13 hgr13; have HO13 := hid (own_app (own_box HO12.out _) (HL12.out.alloc _) hgr13.out); have HL13 := hid hl13.out; clear hl13 hgr13; have c13 := HO13.out.c; have z13 := HO13.out.z; have f13 := HO13.out.f)
    | (go_at_call 25; (with_reducible refine (rthree_any r 0 0 1 0 v l p 1 HK0.out (.inr rfl) _).mono ?_); rintro e w14 ⟨g14, hg14, rfl, hb14, hk14⟩; have HO14 := hid (HO13.out.call hb14); have HG14 := hid (Nat.lt_of_lt_of_le HO13.out.z hg14); have HN14 := hid (HL13.out.not_new hg14); have HL14 := hid (HL13.out.below hb14); have HB14 := hid hk14; clear hb14 hk14 hg14; have c14 := HO14.out.c; have z14 := HO14.out.z; have f14 := HO14.out.f)
    | (at_builtin; refine wpList_append_list rfl _ _ rfl (w.heap.size + 1) v13 [⟨W.heap.size, [197, 128 * (1 - r) + 8 * (15 - v) + 4 * l + z]⟩, ⟨g12, threeB ⟨r, 0, 0, 1, 0, v, l, p⟩ 0⟩] ⟨g14, threeB ⟨r, 0, 0, 1, 0, v, l, p⟩ 1⟩ rfl (HL14.out.alloc _) (by simp) w14.heap.size 1 rfl (cell_box _ _ _) (byb_alloc HB14.out _) HG14.out HN14.out (by simp; have := HO14.out.z; omega) ?_; intro v15 w15 hl15 hgr15; have HO15 := hid (own_app (own_box HO14.out _) (HL14.out.alloc _) hgr15.out); have HL15 := hid hl15.out; clear hl15 hgr15; have c15 := HO15.out.c; have z15 := HO15.out.z; have f15 := HO15.out.f))
  go_ret2
  exact ⟨_, _, by rw [HE.out]; rfl, HO15.out.below, HL15.out.mono (Nat.le_succ _), by simp [waysF, HK.out, shortF, wF, threeB, twoB, HZ.out]⟩
set_option maxHeartbeats 2000000 in
theorem rall_t2 (r b m n v l p : Int) (HK : Hid (okF ⟨r, 1, b, m, n, v, l, p⟩ = true)) (w : World) :
    Calls Try.prog 8 #[.agg (VC r 1 b m n v l p), .bool true] w (RVAll ⟨r, 1, b, m, n, v, l, p⟩ true w) := by
  have HE := hid (rerr_ok HK.out)
  have HK0 := hid (rok_w (k := 0) HK.out (.inl rfl))
  have HO := hid ((Own.nil w).alloc w.heap.size (VC r 1 b m n v l p) 23 rfl)
  go_enter Try.func8, Try.ntmps8
  go_wp2_with (first
    | (go_at_call 10; refine (rcheck_of HE.out _).mono ?_; rintro e w1 ⟨rfl, hb1⟩; have HO1 := hid (HO.out.call hb1); clear hb1; have c1 := HO1.out.c; have z1 := HO1.out.z; have f1 := HO1.out.f; have HO1 := hid (HO1.out.set 4 (.int .i64 0)); have d1 := HO1.out.c; have y1 := HO1.out.z)
    | (go_at_call 25; (with_reducible refine (rthree_any r 1 b m 0 v l p 0 HK0.out (.inl rfl) _).mono ?_); rintro e w12 ⟨g12, hg12, rfl, hb12, hk12⟩; have HO12 := hid (HO1.out.call hb12); have HG12 := hid (Nat.lt_of_lt_of_le HO1.out.z hg12); have HB12 := hid hk12; clear hb12 hk12 hg12; have c12 := HO12.out.c; have z12 := HO12.out.z; have f12 := HO12.out.f)
    | (at_builtin; refine wpList_append_list rfl _ _ rfl (w.heap.size + 1) (.slice none 0 0) [] ⟨g12, threeB ⟨r, 1, b, m, 0, v, l, p⟩ 0⟩ rfl (Lists.nil _ _) (by simp) w12.heap.size 1 rfl (cell_box _ _ _) (byb_alloc HB12.out _) HG12.out (by simp) (by simp; have := HO12.out.z; omega) ?_; intro v13 w13 hl13 hgr13; have HO13 := hid (own_app (own_box HO12.out _) (Lists.nil _ _) hgr13.out); have HL13 := hid hl13.out; clear hl13 hgr13; have c13 := HO13.out.c; have z13 := HO13.out.z; have f13 := HO13.out.f)
    | (go_at_call 25; (with_reducible refine (rthree_any r 1 b m 0 v l p 1 HK0.out (.inr rfl) _).mono ?_); rintro e w14 ⟨g14, hg14, rfl, hb14, hk14⟩; have HO14 := hid (HO13.out.call hb14); have HG14 := hid (Nat.lt_of_lt_of_le HO13.out.z hg14); have HN14 := hid (HL13.out.not_new hg14); have HL14 := hid (HL13.out.below hb14); have HB14 := hid hk14; clear hb14 hk14 hg14; have c14 := HO14.out.c; have z14 := HO14.out.z; have f14 := HO14.out.f)
    | (at_builtin; refine wpList_append_list rfl _ _ rfl (w.heap.size + 1) v13 [⟨g12, threeB ⟨r, 1, b, m, 0, v, l, p⟩ 0⟩] ⟨g14, threeB ⟨r, 1, b, m, 0, v, l, p⟩ 1⟩ rfl (HL14.out.alloc _) (by simp) w14.heap.size 1 rfl (cell_box _ _ _) (byb_alloc HB14.out _) HG14.out HN14.out (by simp; have := HO14.out.z; omega) ?_; intro v15 w15 hl15 hgr15; have HO15 := hid (own_app (own_box HO14.out _) (HL14.out.alloc _) hgr15.out); have HL15 := hid hl15.out; clear hl15 hgr15; have c15 := HO15.out.c; have z15 := HO15.out.z; have f15 := HO15.out.f))
  go_ret2
  exact ⟨_, _, by rw [HE.out]; rfl, HO15.out.below, HL15.out.mono (Nat.le_succ _), by simp [waysF, HK.out, shortF, wF, threeB]⟩
set_option maxHeartbeats 2000000 in
theorem rall_t3 (r m n v l p : Int) (HK : Hid (okF ⟨r, 0, 1, m, n, v, l, p⟩ = true)) (w : World) :
    Calls Try.prog 8 #[.agg (VC r 0 1 m n v l p), .bool true] w (RVAll ⟨r, 0, 1, m, n, v, l, p⟩ true w) := by
  have HE := hid (rerr_ok HK.out)
  have HK0 := hid (rok_w (k := 0) HK.out (.inl rfl))
  have HO := hid ((Own.nil w).alloc w.heap.size (VC r 0 1 m n v l p) 23 rfl)
  go_enter Try.func8, Try.ntmps8
  go_wp2_with (first
    | (go_at_call 10; refine (rcheck_of HE.out _).mono ?_; rintro e w1 ⟨rfl, hb1⟩; have HO1 := hid (HO.out.call hb1); clear hb1; have c1 := HO1.out.c; have z1 := HO1.out.z; have f1 := HO1.out.f; have HO1 := hid (HO1.out.set 4 (.int .i64 0)); have d1 := HO1.out.c; have y1 := HO1.out.z)
    | (go_at_call 25; (with_reducible refine (rthree_any r 0 1 m 0 v l p 0 HK0.out (.inl rfl) _).mono ?_); rintro e w12 ⟨g12, hg12, rfl, hb12, hk12⟩; have HO12 := hid (HO1.out.call hb12); have HG12 := hid (Nat.lt_of_lt_of_le HO1.out.z hg12); have HB12 := hid hk12; clear hb12 hk12 hg12; have c12 := HO12.out.c; have z12 := HO12.out.z; have f12 := HO12.out.f)
    | (at_builtin; refine wpList_append_list rfl _ _ rfl (w.heap.size + 1) (.slice none 0 0) [] ⟨g12, threeB ⟨r, 0, 1, m, 0, v, l, p⟩ 0⟩ rfl (Lists.nil _ _) (by simp) w12.heap.size 1 rfl (cell_box _ _ _) (byb_alloc HB12.out _) HG12.out (by simp) (by simp; have := HO12.out.z; omega) ?_; intro v13 w13 hl13 hgr13; have HO13 := hid (own_app (own_box HO12.out _) (Lists.nil _ _) hgr13.out); have HL13 := hid hl13.out; clear hl13 hgr13; have c13 := HO13.out.c; have z13 := HO13.out.z; have f13 := HO13.out.f)
    | (go_at_call 25; (with_reducible refine (rthree_any r 0 1 m 0 v l p 1 HK0.out (.inr rfl) _).mono ?_); rintro e w14 ⟨g14, hg14, rfl, hb14, hk14⟩; have HO14 := hid (HO13.out.call hb14); have HG14 := hid (Nat.lt_of_lt_of_le HO13.out.z hg14); have HN14 := hid (HL13.out.not_new hg14); have HL14 := hid (HL13.out.below hb14); have HB14 := hid hk14; clear hb14 hk14 hg14; have c14 := HO14.out.c; have z14 := HO14.out.z; have f14 := HO14.out.f)
    | (at_builtin; refine wpList_append_list rfl _ _ rfl (w.heap.size + 1) v13 [⟨g12, threeB ⟨r, 0, 1, m, 0, v, l, p⟩ 0⟩] ⟨g14, threeB ⟨r, 0, 1, m, 0, v, l, p⟩ 1⟩ rfl (HL14.out.alloc _) (by simp) w14.heap.size 1 rfl (cell_box _ _ _) (byb_alloc HB14.out _) HG14.out HN14.out (by simp; have := HO14.out.z; omega) ?_; intro v15 w15 hl15 hgr15; have HO15 := hid (own_app (own_box HO14.out _) (HL14.out.alloc _) hgr15.out); have HL15 := hid hl15.out; clear hl15 hgr15; have c15 := HO15.out.c; have z15 := HO15.out.z; have f15 := HO15.out.f))
  go_ret2
  exact ⟨_, _, by rw [HE.out]; rfl, HO15.out.below, HL15.out.mono (Nat.le_succ _), by simp [waysF, HK.out, shortF, wF, threeB]⟩
set_option maxHeartbeats 2000000 in
theorem rall_t4 (r n v l p : Int) (HK : Hid (okF ⟨r, 0, 0, 2, n, v, l, p⟩ = true)) (w : World) :
    Calls Try.prog 8 #[.agg (VC r 0 0 2 n v l p), .bool true] w (RVAll ⟨r, 0, 0, 2, n, v, l, p⟩ true w) := by
  have HE := hid (rerr_ok HK.out)
  have HK0 := hid (rok_w (k := 0) HK.out (.inl rfl))
  have HO := hid ((Own.nil w).alloc w.heap.size (VC r 0 0 2 n v l p) 23 rfl)
  go_enter Try.func8, Try.ntmps8
  go_wp2_with (first
    | (go_at_call 10; refine (rcheck_of HE.out _).mono ?_; rintro e w1 ⟨rfl, hb1⟩; have HO1 := hid (HO.out.call hb1); clear hb1; have c1 := HO1.out.c; have z1 := HO1.out.z; have f1 := HO1.out.f; have HO1 := hid (HO1.out.set 4 (.int .i64 0)); have d1 := HO1.out.c; have y1 := HO1.out.z)
    | (go_at_call 25; (with_reducible refine (rthree_any r 0 0 2 0 v l p 0 HK0.out (.inl rfl) _).mono ?_); rintro e w12 ⟨g12, hg12, rfl, hb12, hk12⟩; have HO12 := hid (HO1.out.call hb12); have HG12 := hid (Nat.lt_of_lt_of_le HO1.out.z hg12); have HB12 := hid hk12; clear hb12 hk12 hg12; have c12 := HO12.out.c; have z12 := HO12.out.z; have f12 := HO12.out.f)
    | (at_builtin; refine wpList_append_list rfl _ _ rfl (w.heap.size + 1) (.slice none 0 0) [] ⟨g12, threeB ⟨r, 0, 0, 2, 0, v, l, p⟩ 0⟩ rfl (Lists.nil _ _) (by simp) w12.heap.size 1 rfl (cell_box _ _ _) (byb_alloc HB12.out _) HG12.out (by simp) (by simp; have := HO12.out.z; omega) ?_; intro v13 w13 hl13 hgr13; have HO13 := hid (own_app (own_box HO12.out _) (Lists.nil _ _) hgr13.out); have HL13 := hid hl13.out; clear hl13 hgr13; have c13 := HO13.out.c; have z13 := HO13.out.z; have f13 := HO13.out.f)
    | (go_at_call 25; (with_reducible refine (rthree_any r 0 0 2 0 v l p 1 HK0.out (.inr rfl) _).mono ?_); rintro e w14 ⟨g14, hg14, rfl, hb14, hk14⟩; have HO14 := hid (HO13.out.call hb14); have HG14 := hid (Nat.lt_of_lt_of_le HO13.out.z hg14); have HN14 := hid (HL13.out.not_new hg14); have HL14 := hid (HL13.out.below hb14); have HB14 := hid hk14; clear hb14 hk14 hg14; have c14 := HO14.out.c; have z14 := HO14.out.z; have f14 := HO14.out.f)
    | (at_builtin; refine wpList_append_list rfl _ _ rfl (w.heap.size + 1) v13 [⟨g12, threeB ⟨r, 0, 0, 2, 0, v, l, p⟩ 0⟩] ⟨g14, threeB ⟨r, 0, 0, 2, 0, v, l, p⟩ 1⟩ rfl (HL14.out.alloc _) (by simp) w14.heap.size 1 rfl (cell_box _ _ _) (byb_alloc HB14.out _) HG14.out HN14.out (by simp; have := HO14.out.z; omega) ?_; intro v15 w15 hl15 hgr15; have HO15 := hid (own_app (own_box HO14.out _) (HL14.out.alloc _) hgr15.out); have HL15 := hid hl15.out; clear hl15 hgr15; have c15 := HO15.out.c; have z15 := HO15.out.z; have f15 := HO15.out.f))
  go_ret2
  exact ⟨_, _, by rw [HE.out]; rfl, HO15.out.below, HL15.out.mono (Nat.le_succ _), by simp [waysF, HK.out, shortF, wF, threeB]⟩
set_option maxHeartbeats 2000000 in
theorem rall_t5 (r n v l p : Int) (HK : Hid (okF ⟨r, 0, 0, 3, n, v, l, p⟩ = true)) (w : World) :
    Calls Try.prog 8 #[.agg (VC r 0 0 3 n v l p), .bool true] w (RVAll ⟨r, 0, 0, 3, n, v, l, p⟩ true w) := by
  have HE := hid (rerr_ok HK.out)
  have HK0 := hid (rok_w (k := 0) HK.out (.inl rfl))
  have HO := hid ((Own.nil w).alloc w.heap.size (VC r 0 0 3 n v l p) 23 rfl)
  go_enter Try.func8, Try.ntmps8
  go_wp2_with (first
    | (go_at_call 10; refine (rcheck_of HE.out _).mono ?_; rintro e w1 ⟨rfl, hb1⟩; have HO1 := hid (HO.out.call hb1); clear hb1; have c1 := HO1.out.c; have z1 := HO1.out.z; have f1 := HO1.out.f; have HO1 := hid (HO1.out.set 4 (.int .i64 0)); have d1 := HO1.out.c; have y1 := HO1.out.z)
    | (go_at_call 25; (with_reducible refine (rthree_any r 0 0 3 0 v l p 0 HK0.out (.inl rfl) _).mono ?_); rintro e w12 ⟨g12, hg12, rfl, hb12, hk12⟩; have HO12 := hid (HO1.out.call hb12); have HG12 := hid (Nat.lt_of_lt_of_le HO1.out.z hg12); have HB12 := hid hk12; clear hb12 hk12 hg12; have c12 := HO12.out.c; have z12 := HO12.out.z; have f12 := HO12.out.f)
    | (at_builtin; refine wpList_append_list rfl _ _ rfl (w.heap.size + 1) (.slice none 0 0) [] ⟨g12, threeB ⟨r, 0, 0, 3, 0, v, l, p⟩ 0⟩ rfl (Lists.nil _ _) (by simp) w12.heap.size 1 rfl (cell_box _ _ _) (byb_alloc HB12.out _) HG12.out (by simp) (by simp; have := HO12.out.z; omega) ?_; intro v13 w13 hl13 hgr13; have HO13 := hid (own_app (own_box HO12.out _) (Lists.nil _ _) hgr13.out); have HL13 := hid hl13.out; clear hl13 hgr13; have c13 := HO13.out.c; have z13 := HO13.out.z; have f13 := HO13.out.f)
    | (go_at_call 25; (with_reducible refine (rthree_any r 0 0 3 0 v l p 1 HK0.out (.inr rfl) _).mono ?_); rintro e w14 ⟨g14, hg14, rfl, hb14, hk14⟩; have HO14 := hid (HO13.out.call hb14); have HG14 := hid (Nat.lt_of_lt_of_le HO13.out.z hg14); have HN14 := hid (HL13.out.not_new hg14); have HL14 := hid (HL13.out.below hb14); have HB14 := hid hk14; clear hb14 hk14 hg14; have c14 := HO14.out.c; have z14 := HO14.out.z; have f14 := HO14.out.f)
    | (at_builtin; refine wpList_append_list rfl _ _ rfl (w.heap.size + 1) v13 [⟨g12, threeB ⟨r, 0, 0, 3, 0, v, l, p⟩ 0⟩] ⟨g14, threeB ⟨r, 0, 0, 3, 0, v, l, p⟩ 1⟩ rfl (HL14.out.alloc _) (by simp) w14.heap.size 1 rfl (cell_box _ _ _) (byb_alloc HB14.out _) HG14.out HN14.out (by simp; have := HO14.out.z; omega) ?_; intro v15 w15 hl15 hgr15; have HO15 := hid (own_app (own_box HO14.out _) (HL14.out.alloc _) hgr15.out); have HL15 := hid hl15.out; clear hl15 hgr15; have c15 := HO15.out.c; have z15 := HO15.out.z; have f15 := HO15.out.f))
  go_ret2
  exact ⟨_, _, by rw [HE.out]; rfl, HO15.out.below, HL15.out.mono (Nat.le_succ _), by simp [waysF, HK.out, shortF, wF, threeB]⟩
theorem rall_any (r x b m n v l p : Int) (any : Bool) (w : World) :
    Calls Try.prog 8 #[.agg (VC r x b m n v l p), .bool any] w (RVAll ⟨r, x, b, m, n, v, l, p⟩ any w) := by
  cases h : okF ⟨r, x, b, m, n, v, l, p⟩
  · exact rall_no r x b m n v l p any h w
  obtain ⟨-, hx, hb, hn, -, hm, -, -⟩ := ok_parts h
  simp only at hx hb hn hm
  have hm3 : m = 1 ∨ m = 2 ∨ m = 3 := by omega
  have HK := hid h
  clear h hm
  rcases hx with rfl | rfl
  · rcases hb with rfl | rfl
    · cases any
      · rcases hn with rfl | rfl
        · rcases hm3 with rfl | rfl | rfl
          · exact rall_f1 r v l p HK w
          · exact rall_f5 r v l p HK w
          · exact rall_f6 r v l p HK w
        · exact rall_f4 r m v l p HK w
      · rcases hm3 with rfl | rfl | rfl
        · exact rall_t1 r n v l p HK w
        · exact rall_t4 r n v l p HK w
        · exact rall_t5 r n v l p HK w
    · cases any
      · exact rall_f3 r m n v l p HK w
      · exact rall_t3 r m n v l p HK w
  · cases any
    · exact rall_f2 r b m n v l p HK w
    · exact rall_t2 r b m n v l p HK w
end Go.Proofs.Ytllnjmpakkodnaa
