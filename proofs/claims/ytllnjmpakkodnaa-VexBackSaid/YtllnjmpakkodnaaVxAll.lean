/-
  All: the program's.
-/
import Derived.Test.YtllnjmpakkodnaaVxLists
namespace Go.Proofs.Ytllnjmpakkodnaa
open Go.RowKit
set_option maxRecDepth 100000

/-- What All answers. -/
def VAll (q : Vx) (any : Bool) (w : World) (e : Ending) (w' : World) : Prop :=
  ∃ v Z, e = .returned (.tuple #[v, .int .i64 (errF q)]) ∧ Below w.heap.size w w' ∧ Lists w' w.heap.size v Z ∧ Z.map Zr.bs = waysF q any
theorem ok_w {r x b m n v l p k : Int} (h : okF ⟨r, x, b, m, n, v, l, p⟩ = true) (hk : k = 0 ∨ k = 1) : okF ⟨r, x, b, m, k, v, l, p⟩ = true := by
  obtain ⟨h1, h2, h3, h4, h5, h6, h7, h8⟩ := ok_parts h
  exact ok_of ⟨h1, h2, h3, hk, h5, h6, h7, h8⟩
theorem err_ok {q : Vx} (h : okF q = true) : errF q = 0 := by simp [errF, h]
theorem vall_no (r x b m n v l p : Int) (any : Bool) (h : okF ⟨r, x, b, m, n, v, l, p⟩ = false) (w : World) :
    Calls Try.prog 7 #[.agg (VC r x b m n v l p), .bool any] w (VAll ⟨r, x, b, m, n, v, l, p⟩ any w) := by
  have HE := hid (show errF ⟨r, x, b, m, n, v, l, p⟩ = 2 by simp [errF, h])
  have HW := hid (show waysF ⟨r, x, b, m, n, v, l, p⟩ any = [] by simp [waysF, h])
  have HO := hid ((Own.nil w).alloc w.heap.size (VC r x b m n v l p) 23 rfl)
  clear h
  go_enter Try.func7, Try.ntmps7
  go_wp2_with (go_at_call 9; refine (check_of HE.out _).mono ?_; rintro e w1 ⟨rfl, hb1⟩; have HO1 := hid (HO.out.call hb1); clear hb1)
  go_ret2
  exact ⟨_, [], by rw [HE.out]; rfl, HO1.out.below, Lists.nil _ _, by rw [HW.out]; rfl⟩
set_option maxHeartbeats 2000000 in
theorem vall_f1 (r v l p : Int) (HK : Hid (okF ⟨r, 0, 0, 1, 0, v, l, p⟩ = true)) (w : World) :
    Calls Try.prog 7 #[.agg (VC r 0 0 1 0 v l p), .bool false] w (VAll ⟨r, 0, 0, 1, 0, v, l, p⟩ false w) := by
  have HE := hid (err_ok HK.out)
  have HK0 := hid (ok_w (k := 0) HK.out (.inl rfl))
  have HO := hid ((Own.nil w).alloc w.heap.size (VC r 0 0 1 0 v l p) 23 rfl)
  go_enter Try.func7, Try.ntmps7
  go_wp2_with (first
    | (go_at_call 9; refine (check_of HE.out _).mono ?_; rintro e w1 ⟨rfl, hb1⟩; have HO1 := hid (HO.out.call hb1); clear hb1; have c1 := HO1.out.c; have z1 := HO1.out.z; have f1 := HO1.out.f)
    | (go_at_call 22; (with_reducible refine (two_any r 0 0 1 0 v l p HK0.out _).mono ?_); rintro e w10 ⟨g10, hg10, rfl, hb10, hk10⟩; have HO10 := hid (HO1.out.call hb10); have HG10 := hid (Nat.lt_of_lt_of_le HO1.out.z hg10); have HB10 := hid hk10; clear hb10 hk10 hg10; have c10 := HO10.out.c; have z10 := HO10.out.z; have f10 := HO10.out.f)
    | (at_builtin; refine wpList_append_list rfl _ _ rfl (w.heap.size + 1) (.slice none 0 0) [] ⟨g10, twoB ⟨r, 0, 0, 1, 0, v, l, p⟩⟩ rfl (Lists.nil _ _) (by simp) w10.heap.size 1 rfl (cell_box _ _ _) (byb_alloc HB10.out _) HG10.out (by simp) (by simp; have := HO10.out.z; omega) ?_; intro v11 w11 hl11 hgr11; have HO11 := hid (own_app (own_box HO10.out _) (Lists.nil _ _) hgr11.out); have HL11 := hid hl11.out; clear hl11 hgr11; have c11 := HO11.out.c; have z11 := HO11.out.z; have f11 := HO11.out.f)
    | (go_at_call 23; (with_reducible refine (three_any r 0 0 1 0 v l p HK0.out _).mono ?_); rintro e w12 ⟨g12, hg12, rfl, hb12, hk12⟩; have HO12 := hid (HO11.out.call hb12); have HG12 := hid (Nat.lt_of_lt_of_le HO11.out.z hg12); have HN12 := hid (HL11.out.not_new hg12); have HL12 := hid (HL11.out.below hb12); have HB12 := hid hk12; clear hb12 hk12 hg12; have c12 := HO12.out.c; have z12 := HO12.out.z; have f12 := HO12.out.f)
    | (at_builtin; refine wpList_append_list rfl _ _ rfl (w.heap.size + 1) v11 [⟨g10, twoB ⟨r, 0, 0, 1, 0, v, l, p⟩⟩] ⟨g12, threeB ⟨r, 0, 0, 1, 0, v, l, p⟩ 0⟩ rfl (HL12.out.alloc _) (by simp) w12.heap.size 1 rfl (cell_box _ _ _) (byb_alloc HB12.out _) HG12.out HN12.out (by simp; have := HO12.out.z; omega) ?_; intro v13 w13 hl13 hgr13; have HO13 := hid (own_app (own_box HO12.out _) (HL12.out.alloc _) hgr13.out); have HL13 := hid hl13.out; clear hl13 hgr13; have c13 := HO13.out.c; have z13 := HO13.out.z; have f13 := HO13.out.f))
  go_ret2
  exact ⟨_, _, by rw [HE.out]; rfl, HO13.out.below, HL13.out.mono (Nat.le_succ _), by simp [waysF, HK.out, shortF, wF, threeB, twoB]⟩
set_option maxHeartbeats 2000000 in
theorem vall_f2 (r b m n v l p : Int) (HK : Hid (okF ⟨r, 1, b, m, n, v, l, p⟩ = true)) (w : World) :
    Calls Try.prog 7 #[.agg (VC r 1 b m n v l p), .bool false] w (VAll ⟨r, 1, b, m, n, v, l, p⟩ false w) := by
  have HE := hid (err_ok HK.out)
  have HKn := hid (HK.out)
  have HO := hid ((Own.nil w).alloc w.heap.size (VC r 1 b m n v l p) 23 rfl)
  go_enter Try.func7, Try.ntmps7
  go_wp2_with (first
    | (go_at_call 9; refine (check_of HE.out _).mono ?_; rintro e w1 ⟨rfl, hb1⟩; have HO1 := hid (HO.out.call hb1); clear hb1; have c1 := HO1.out.c; have z1 := HO1.out.z; have f1 := HO1.out.f)
    | (go_at_call 23; (with_reducible refine (three_any r 1 b m n v l p HKn.out _).mono ?_); rintro e w10 ⟨g10, hg10, rfl, hb10, hk10⟩; have HO10 := hid (HO1.out.call hb10); have HG10 := hid (Nat.lt_of_lt_of_le HO1.out.z hg10); have HB10 := hid hk10; clear hb10 hk10 hg10; have c10 := HO10.out.c; have z10 := HO10.out.z; have f10 := HO10.out.f)
    | (at_builtin; refine wpList_append_list rfl _ _ rfl (w.heap.size + 1) (.slice none 0 0) [] ⟨g10, threeB ⟨r, 1, b, m, n, v, l, p⟩ n⟩ rfl (Lists.nil _ _) (by simp) w10.heap.size 1 rfl (cell_box _ _ _) (byb_alloc HB10.out _) HG10.out (by simp) (by simp; have := HO10.out.z; omega) ?_; intro v11 w11 hl11 hgr11; have HO11 := hid (own_app (own_box HO10.out _) (Lists.nil _ _) hgr11.out); have HL11 := hid hl11.out; clear hl11 hgr11; have c11 := HO11.out.c; have z11 := HO11.out.z; have f11 := HO11.out.f))
  go_ret2
  exact ⟨_, _, by rw [HE.out]; rfl, HO11.out.below, HL11.out.mono (Nat.le_succ _), by simp [waysF, HK.out, shortF, wF, threeB]⟩
set_option maxHeartbeats 2000000 in
theorem vall_f3 (r m n v l p : Int) (HK : Hid (okF ⟨r, 0, 1, m, n, v, l, p⟩ = true)) (w : World) :
    Calls Try.prog 7 #[.agg (VC r 0 1 m n v l p), .bool false] w (VAll ⟨r, 0, 1, m, n, v, l, p⟩ false w) := by
  have HE := hid (err_ok HK.out)
  have HKn := hid (HK.out)
  have HO := hid ((Own.nil w).alloc w.heap.size (VC r 0 1 m n v l p) 23 rfl)
  go_enter Try.func7, Try.ntmps7
  go_wp2_with (first
    | (go_at_call 9; refine (check_of HE.out _).mono ?_; rintro e w1 ⟨rfl, hb1⟩; have HO1 := hid (HO.out.call hb1); clear hb1; have c1 := HO1.out.c; have z1 := HO1.out.z; have f1 := HO1.out.f)
    | (go_at_call 23; (with_reducible refine (three_any r 0 1 m n v l p HKn.out _).mono ?_); rintro e w10 ⟨g10, hg10, rfl, hb10, hk10⟩; have HO10 := hid (HO1.out.call hb10); have HG10 := hid (Nat.lt_of_lt_of_le HO1.out.z hg10); have HB10 := hid hk10; clear hb10 hk10 hg10; have c10 := HO10.out.c; have z10 := HO10.out.z; have f10 := HO10.out.f)
    | (at_builtin; refine wpList_append_list rfl _ _ rfl (w.heap.size + 1) (.slice none 0 0) [] ⟨g10, threeB ⟨r, 0, 1, m, n, v, l, p⟩ n⟩ rfl (Lists.nil _ _) (by simp) w10.heap.size 1 rfl (cell_box _ _ _) (byb_alloc HB10.out _) HG10.out (by simp) (by simp; have := HO10.out.z; omega) ?_; intro v11 w11 hl11 hgr11; have HO11 := hid (own_app (own_box HO10.out _) (Lists.nil _ _) hgr11.out); have HL11 := hid hl11.out; clear hl11 hgr11; have c11 := HO11.out.c; have z11 := HO11.out.z; have f11 := HO11.out.f))
  go_ret2
  exact ⟨_, _, by rw [HE.out]; rfl, HO11.out.below, HL11.out.mono (Nat.le_succ _), by simp [waysF, HK.out, shortF, wF, threeB]⟩
set_option maxHeartbeats 2000000 in
theorem vall_f4 (r m v l p : Int) (HK : Hid (okF ⟨r, 0, 0, m, 1, v, l, p⟩ = true)) (w : World) :
    Calls Try.prog 7 #[.agg (VC r 0 0 m 1 v l p), .bool false] w (VAll ⟨r, 0, 0, m, 1, v, l, p⟩ false w) := by
  have HE := hid (err_ok HK.out)
  have HK1 := hid (ok_w (k := 1) HK.out (.inr rfl))
  have HO := hid ((Own.nil w).alloc w.heap.size (VC r 0 0 m 1 v l p) 23 rfl)
  go_enter Try.func7, Try.ntmps7
  go_wp2_with (first
    | (go_at_call 9; refine (check_of HE.out _).mono ?_; rintro e w1 ⟨rfl, hb1⟩; have HO1 := hid (HO.out.call hb1); clear hb1; have c1 := HO1.out.c; have z1 := HO1.out.z; have f1 := HO1.out.f)
    | (go_at_call 23; (with_reducible refine (three_any r 0 0 m 1 v l p HK1.out _).mono ?_); rintro e w10 ⟨g10, hg10, rfl, hb10, hk10⟩; have HO10 := hid (HO1.out.call hb10); have HG10 := hid (Nat.lt_of_lt_of_le HO1.out.z hg10); have HB10 := hid hk10; clear hb10 hk10 hg10; have c10 := HO10.out.c; have z10 := HO10.out.z; have f10 := HO10.out.f)
    | (at_builtin; refine wpList_append_list rfl _ _ rfl (w.heap.size + 1) (.slice none 0 0) [] ⟨g10, threeB ⟨r, 0, 0, m, 1, v, l, p⟩ 1⟩ rfl (Lists.nil _ _) (by simp) w10.heap.size 1 rfl (cell_box _ _ _) (byb_alloc HB10.out _) HG10.out (by simp) (by simp; have := HO10.out.z; omega) ?_; intro v11 w11 hl11 hgr11; have HO11 := hid (own_app (own_box HO10.out _) (Lists.nil _ _) hgr11.out); have HL11 := hid hl11.out; clear hl11 hgr11; have c11 := HO11.out.c; have z11 := HO11.out.z; have f11 := HO11.out.f))
  go_ret2
  exact ⟨_, _, by rw [HE.out]; rfl, HO11.out.below, HL11.out.mono (Nat.le_succ _), by simp [waysF, HK.out, shortF, wF, threeB]⟩
set_option maxHeartbeats 2000000 in
theorem vall_f5 (r v l p : Int) (HK : Hid (okF ⟨r, 0, 0, 2, 0, v, l, p⟩ = true)) (w : World) :
    Calls Try.prog 7 #[.agg (VC r 0 0 2 0 v l p), .bool false] w (VAll ⟨r, 0, 0, 2, 0, v, l, p⟩ false w) := by
  have HE := hid (err_ok HK.out)
  have HK0 := hid (ok_w (k := 0) HK.out (.inl rfl))
  have HO := hid ((Own.nil w).alloc w.heap.size (VC r 0 0 2 0 v l p) 23 rfl)
  go_enter Try.func7, Try.ntmps7
  go_wp2_with (first
    | (go_at_call 9; refine (check_of HE.out _).mono ?_; rintro e w1 ⟨rfl, hb1⟩; have HO1 := hid (HO.out.call hb1); clear hb1; have c1 := HO1.out.c; have z1 := HO1.out.z; have f1 := HO1.out.f)
    | (go_at_call 23; (with_reducible refine (three_any r 0 0 2 0 v l p HK0.out _).mono ?_); rintro e w10 ⟨g10, hg10, rfl, hb10, hk10⟩; have HO10 := hid (HO1.out.call hb10); have HG10 := hid (Nat.lt_of_lt_of_le HO1.out.z hg10); have HB10 := hid hk10; clear hb10 hk10 hg10; have c10 := HO10.out.c; have z10 := HO10.out.z; have f10 := HO10.out.f)
    | (at_builtin; refine wpList_append_list rfl _ _ rfl (w.heap.size + 1) (.slice none 0 0) [] ⟨g10, threeB ⟨r, 0, 0, 2, 0, v, l, p⟩ 0⟩ rfl (Lists.nil _ _) (by simp) w10.heap.size 1 rfl (cell_box _ _ _) (byb_alloc HB10.out _) HG10.out (by simp) (by simp; have := HO10.out.z; omega) ?_; intro v11 w11 hl11 hgr11; have HO11 := hid (own_app (own_box HO10.out _) (Lists.nil _ _) hgr11.out); have HL11 := hid hl11.out; clear hl11 hgr11; have c11 := HO11.out.c; have z11 := HO11.out.z; have f11 := HO11.out.f))
  go_ret2
  exact ⟨_, _, by rw [HE.out]; rfl, HO11.out.below, HL11.out.mono (Nat.le_succ _), by simp [waysF, HK.out, shortF, wF, threeB]⟩
set_option maxHeartbeats 2000000 in
theorem vall_f6 (r v l p : Int) (HK : Hid (okF ⟨r, 0, 0, 3, 0, v, l, p⟩ = true)) (w : World) :
    Calls Try.prog 7 #[.agg (VC r 0 0 3 0 v l p), .bool false] w (VAll ⟨r, 0, 0, 3, 0, v, l, p⟩ false w) := by
  have HE := hid (err_ok HK.out)
  have HK0 := hid (ok_w (k := 0) HK.out (.inl rfl))
  have HO := hid ((Own.nil w).alloc w.heap.size (VC r 0 0 3 0 v l p) 23 rfl)
  go_enter Try.func7, Try.ntmps7
  go_wp2_with (first
    | (go_at_call 9; refine (check_of HE.out _).mono ?_; rintro e w1 ⟨rfl, hb1⟩; have HO1 := hid (HO.out.call hb1); clear hb1; have c1 := HO1.out.c; have z1 := HO1.out.z; have f1 := HO1.out.f)
    | (go_at_call 23; (with_reducible refine (three_any r 0 0 3 0 v l p HK0.out _).mono ?_); rintro e w10 ⟨g10, hg10, rfl, hb10, hk10⟩; have HO10 := hid (HO1.out.call hb10); have HG10 := hid (Nat.lt_of_lt_of_le HO1.out.z hg10); have HB10 := hid hk10; clear hb10 hk10 hg10; have c10 := HO10.out.c; have z10 := HO10.out.z; have f10 := HO10.out.f)
    | (at_builtin; refine wpList_append_list rfl _ _ rfl (w.heap.size + 1) (.slice none 0 0) [] ⟨g10, threeB ⟨r, 0, 0, 3, 0, v, l, p⟩ 0⟩ rfl (Lists.nil _ _) (by simp) w10.heap.size 1 rfl (cell_box _ _ _) (byb_alloc HB10.out _) HG10.out (by simp) (by simp; have := HO10.out.z; omega) ?_; intro v11 w11 hl11 hgr11; have HO11 := hid (own_app (own_box HO10.out _) (Lists.nil _ _) hgr11.out); have HL11 := hid hl11.out; clear hl11 hgr11; have c11 := HO11.out.c; have z11 := HO11.out.z; have f11 := HO11.out.f))
  go_ret2
  exact ⟨_, _, by rw [HE.out]; rfl, HO11.out.below, HL11.out.mono (Nat.le_succ _), by simp [waysF, HK.out, shortF, wF, threeB]⟩
set_option maxHeartbeats 2000000 in
theorem vall_t1 (r n v l p : Int) (HK : Hid (okF ⟨r, 0, 0, 1, n, v, l, p⟩ = true)) (w : World) :
    Calls Try.prog 7 #[.agg (VC r 0 0 1 n v l p), .bool true] w (VAll ⟨r, 0, 0, 1, n, v, l, p⟩ true w) := by
  have HE := hid (err_ok HK.out)
  have HK0 := hid (ok_w (k := 0) HK.out (.inl rfl))
  have HK1 := hid (ok_w (k := 1) HK.out (.inr rfl))
  have HO := hid ((Own.nil w).alloc w.heap.size (VC r 0 0 1 n v l p) 23 rfl)
  go_enter Try.func7, Try.ntmps7
  go_wp2_with (first
    | (go_at_call 9; refine (check_of HE.out _).mono ?_; rintro e w1 ⟨rfl, hb1⟩; have HO1 := hid (HO.out.call hb1); clear hb1; have c1 := HO1.out.c; have z1 := HO1.out.z; have f1 := HO1.out.f; have HO1 := hid (HO1.out.set 4 (.int .i64 0)); have d1 := HO1.out.c)
    | (go_at_call 22; (with_reducible refine (two_any r 0 0 1 0 v l p HK0.out _).mono ?_); rintro e w10 ⟨g10, hg10, rfl, hb10, hk10⟩; have HO10 := hid (HO1.out.call hb10); have HG10 := hid (Nat.lt_of_lt_of_le HO1.out.z hg10); have HB10 := hid hk10; clear hb10 hk10 hg10; have c10 := HO10.out.c; have z10 := HO10.out.z; have f10 := HO10.out.f)
    | (at_builtin; refine wpList_append_list rfl _ _ rfl (w.heap.size + 1) (.slice none 0 0) [] ⟨g10, twoB ⟨r, 0, 0, 1, 0, v, l, p⟩⟩ rfl (Lists.nil _ _) (by simp) w10.heap.size 1 rfl (cell_box _ _ _) (byb_alloc HB10.out _) HG10.out (by simp) (by simp; have := HO10.out.z; omega) ?_; intro v11 w11 hl11 hgr11; have HO11 := hid (own_app (own_box HO10.out _) (Lists.nil _ _) hgr11.out); have HL11 := hid hl11.out; clear hl11 hgr11; have c11 := HO11.out.c; have z11 := HO11.out.z; have f11 := HO11.out.f)
    | (go_at_call 23; (with_reducible refine (three_any r 0 0 1 0 v l p HK0.out _).mono ?_); rintro e w12 ⟨g12, hg12, rfl, hb12, hk12⟩; have HO12 := hid (HO11.out.call hb12); have HG12 := hid (Nat.lt_of_lt_of_le HO11.out.z hg12); have HN12 := hid (HL11.out.not_new hg12); have HL12 := hid (HL11.out.below hb12); have HB12 := hid hk12; clear hb12 hk12 hg12; have c12 := HO12.out.c; have z12 := HO12.out.z; have f12 := HO12.out.f)
    | (at_builtin; refine wpList_append_list rfl _ _ rfl (w.heap.size + 1) v11 [⟨g10, twoB ⟨r, 0, 0, 1, 0, v, l, p⟩⟩] ⟨g12, threeB ⟨r, 0, 0, 1, 0, v, l, p⟩ 0⟩ rfl (HL12.out.alloc _) (by simp) w12.heap.size 1 rfl (cell_box _ _ _) (byb_alloc HB12.out _) HG12.out HN12.out (by simp; have := HO12.out.z; omega) ?_; intro v13 w13 hl13 hgr13; have HO13 := hid (own_app (own_box HO12.out _) (HL12.out.alloc _) hgr13.out); have HL13 := hid hl13.out; clear hl13 hgr13; have c13 := HO13.out.c; have z13 := HO13.out.z; have f13 := HO13.out.f; have HO13 := hid (HO13.out.set 4 (.int .i64 1)); have d13 := HO13.out.c; have HL13 := hid (HL13.out.set (Nat.lt_succ_self w.heap.size) 4 (.int .i64 1)))
    | (go_at_call 23; (with_reducible refine (three_any r 0 0 1 1 v l p HK1.out _).mono ?_); rintro e w14 ⟨g14, hg14, rfl, hb14, hk14⟩; have HO14 := hid (HO13.out.call hb14); have HG14 := hid (Nat.lt_of_lt_of_le HO13.out.z hg14); have HN14 := hid (HL13.out.not_new hg14); have HL14 := hid (HL13.out.below hb14); have HB14 := hid hk14; clear hb14 hk14 hg14; have c14 := HO14.out.c; have z14 := HO14.out.z; have f14 := HO14.out.f)
    | (at_builtin; refine wpList_append_list rfl _ _ rfl (w.heap.size + 1) v13 [⟨g10, twoB ⟨r, 0, 0, 1, 0, v, l, p⟩⟩, ⟨g12, threeB ⟨r, 0, 0, 1, 0, v, l, p⟩ 0⟩] ⟨g14, threeB ⟨r, 0, 0, 1, 1, v, l, p⟩ 1⟩ rfl (HL14.out.alloc _) (by simp) w14.heap.size 1 rfl (cell_box _ _ _) (byb_alloc HB14.out _) HG14.out HN14.out (by simp; have := HO14.out.z; omega) ?_; intro v15 w15 hl15 hgr15; have HO15 := hid (own_app (own_box HO14.out _) (HL14.out.alloc _) hgr15.out); have HL15 := hid hl15.out; clear hl15 hgr15; have c15 := HO15.out.c; have z15 := HO15.out.z; have f15 := HO15.out.f))
  go_ret2
  exact ⟨_, _, by rw [HE.out]; rfl, HO15.out.below, HL15.out.mono (Nat.le_succ _), by simp [waysF, HK.out, shortF, wF, threeB, twoB]⟩
set_option maxHeartbeats 2000000 in
theorem vall_t2 (r b m n v l p : Int) (HK : Hid (okF ⟨r, 1, b, m, n, v, l, p⟩ = true)) (w : World) :
    Calls Try.prog 7 #[.agg (VC r 1 b m n v l p), .bool true] w (VAll ⟨r, 1, b, m, n, v, l, p⟩ true w) := by
  have HE := hid (err_ok HK.out)
  have HK0 := hid (ok_w (k := 0) HK.out (.inl rfl))
  have HK1 := hid (ok_w (k := 1) HK.out (.inr rfl))
  have HO := hid ((Own.nil w).alloc w.heap.size (VC r 1 b m n v l p) 23 rfl)
  go_enter Try.func7, Try.ntmps7
  go_wp2_with (first
    | (go_at_call 9; refine (check_of HE.out _).mono ?_; rintro e w1 ⟨rfl, hb1⟩; have HO1 := hid (HO.out.call hb1); clear hb1; have c1 := HO1.out.c; have z1 := HO1.out.z; have f1 := HO1.out.f; have HO1 := hid (HO1.out.set 4 (.int .i64 0)); have d1 := HO1.out.c)
    | (go_at_call 23; (with_reducible refine (three_any r 1 b m 0 v l p HK0.out _).mono ?_); rintro e w10 ⟨g10, hg10, rfl, hb10, hk10⟩; have HO10 := hid (HO1.out.call hb10); have HG10 := hid (Nat.lt_of_lt_of_le HO1.out.z hg10); have HB10 := hid hk10; clear hb10 hk10 hg10; have c10 := HO10.out.c; have z10 := HO10.out.z; have f10 := HO10.out.f)
    | (at_builtin; refine wpList_append_list rfl _ _ rfl (w.heap.size + 1) (.slice none 0 0) [] ⟨g10, threeB ⟨r, 1, b, m, 0, v, l, p⟩ 0⟩ rfl (Lists.nil _ _) (by simp) w10.heap.size 1 rfl (cell_box _ _ _) (byb_alloc HB10.out _) HG10.out (by simp) (by simp; have := HO10.out.z; omega) ?_; intro v11 w11 hl11 hgr11; have HO11 := hid (own_app (own_box HO10.out _) (Lists.nil _ _) hgr11.out); have HL11 := hid hl11.out; clear hl11 hgr11; have c11 := HO11.out.c; have z11 := HO11.out.z; have f11 := HO11.out.f; have HO11 := hid (HO11.out.set 4 (.int .i64 1)); have d11 := HO11.out.c; have HL11 := hid (HL11.out.set (Nat.lt_succ_self w.heap.size) 4 (.int .i64 1)))
    | (go_at_call 23; (with_reducible refine (three_any r 1 b m 1 v l p HK1.out _).mono ?_); rintro e w12 ⟨g12, hg12, rfl, hb12, hk12⟩; have HO12 := hid (HO11.out.call hb12); have HG12 := hid (Nat.lt_of_lt_of_le HO11.out.z hg12); have HN12 := hid (HL11.out.not_new hg12); have HL12 := hid (HL11.out.below hb12); have HB12 := hid hk12; clear hb12 hk12 hg12; have c12 := HO12.out.c; have z12 := HO12.out.z; have f12 := HO12.out.f)
    | (at_builtin; refine wpList_append_list rfl _ _ rfl (w.heap.size + 1) v11 [⟨g10, threeB ⟨r, 1, b, m, 0, v, l, p⟩ 0⟩] ⟨g12, threeB ⟨r, 1, b, m, 1, v, l, p⟩ 1⟩ rfl (HL12.out.alloc _) (by simp) w12.heap.size 1 rfl (cell_box _ _ _) (byb_alloc HB12.out _) HG12.out HN12.out (by simp; have := HO12.out.z; omega) ?_; intro v13 w13 hl13 hgr13; have HO13 := hid (own_app (own_box HO12.out _) (HL12.out.alloc _) hgr13.out); have HL13 := hid hl13.out; clear hl13 hgr13; have c13 := HO13.out.c; have z13 := HO13.out.z; have f13 := HO13.out.f))
  go_ret2
  exact ⟨_, _, by rw [HE.out]; rfl, HO13.out.below, HL13.out.mono (Nat.le_succ _), by simp [waysF, HK.out, shortF, wF, threeB]⟩
set_option maxHeartbeats 2000000 in
theorem vall_t3 (r m n v l p : Int) (HK : Hid (okF ⟨r, 0, 1, m, n, v, l, p⟩ = true)) (w : World) :
    Calls Try.prog 7 #[.agg (VC r 0 1 m n v l p), .bool true] w (VAll ⟨r, 0, 1, m, n, v, l, p⟩ true w) := by
  have HE := hid (err_ok HK.out)
  have HK0 := hid (ok_w (k := 0) HK.out (.inl rfl))
  have HK1 := hid (ok_w (k := 1) HK.out (.inr rfl))
  have HO := hid ((Own.nil w).alloc w.heap.size (VC r 0 1 m n v l p) 23 rfl)
  go_enter Try.func7, Try.ntmps7
  go_wp2_with (first
    | (go_at_call 9; refine (check_of HE.out _).mono ?_; rintro e w1 ⟨rfl, hb1⟩; have HO1 := hid (HO.out.call hb1); clear hb1; have c1 := HO1.out.c; have z1 := HO1.out.z; have f1 := HO1.out.f; have HO1 := hid (HO1.out.set 4 (.int .i64 0)); have d1 := HO1.out.c)
    | (go_at_call 23; (with_reducible refine (three_any r 0 1 m 0 v l p HK0.out _).mono ?_); rintro e w10 ⟨g10, hg10, rfl, hb10, hk10⟩; have HO10 := hid (HO1.out.call hb10); have HG10 := hid (Nat.lt_of_lt_of_le HO1.out.z hg10); have HB10 := hid hk10; clear hb10 hk10 hg10; have c10 := HO10.out.c; have z10 := HO10.out.z; have f10 := HO10.out.f)
    | (at_builtin; refine wpList_append_list rfl _ _ rfl (w.heap.size + 1) (.slice none 0 0) [] ⟨g10, threeB ⟨r, 0, 1, m, 0, v, l, p⟩ 0⟩ rfl (Lists.nil _ _) (by simp) w10.heap.size 1 rfl (cell_box _ _ _) (byb_alloc HB10.out _) HG10.out (by simp) (by simp; have := HO10.out.z; omega) ?_; intro v11 w11 hl11 hgr11; have HO11 := hid (own_app (own_box HO10.out _) (Lists.nil _ _) hgr11.out); have HL11 := hid hl11.out; clear hl11 hgr11; have c11 := HO11.out.c; have z11 := HO11.out.z; have f11 := HO11.out.f; have HO11 := hid (HO11.out.set 4 (.int .i64 1)); have d11 := HO11.out.c; have HL11 := hid (HL11.out.set (Nat.lt_succ_self w.heap.size) 4 (.int .i64 1)))
    | (go_at_call 23; (with_reducible refine (three_any r 0 1 m 1 v l p HK1.out _).mono ?_); rintro e w12 ⟨g12, hg12, rfl, hb12, hk12⟩; have HO12 := hid (HO11.out.call hb12); have HG12 := hid (Nat.lt_of_lt_of_le HO11.out.z hg12); have HN12 := hid (HL11.out.not_new hg12); have HL12 := hid (HL11.out.below hb12); have HB12 := hid hk12; clear hb12 hk12 hg12; have c12 := HO12.out.c; have z12 := HO12.out.z; have f12 := HO12.out.f)
    | (at_builtin; refine wpList_append_list rfl _ _ rfl (w.heap.size + 1) v11 [⟨g10, threeB ⟨r, 0, 1, m, 0, v, l, p⟩ 0⟩] ⟨g12, threeB ⟨r, 0, 1, m, 1, v, l, p⟩ 1⟩ rfl (HL12.out.alloc _) (by simp) w12.heap.size 1 rfl (cell_box _ _ _) (byb_alloc HB12.out _) HG12.out HN12.out (by simp; have := HO12.out.z; omega) ?_; intro v13 w13 hl13 hgr13; have HO13 := hid (own_app (own_box HO12.out _) (HL12.out.alloc _) hgr13.out); have HL13 := hid hl13.out; clear hl13 hgr13; have c13 := HO13.out.c; have z13 := HO13.out.z; have f13 := HO13.out.f))
  go_ret2
  exact ⟨_, _, by rw [HE.out]; rfl, HO13.out.below, HL13.out.mono (Nat.le_succ _), by simp [waysF, HK.out, shortF, wF, threeB]⟩
set_option maxHeartbeats 2000000 in
theorem vall_t4 (r n v l p : Int) (HK : Hid (okF ⟨r, 0, 0, 2, n, v, l, p⟩ = true)) (w : World) :
    Calls Try.prog 7 #[.agg (VC r 0 0 2 n v l p), .bool true] w (VAll ⟨r, 0, 0, 2, n, v, l, p⟩ true w) := by
  have HE := hid (err_ok HK.out)
  have HK0 := hid (ok_w (k := 0) HK.out (.inl rfl))
  have HK1 := hid (ok_w (k := 1) HK.out (.inr rfl))
  have HO := hid ((Own.nil w).alloc w.heap.size (VC r 0 0 2 n v l p) 23 rfl)
  go_enter Try.func7, Try.ntmps7
  go_wp2_with (first
    | (go_at_call 9; refine (check_of HE.out _).mono ?_; rintro e w1 ⟨rfl, hb1⟩; have HO1 := hid (HO.out.call hb1); clear hb1; have c1 := HO1.out.c; have z1 := HO1.out.z; have f1 := HO1.out.f; have HO1 := hid (HO1.out.set 4 (.int .i64 0)); have d1 := HO1.out.c)
    | (go_at_call 23; (with_reducible refine (three_any r 0 0 2 0 v l p HK0.out _).mono ?_); rintro e w10 ⟨g10, hg10, rfl, hb10, hk10⟩; have HO10 := hid (HO1.out.call hb10); have HG10 := hid (Nat.lt_of_lt_of_le HO1.out.z hg10); have HB10 := hid hk10; clear hb10 hk10 hg10; have c10 := HO10.out.c; have z10 := HO10.out.z; have f10 := HO10.out.f)
    | (at_builtin; refine wpList_append_list rfl _ _ rfl (w.heap.size + 1) (.slice none 0 0) [] ⟨g10, threeB ⟨r, 0, 0, 2, 0, v, l, p⟩ 0⟩ rfl (Lists.nil _ _) (by simp) w10.heap.size 1 rfl (cell_box _ _ _) (byb_alloc HB10.out _) HG10.out (by simp) (by simp; have := HO10.out.z; omega) ?_; intro v11 w11 hl11 hgr11; have HO11 := hid (own_app (own_box HO10.out _) (Lists.nil _ _) hgr11.out); have HL11 := hid hl11.out; clear hl11 hgr11; have c11 := HO11.out.c; have z11 := HO11.out.z; have f11 := HO11.out.f; have HO11 := hid (HO11.out.set 4 (.int .i64 1)); have d11 := HO11.out.c; have HL11 := hid (HL11.out.set (Nat.lt_succ_self w.heap.size) 4 (.int .i64 1)))
    | (go_at_call 23; (with_reducible refine (three_any r 0 0 2 1 v l p HK1.out _).mono ?_); rintro e w12 ⟨g12, hg12, rfl, hb12, hk12⟩; have HO12 := hid (HO11.out.call hb12); have HG12 := hid (Nat.lt_of_lt_of_le HO11.out.z hg12); have HN12 := hid (HL11.out.not_new hg12); have HL12 := hid (HL11.out.below hb12); have HB12 := hid hk12; clear hb12 hk12 hg12; have c12 := HO12.out.c; have z12 := HO12.out.z; have f12 := HO12.out.f)
    | (at_builtin; refine wpList_append_list rfl _ _ rfl (w.heap.size + 1) v11 [⟨g10, threeB ⟨r, 0, 0, 2, 0, v, l, p⟩ 0⟩] ⟨g12, threeB ⟨r, 0, 0, 2, 1, v, l, p⟩ 1⟩ rfl (HL12.out.alloc _) (by simp) w12.heap.size 1 rfl (cell_box _ _ _) (byb_alloc HB12.out _) HG12.out HN12.out (by simp; have := HO12.out.z; omega) ?_; intro v13 w13 hl13 hgr13; have HO13 := hid (own_app (own_box HO12.out _) (HL12.out.alloc _) hgr13.out); have HL13 := hid hl13.out; clear hl13 hgr13; have c13 := HO13.out.c; have z13 := HO13.out.z; have f13 := HO13.out.f))
  go_ret2
  exact ⟨_, _, by rw [HE.out]; rfl, HO13.out.below, HL13.out.mono (Nat.le_succ _), by simp [waysF, HK.out, shortF, wF, threeB]⟩
set_option maxHeartbeats 2000000 in
theorem vall_t5 (r n v l p : Int) (HK : Hid (okF ⟨r, 0, 0, 3, n, v, l, p⟩ = true)) (w : World) :
    Calls Try.prog 7 #[.agg (VC r 0 0 3 n v l p), .bool true] w (VAll ⟨r, 0, 0, 3, n, v, l, p⟩ true w) := by
  have HE := hid (err_ok HK.out)
  have HK0 := hid (ok_w (k := 0) HK.out (.inl rfl))
  have HK1 := hid (ok_w (k := 1) HK.out (.inr rfl))
  have HO := hid ((Own.nil w).alloc w.heap.size (VC r 0 0 3 n v l p) 23 rfl)
  go_enter Try.func7, Try.ntmps7
  go_wp2_with (first
    | (go_at_call 9; refine (check_of HE.out _).mono ?_; rintro e w1 ⟨rfl, hb1⟩; have HO1 := hid (HO.out.call hb1); clear hb1; have c1 := HO1.out.c; have z1 := HO1.out.z; have f1 := HO1.out.f; have HO1 := hid (HO1.out.set 4 (.int .i64 0)); have d1 := HO1.out.c)
    | (go_at_call 23; (with_reducible refine (three_any r 0 0 3 0 v l p HK0.out _).mono ?_); rintro e w10 ⟨g10, hg10, rfl, hb10, hk10⟩; have HO10 := hid (HO1.out.call hb10); have HG10 := hid (Nat.lt_of_lt_of_le HO1.out.z hg10); have HB10 := hid hk10; clear hb10 hk10 hg10; have c10 := HO10.out.c; have z10 := HO10.out.z; have f10 := HO10.out.f)
    | (at_builtin; refine wpList_append_list rfl _ _ rfl (w.heap.size + 1) (.slice none 0 0) [] ⟨g10, threeB ⟨r, 0, 0, 3, 0, v, l, p⟩ 0⟩ rfl (Lists.nil _ _) (by simp) w10.heap.size 1 rfl (cell_box _ _ _) (byb_alloc HB10.out _) HG10.out (by simp) (by simp; have := HO10.out.z; omega) ?_; intro v11 w11 hl11 hgr11; have HO11 := hid (own_app (own_box HO10.out _) (Lists.nil _ _) hgr11.out); have HL11 := hid hl11.out; clear hl11 hgr11; have c11 := HO11.out.c; have z11 := HO11.out.z; have f11 := HO11.out.f; have HO11 := hid (HO11.out.set 4 (.int .i64 1)); have d11 := HO11.out.c; have HL11 := hid (HL11.out.set (Nat.lt_succ_self w.heap.size) 4 (.int .i64 1)))
    | (go_at_call 23; (with_reducible refine (three_any r 0 0 3 1 v l p HK1.out _).mono ?_); rintro e w12 ⟨g12, hg12, rfl, hb12, hk12⟩; have HO12 := hid (HO11.out.call hb12); have HG12 := hid (Nat.lt_of_lt_of_le HO11.out.z hg12); have HN12 := hid (HL11.out.not_new hg12); have HL12 := hid (HL11.out.below hb12); have HB12 := hid hk12; clear hb12 hk12 hg12; have c12 := HO12.out.c; have z12 := HO12.out.z; have f12 := HO12.out.f)
    | (at_builtin; refine wpList_append_list rfl _ _ rfl (w.heap.size + 1) v11 [⟨g10, threeB ⟨r, 0, 0, 3, 0, v, l, p⟩ 0⟩] ⟨g12, threeB ⟨r, 0, 0, 3, 1, v, l, p⟩ 1⟩ rfl (HL12.out.alloc _) (by simp) w12.heap.size 1 rfl (cell_box _ _ _) (byb_alloc HB12.out _) HG12.out HN12.out (by simp; have := HO12.out.z; omega) ?_; intro v13 w13 hl13 hgr13; have HO13 := hid (own_app (own_box HO12.out _) (HL12.out.alloc _) hgr13.out); have HL13 := hid hl13.out; clear hl13 hgr13; have c13 := HO13.out.c; have z13 := HO13.out.z; have f13 := HO13.out.f))
  go_ret2
  exact ⟨_, _, by rw [HE.out]; rfl, HO13.out.below, HL13.out.mono (Nat.le_succ _), by simp [waysF, HK.out, shortF, wF, threeB]⟩
theorem vall_any (r x b m n v l p : Int) (any : Bool) (w : World) :
    Calls Try.prog 7 #[.agg (VC r x b m n v l p), .bool any] w (VAll ⟨r, x, b, m, n, v, l, p⟩ any w) := by
  cases h : okF ⟨r, x, b, m, n, v, l, p⟩
  · exact vall_no r x b m n v l p any h w
  obtain ⟨-, hx, hb, hn, -, hm, -, -⟩ := ok_parts h
  simp only at hx hb hn hm
  have hm3 : m = 1 ∨ m = 2 ∨ m = 3 := by omega
  have HK := hid h
  clear h hm
  rcases hx with rfl | rfl
  · rcases hb with rfl | rfl
    · cases any
      · rcases hn with rfl | rfl
        · rcases hm3 with rfl | rfl | rfl
          · exact vall_f1 r v l p HK w
          · exact vall_f5 r v l p HK w
          · exact vall_f6 r v l p HK w
        · exact vall_f4 r m v l p HK w
      · rcases hm3 with rfl | rfl | rfl
        · exact vall_t1 r n v l p HK w
        · exact vall_t4 r n v l p HK w
        · exact vall_t5 r n v l p HK w
    · cases any
      · exact vall_f3 r m n v l p HK w
      · exact vall_t3 r m n v l p HK w
  · cases any
    · exact vall_f2 r b m n v l p HK w
    · exact vall_t2 r b m n v l p HK w
end Go.Proofs.Ytllnjmpakkodnaa
