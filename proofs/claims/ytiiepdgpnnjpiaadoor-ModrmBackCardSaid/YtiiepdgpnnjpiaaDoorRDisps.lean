/-
  The document's answer: behind a place, a displacement of so many bytes.
  The document's answer: behind a place, a displacement, in one.
-/
import Derived.Test.YtiiepdgpnnjpiaaDoorRSign
import Derived.Test.YtiiepdgpnnjpiaaDoorArgs
section
namespace Go.Proofs.YtiiepdgpnnjpiaaDoor
open Go.RowKit
set_option maxRecDepth 100000

theorem below_set2 {u w : World} {B k : Nat} (h : Below B u w) (hk : B ≤ k) (i : Nat) (v : Value) : Below B u (w.setCell ⟨k, i, none⟩ v) := h.setCell hk v
theorem below_alloc2 {u w : World} (h : Below u.heap.size u w) (o : Obj) : Below u.heap.size u (w.alloc o) := h.alloc h.size o
set_option maxHeartbeats 1000000 in
theorem rdisp_stop (A : Option Addr) (m c a s : Nat) (f p0 p1 p2 p3 p4 p5 p6 : Int) (w : World) (hs : s ≤ 4) (ha : a ≤ 1000000) (hl : m < a + s) :
    Calls Tryd.prog 38 #[.slice A m c, .int .i64 a, .int .i64 s, .int .i64 f, .agg #[.int .i64 p0, .int .i64 p1, .int .i64 p2, .int .i64 p3, .int .i64 p4, .int .i64 p5, .int .i64 p6]] w fun e w' => e = .returned (.tuple #[.agg #[.int .i64 0, .int .i64 0, .int .i64 0, .int .i64 0, .int .i64 0, .int .i64 0, .int .i64 0, .int .i64 0, .int .i64 0, .int .i64 0], .int .i64 9]) ∧ Below w.heap.size w w' := by
  have hge : w.heap.size ≤ w.heap.size + 1 := by omega
  go_enter Tryd.func38, Tryd.ntmps38
  go_wp2_with (with_reducible change bodyPost _ _ _ Exit.ret _ _; go_loud (refine bodyPost_ret (v := .tuple #[.agg #[.int .i64 0, .int .i64 0, .int .i64 0, .int .i64 0, .int .i64 0, .int .i64 0, .int .i64 0, .int .i64 0, .int .i64 0, .int .i64 0], .int .i64 9]) (by simp [results, Tryd.results38, go_sem, *]) rfl ⟨rfl, ?_⟩))
  all_goals (repeat first | with_reducible exact Below.refl _ _ | with_reducible refine below_set2 ?_ hge _ _ | with_reducible refine below_alloc2 ?_ _)
set_option maxHeartbeats 1000000 in
theorem rdisp_0 (A : Option Addr) (m c a : Nat) (f p0 p1 p2 p3 p4 p5 p6 y0 y1 y2 y3 y4 y5 y6 kk : Int) (w : World) (hmc : m ≤ c) (ha : a ≤ 1000000) (hl : a + 0 ≤ m) (HX : Hid (outF ⟨p0, p1, p2, p3, p4, 0, p6⟩ = ⟨y0, y1, y2, y3, y4, y5, y6⟩)) (HK : Hid (checkF ⟨p0, p1, p2, p3, p4, 0, p6⟩ = kk)) :
    Calls Tryd.prog 38 #[.slice A m c, .int .i64 a, .int .i64 0, .int .i64 f, .agg #[.int .i64 p0, .int .i64 p1, .int .i64 p2, .int .i64 p3, .int .i64 p4, .int .i64 p5, .int .i64 p6]] w fun e w' => e = .returned (.tuple #[.agg #[.int .i64 f, .int .i64 (-1), .int .i64 y0, .int .i64 y1, .int .i64 y2, .int .i64 y3, .int .i64 y4, .int .i64 y5, .int .i64 y6, .int .i64 a], .int .i64 0]) ∧ Below w.heap.size w w' := by
  have HO := hid (((Own.nil w).alloc w.heap.size #[.int .i64 p0, .int .i64 p1, .int .i64 p2, .int .i64 p3, .int .i64 p4, .int .i64 p5, .int .i64 p6] 25 rfl).alloc (w.heap.size + 1) #[.int .i64 0, .int .i64 0, .int .i64 0, .int .i64 0, .int .i64 0, .int .i64 0, .int .i64 0, .int .i64 0, .int .i64 0, .int .i64 0] 41 (by simp))
  have hm1 : a + 0 ≤ c := by omega
  have hm2 : (a : Int) + 0 ≤ m := by omega
  go_enter Tryd.func38, Tryd.ntmps38
  go_wp2_with fail
  all_goals
    refine (rsign_0 _ _ _).mono ?_
    rintro e w1 ⟨rfl, rfl⟩
    generalize hW1 : (w.alloc (.cells #[.int .i64 p0, .int .i64 p1, .int .i64 p2, .int .i64 p3, .int .i64 p4, .int .i64 p5, .int .i64 p6] 25)).alloc (.cells #[.int .i64 0, .int .i64 0, .int .i64 0, .int .i64 0, .int .i64 0, .int .i64 0, .int .i64 0, .int .i64 0, .int .i64 0, .int .i64 0] 41) = W1 at *
    have HM := hid (HO.out.swap.set 5 (.int .i64 0))
    clear hW1
    have c0 := HO.out.tl.c
    have z0 := HO.out.tl.z
    have f0 := HO.out.tl.f
    have c1 := HO.out.c
    have z1 := HO.out.z
    go_wp2_with fail
    generalize W1.setCell ⟨w.heap.size, 5, none⟩ (.int .i64 0) = W2 at *
    refine (rcanon_of (p := ⟨y0, y1, y2, y3, y4, y5, y6⟩) HX.out HK.out _).mono ?_
    rintro e w7 ⟨rfl, hb7⟩
    unfold MV
    have HM := hid (HM.out.call hb7)
    clear hb7 c0 z0 f0 c1 z1
    have c0 := HM.out.c
    have z0 := HM.out.z
    have f0 := HM.out.f
    have c1 := HM.out.tl.c
    have z1 := HM.out.tl.z
    have f1 := HM.out.tl.f
    have hge : w.heap.size ≤ w.heap.size + 1 := by omega
    have hge2 : w.heap.size ≤ w.heap.size := Nat.le_refl _
    go_wp2_with (with_reducible change bodyPost _ _ _ Exit.ret _ _; go_loud (refine bodyPost_ret (v := .tuple #[.agg #[.int .i64 f, .int .i64 (-1), .int .i64 y0, .int .i64 y1, .int .i64 y2, .int .i64 y3, .int .i64 y4, .int .i64 y5, .int .i64 y6, .int .i64 a], .int .i64 0]) (by simp [results, Tryd.results38, go_sem, *]) rfl ⟨rfl, ?_⟩))
    repeat first | with_reducible exact HM.out.below | with_reducible refine below_set2 ?_ hge _ _ | with_reducible refine below_set2 ?_ hge2 _ _ | with_reducible refine below_alloc2 ?_ _
set_option maxHeartbeats 1000000 in
theorem rdisp_1 (b off : Nat) (m c a : Nat) (f p0 p1 p2 p3 p4 p5 p6 y0 y1 y2 y3 y4 y5 y6 d kk : Int) (w : World) (zs : List Int) (hz : isBytes zs) (hzl : zs.length = 1) (hc : ∀ i, i < 1 → w.cell? ⟨b, off + a + i, none⟩ = some (.int .u8 (zs[i]?.getD 0))) (hd : Hid (sgn (le zs) 8 = d)) (hmc : m ≤ c) (ha : a ≤ 1000000) (hl : a + 1 ≤ m) (HX : Hid (outF ⟨p0, p1, p2, p3, p4, d, p6⟩ = ⟨y0, y1, y2, y3, y4, y5, y6⟩)) (HK : Hid (checkF ⟨p0, p1, p2, p3, p4, d, p6⟩ = kk)) :
    Calls Tryd.prog 38 #[.slice (some ⟨b, off, none⟩) m c, .int .i64 a, .int .i64 1, .int .i64 f, .agg #[.int .i64 p0, .int .i64 p1, .int .i64 p2, .int .i64 p3, .int .i64 p4, .int .i64 p5, .int .i64 p6]] w fun e w' => e = .returned (.tuple #[.agg #[.int .i64 f, .int .i64 (-1), .int .i64 y0, .int .i64 y1, .int .i64 y2, .int .i64 y3, .int .i64 y4, .int .i64 y5, .int .i64 y6, .int .i64 ((a : Int) + 1)], .int .i64 0]) ∧ Below w.heap.size w w' := by
  have HO := hid (((Own.nil w).alloc w.heap.size #[.int .i64 p0, .int .i64 p1, .int .i64 p2, .int .i64 p3, .int .i64 p4, .int .i64 p5, .int .i64 p6] 25 rfl).alloc (w.heap.size + 1) #[.int .i64 0, .int .i64 0, .int .i64 0, .int .i64 0, .int .i64 0, .int .i64 0, .int .i64 0, .int .i64 0, .int .i64 0, .int .i64 0] 41 (by simp))
  have HCC := hid (fun (W : World) (hW : Below w.heap.size w W) i (hi : i < 1) => (hW.cell (p := ⟨b, off + a + i, none⟩) (World.block_lt_of_cell? w _ (hc i hi))).trans (hc i hi))
  have HZ := hid (And.intro hz hzl)
  clear hc hz hzl
  have hac : ¬ c = a := by omega
  have hm1 : a + 1 ≤ c := by omega
  have hm2 : (a : Int) + 1 ≤ m := by omega
  go_enter Tryd.func38, Tryd.ntmps38
  go_wp2_with fail
  refine (rsign_1 b (off + a) _ zs _ HZ.out.1 HZ.out.2 (HCC.out _ HO.out.below)).mono ?_
  rw [hd.out]
  rintro e w1 ⟨rfl, rfl⟩
  generalize hW1 : (w.alloc (.cells #[.int .i64 p0, .int .i64 p1, .int .i64 p2, .int .i64 p3, .int .i64 p4, .int .i64 p5, .int .i64 p6] 25)).alloc (.cells #[.int .i64 0, .int .i64 0, .int .i64 0, .int .i64 0, .int .i64 0, .int .i64 0, .int .i64 0, .int .i64 0, .int .i64 0, .int .i64 0] 41) = W1 at *
  have HM := hid (HO.out.swap.set 5 (.int .i64 d))
  clear hW1
  have c0 := HO.out.tl.c
  have z0 := HO.out.tl.z
  have f0 := HO.out.tl.f
  have c1 := HO.out.c
  have z1 := HO.out.z
  go_wp2_with fail
  generalize W1.setCell ⟨w.heap.size, 5, none⟩ (.int .i64 d) = W2 at *
  refine (rcanon_of (p := ⟨y0, y1, y2, y3, y4, y5, y6⟩) HX.out HK.out _).mono ?_
  rintro e w7 ⟨rfl, hb7⟩
  unfold MV
  have HM := hid (HM.out.call hb7)
  clear hb7 c0 z0 f0 c1 z1
  have c0 := HM.out.c
  have z0 := HM.out.z
  have f0 := HM.out.f
  have c1 := HM.out.tl.c
  have z1 := HM.out.tl.z
  have f1 := HM.out.tl.f
  have hge : w.heap.size ≤ w.heap.size + 1 := by omega
  have hge2 : w.heap.size ≤ w.heap.size := Nat.le_refl _
  have hw : wrap64 ((a : Int) + 1) = (a : Int) + 1 := IntWalk.wrap64_in _ ⟨by omega, by omega⟩
  go_wp2_with (with_reducible change bodyPost _ _ _ Exit.ret _ _; go_loud (refine bodyPost_ret (v := .tuple #[.agg #[.int .i64 f, .int .i64 (-1), .int .i64 y0, .int .i64 y1, .int .i64 y2, .int .i64 y3, .int .i64 y4, .int .i64 y5, .int .i64 y6, .int .i64 ((a : Int) + 1)], .int .i64 0]) (by simp [results, Tryd.results38, go_sem, *]) rfl ⟨rfl, ?_⟩))
  repeat first | with_reducible exact HM.out.below | with_reducible refine below_set2 ?_ hge _ _ | with_reducible refine below_set2 ?_ hge2 _ _ | with_reducible refine below_alloc2 ?_ _
set_option maxHeartbeats 1000000 in
theorem rdisp_4 (b off : Nat) (m c a : Nat) (f p0 p1 p2 p3 p4 p5 p6 y0 y1 y2 y3 y4 y5 y6 d kk : Int) (w : World) (zs : List Int) (hz : isBytes zs) (hzl : zs.length = 4) (hc : ∀ i, i < 4 → w.cell? ⟨b, off + a + i, none⟩ = some (.int .u8 (zs[i]?.getD 0))) (hd : Hid (sgn (le zs) 32 = d)) (hmc : m ≤ c) (ha : a ≤ 1000000) (hl : a + 4 ≤ m) (HX : Hid (outF ⟨p0, p1, p2, p3, p4, d, p6⟩ = ⟨y0, y1, y2, y3, y4, y5, y6⟩)) (HK : Hid (checkF ⟨p0, p1, p2, p3, p4, d, p6⟩ = kk)) :
    Calls Tryd.prog 38 #[.slice (some ⟨b, off, none⟩) m c, .int .i64 a, .int .i64 4, .int .i64 f, .agg #[.int .i64 p0, .int .i64 p1, .int .i64 p2, .int .i64 p3, .int .i64 p4, .int .i64 p5, .int .i64 p6]] w fun e w' => e = .returned (.tuple #[.agg #[.int .i64 f, .int .i64 (-1), .int .i64 y0, .int .i64 y1, .int .i64 y2, .int .i64 y3, .int .i64 y4, .int .i64 y5, .int .i64 y6, .int .i64 ((a : Int) + 4)], .int .i64 0]) ∧ Below w.heap.size w w' := by
  have HO := hid (((Own.nil w).alloc w.heap.size #[.int .i64 p0, .int .i64 p1, .int .i64 p2, .int .i64 p3, .int .i64 p4, .int .i64 p5, .int .i64 p6] 25 rfl).alloc (w.heap.size + 1) #[.int .i64 0, .int .i64 0, .int .i64 0, .int .i64 0, .int .i64 0, .int .i64 0, .int .i64 0, .int .i64 0, .int .i64 0, .int .i64 0] 41 (by simp))
  have HCC := hid (fun (W : World) (hW : Below w.heap.size w W) i (hi : i < 4) => (hW.cell (p := ⟨b, off + a + i, none⟩) (World.block_lt_of_cell? w _ (hc i hi))).trans (hc i hi))
  have HZ := hid (And.intro hz hzl)
  clear hc hz hzl
  have hac : ¬ c = a := by omega
  have hm1 : a + 4 ≤ c := by omega
  have hm2 : (a : Int) + 4 ≤ m := by omega
  go_enter Tryd.func38, Tryd.ntmps38
  go_wp2_with fail
  refine (rsign_4 b (off + a) _ zs _ HZ.out.1 HZ.out.2 (HCC.out _ HO.out.below)).mono ?_
  rw [hd.out]
  rintro e w1 ⟨rfl, rfl⟩
  generalize hW1 : (w.alloc (.cells #[.int .i64 p0, .int .i64 p1, .int .i64 p2, .int .i64 p3, .int .i64 p4, .int .i64 p5, .int .i64 p6] 25)).alloc (.cells #[.int .i64 0, .int .i64 0, .int .i64 0, .int .i64 0, .int .i64 0, .int .i64 0, .int .i64 0, .int .i64 0, .int .i64 0, .int .i64 0] 41) = W1 at *
  have HM := hid (HO.out.swap.set 5 (.int .i64 d))
  clear hW1
  have c0 := HO.out.tl.c
  have z0 := HO.out.tl.z
  have f0 := HO.out.tl.f
  have c1 := HO.out.c
  have z1 := HO.out.z
  go_wp2_with fail
  generalize W1.setCell ⟨w.heap.size, 5, none⟩ (.int .i64 d) = W2 at *
  refine (rcanon_of (p := ⟨y0, y1, y2, y3, y4, y5, y6⟩) HX.out HK.out _).mono ?_
  rintro e w7 ⟨rfl, hb7⟩
  unfold MV
  have HM := hid (HM.out.call hb7)
  clear hb7 c0 z0 f0 c1 z1
  have c0 := HM.out.c
  have z0 := HM.out.z
  have f0 := HM.out.f
  have c1 := HM.out.tl.c
  have z1 := HM.out.tl.z
  have f1 := HM.out.tl.f
  have hge : w.heap.size ≤ w.heap.size + 1 := by omega
  have hge2 : w.heap.size ≤ w.heap.size := Nat.le_refl _
  have hw : wrap64 ((a : Int) + 4) = (a : Int) + 4 := IntWalk.wrap64_in _ ⟨by omega, by omega⟩
  go_wp2_with (with_reducible change bodyPost _ _ _ Exit.ret _ _; go_loud (refine bodyPost_ret (v := .tuple #[.agg #[.int .i64 f, .int .i64 (-1), .int .i64 y0, .int .i64 y1, .int .i64 y2, .int .i64 y3, .int .i64 y4, .int .i64 y5, .int .i64 y6, .int .i64 ((a : Int) + 4)], .int .i64 0]) (by simp [results, Tryd.results38, go_sem, *]) rfl ⟨rfl, ?_⟩))
  repeat first | with_reducible exact HM.out.below | with_reducible refine below_set2 ?_ hge _ _ | with_reducible refine below_set2 ?_ hge2 _ _ | with_reducible refine below_alloc2 ?_ _
end Go.Proofs.YtiiepdgpnnjpiaaDoor
end
section
namespace Go.Proofs.YtiiepdgpnnjpiaaDoor
open Go.RowKit
set_option maxRecDepth 100000

/-- What the document's disp answers: the error, what was seen, where it ends. -/
def docD (xs : List Int) (a n : Nat) (f : Int) (p : Pl) : Int × Sn × Int :=
  if xs.length < a + n then (9, zeroS, 0) else (0, ⟨f, -1, outF { p with d := dispN xs a n }, 0⟩, (a : Int) + n)
/-- An answer as it is handed back. -/
abbrev RV (r : Int × Sn × Int) : Value := .tuple #[.agg #[.int .i64 r.2.1.f, .int .i64 r.2.1.r, .int .i64 r.2.1.m.bc, .int .i64 r.2.1.m.bn, .int .i64 r.2.1.m.ic, .int .i64 r.2.1.m.ix, .int .i64 r.2.1.m.s, .int .i64 r.2.1.m.d, .int .i64 r.2.1.m.z, .int .i64 r.2.2], .int .i64 r.1]
theorem getN_le {xs : List Int} (hx : isBytes xs) (a n : Nat) (hn : n = 1 ∨ n = 4) (h : a + n ≤ xs.length) : getN xs a n true = sgn (le ((xs.drop a).take n)) (8 * n) := by
  have hso : sizeOk (n : Int) = true := by rcases hn with rfl | rfl <;> rfl
  rw [getN_ok xs a n true hso h]
  simp only [if_true]
  have hb := le_small ((hx.drop a).take n) (by rw [List.length_take]; omega) 0
  rw [List.drop_zero] at hb
  unfold numAt
  rw [IntWalk.wrap64_in _ ⟨by omega, by omega⟩]
theorem rdisp_any (A : Option Addr) (m c a n : Nat) (f : Int) (p : Pl) (xs : List Int) (w : World) (hm : xs.length = m) (hmc : m ≤ c) (ha : a ≤ 1000000) (ham : a ≤ m) (hM : Mem w w.heap.size A xs) (hn : n = 0 ∨ n = 1 ∨ n = 4) :
    Calls Tryd.prog 38 #[.slice A m c, .int .i64 a, .int .i64 n, .int .i64 f, MV p] w fun e w' => e = .returned (RV (docD xs a n f p)) ∧ Below w.heap.size w w' := by
  obtain ⟨p0, p1, p2, p3, p4, p5, p6⟩ := p
  subst hm
  unfold docD
  by_cases hl : xs.length < a + n
  · rw [if_pos hl]
    exact rdisp_stop A _ c a n f p0 p1 p2 p3 p4 p5 p6 w (by omega) ha hl
  · rw [if_neg hl]
    obtain ⟨d, hd⟩ : ∃ d, dispN xs a n = d := ⟨_, rfl⟩
    rw [hd]
    obtain ⟨⟨y0, y1, y2, y3, y4, y5, y6⟩, hy⟩ : ∃ y, outF ⟨p0, p1, p2, p3, p4, d, p6⟩ = y := ⟨_, rfl⟩
    obtain ⟨kk, hk⟩ : ∃ kk, checkF ⟨p0, p1, p2, p3, p4, d, p6⟩ = kk := ⟨_, rfl⟩
    simp only [hy]
    by_cases h0 : n = 0
    · subst h0
      have hd0 : d = 0 := by rw [← hd]; simp [dispN]
      subst hd0
      have := rdisp_0 A _ c a f p0 p1 p2 p3 p4 p5 p6 y0 y1 y2 y3 y4 y5 y6 kk w hmc ha (by omega) (hid hy) (hid hk)
      simpa using this
    · have hn2 : n = 1 ∨ n = 4 := by omega
      obtain ⟨hb, hM⟩ := hM
      rcases hM with rfl | ⟨b, off, rfl, _, hc⟩
      · simp at hl; omega
      have hcz : ∀ i, i < n → w.cell? ⟨b, off + a + i, none⟩ = some (.int .u8 (((xs.drop a).take n)[i]?.getD 0)) := by
        intro i hi
        have := hc (a + i) (by omega)
        rw [← Nat.add_assoc] at this
        rw [this, List.getElem?_take, if_pos hi, List.getElem?_drop]
      have hlz : ((xs.drop a).take n).length = n := by rw [List.length_take, List.length_drop]; omega
      have hsg : sgn (le ((xs.drop a).take n)) (8 * n) = d := by
        rw [← getN_le hb a n hn2 (by omega), ← hd]
        unfold dispN
        rw [if_neg h0]
      rcases hn2 with rfl | rfl
      · exact rdisp_1 b off _ c a f p0 p1 p2 p3 p4 p5 p6 y0 y1 y2 y3 y4 y5 y6 d kk w ((xs.drop a).take 1) ((hb.drop a).take 1) hlz hcz (hid hsg) hmc ha (by omega) (hid hy) (hid hk)
      · exact rdisp_4 b off _ c a f p0 p1 p2 p3 p4 p5 p6 y0 y1 y2 y3 y4 y5 y6 d kk w ((xs.drop a).take 4) ((hb.drop a).take 4) hlz hcz (hid hsg) hmc ha (by omega) (hid hy) (hid hk)
end Go.Proofs.YtiiepdgpnnjpiaaDoor
end
