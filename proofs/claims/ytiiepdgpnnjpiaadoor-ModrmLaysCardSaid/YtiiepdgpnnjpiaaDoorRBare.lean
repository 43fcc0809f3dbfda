/-
  The document's answer: a place with each displacement that may be, in one; a place without a base.
-/
import Derived.Test.YtiiepdgpnnjpiaaDoorRThree
import Derived.Test.YtiiepdgpnnjpiaaDoorArgs
import Derived.OwnWalk
namespace Go.Proofs.YtiiepdgpnnjpiaaDoor
open Go.RowKit
set_option maxRecDepth 100000

theorem three_any (f rm s d : Int) (short : Bool) (x b : Int) (hf : 0 ≤ f ∧ f ≤ 7) (hrm : 0 ≤ rm ∧ rm ≤ 7) (hs : -1 ≤ s ∧ s < 256) (w : World) :
    Calls Tryd.prog 57 #[.int .i64 f, .int .i64 rm, .int .i64 s, .int .i64 d, .bool short, .int .i64 x, .int .i64 b] w fun e w' => ∃ v, e = .returned v ∧ Below w.heap.size w w' ∧ LaysR w' w.heap.size v (threeF f rm s d short x b) := by
  by_cases h : -128 ≤ d ∧ d ≤ 127
  · cases short
    · have e : threeF f rm s d false x b = [⟨headB 1 f rm s ++ [d % 256], x, b⟩] ++ [⟨headB 2 f rm s ++ bytesOf d 4, x, b⟩] := by simp [threeF, h]
      rw [e]
      exact three_1 f rm s d x b hf hrm hs h.1 h.2 w
    · cases k : (d == 0)
      · have e : threeF f rm s d true x b = [⟨headB 1 f rm s ++ [d % 256], x, b⟩] ++ [⟨headB 2 f rm s ++ bytesOf d 4, x, b⟩] := by simp [threeF, h, k]
        rw [e]
        exact three_s1 f rm s d x b hf hrm hs k h.1 h.2 w
      · have e : threeF f rm s d true x b = [⟨headB 0 f rm s, x, b⟩] ++ [⟨headB 1 f rm s ++ [d % 256], x, b⟩] ++ [⟨headB 2 f rm s ++ bytesOf d 4, x, b⟩] := by simp [threeF, h, k]
        rw [e]
        exact three_s2 f rm s d x b hf hrm hs k h.1 h.2 w
  · have h' : d < -128 ∨ 127 < d := by omega
    have e : threeF f rm s d short x b = [⟨headB 2 f rm s ++ bytesOf d 4, x, b⟩] := by
      have k : (d == 0) = false := by simp; omega
      have k2 : (decide (-128 ≤ d) && decide (d ≤ 127)) = false := by simp; omega
      simp [threeF, k, k2]
    rw [e]
    cases short
    · exact three_0 f rm s d x b hf hrm hs h' w
    · exact three_s0 f rm s d x b hf hrm hs (by simp; omega) h' w
theorem lowF_range (c n : Int) : 0 ≤ lowF c n ∧ lowF c n ≤ 7 := by unfold lowF; split <;> omega
/-- A place without a base, as the document lays it. -/
def bareF (f c n s d : Int) : Way := ⟨headB 0 f 4 (64 * shiftF s + 8 * (if c = 0 then 4 else lowF c n) + 5) ++ bytesOf d 4, highF c n, 0⟩
theorem low_of {c n l : Int} (h : lowF c n = l) (w : World) : Calls Tryd.prog 29 #[.agg #[.int .i64 c, .int .i64 n]] w fun e w' => e = .returned (.int .i64 l) ∧ Below w.heap.size w w' := by rw [← h]; exact rlow_reg c n w
theorem high_of {c n l : Int} (h : highF c n = l) (w : World) : Calls Tryd.prog 30 #[.agg #[.int .i64 c, .int .i64 n]] w fun e w' => e = .returned (.int .i64 l) ∧ Below w.heap.size w w' := by rw [← h]; exact rhigh_reg c n w
theorem scale_of {s q : Int} (h : shiftF s = q) (w : World) : Calls Tryd.prog 56 #[.int .i64 s] w fun e w' => e = .returned (.int .i64 q) ∧ w = w' := by rw [← h]; exact rscale_any s w
theorem RowV.mono {w : World} {base base' : Nat} {v : Value} {bs : List Int} (h : RowV w base v bs) (hb : base' ≤ base) : RowV w base' v bs := by
  obtain ⟨h1, h2, h3⟩ := h
  refine ⟨h1, h2, ?_⟩
  rcases h3 with h3 | ⟨g, cap, cur, e, hge, rest⟩
  · exact .inl h3
  · exact .inr ⟨g, cap, cur, e, by omega, rest⟩
theorem RowV.two {w : World} {base : Nat} {v : Value} {bs : List Int} (h : RowV w base v bs) (hne : bs ≠ []) : ∃ g n c, v = .slice (some ⟨g, 0, none⟩) n c := by
  obtain ⟨g, c, e, _⟩ := h.form hne
  exact ⟨g, _, c, e⟩
theorem RowV.set {w : World} {base k : Nat} {v : Value} {bs : List Int} (h : RowV w base v bs) (hk : k < base) (i : Nat) (u : Value) : RowV (w.setCell ⟨k, i, none⟩ u) base v bs := by
  obtain ⟨h1, h2, h3⟩ := h
  refine ⟨h1, h2, ?_⟩
  rcases h3 with h3 | ⟨g, cap, cur, e, hge, hg, rest⟩
  · exact .inl h3
  · exact .inr ⟨g, cap, cur, e, hge, (heap_setCell_other _ _ _ _ (by show g ≠ k; omega)).trans hg, rest⟩
-- BARE
set_option maxHeartbeats 1000000 in
theorem bare_0 (f n s d : Int) (hf : 0 ≤ f ∧ f ≤ 7) (w : World) :
    Calls Tryd.prog 55 #[.int .i64 f, .agg #[.int .i64 0, .int .i64 n], .int .i64 s, .int .i64 d] w fun e w' => ∃ v, e = .returned (.agg #[v, .int .i64 (bareF f 0 n s d).x, .int .i64 0]) ∧ Below w.heap.size w w' ∧ RowV w' w.heap.size v (bareF f 0 n s d).bs := by
  obtain ⟨q, hq⟩ : ∃ q, shiftF s = q := ⟨_, rfl⟩
  obtain ⟨g, hg⟩ : ∃ g, highF 0 n = g := ⟨_, rfl⟩
  have HQ := hid hq
  have HG := hid hg
  have hq0 : 0 ≤ q ∧ q ≤ 3 := hq ▸ shiftF_range s
  have HR := hid (show (bareF f 0 n s d).bs = headB 0 f 4 (64 * q + 32 + 5) ++ bytesOf d 4 by unfold bareF; rw [hq]; first | (rw [if_pos rfl]; rfl) | rw [if_neg h])
  have HX := hid (show (bareF f 0 n s d).x = g by unfold bareF; exact hg)
  rw [HX.out]
  clear hq hg
  have HO := hid (((Own.nil w).alloc w.heap.size #[.int .i64 0, .int .i64 n] 23 rfl).alloc (w.heap.size + 1) #[.slice none 0 0, .int .i64 0, .int .i64 0] 34 (by simp))
  go_enter Tryd.func55, Tryd.ntmps55
  go_wp2_with fail
  refine (scale_of HQ.out _).mono ?_
  rintro e w2 ⟨rfl, rfl⟩
  go_wp2_with fail
  refine (rhead_any 0 f 4 (64 * q + 32 + 5) (by omega) hf (by omega) (by omega) _).mono ?_
  rintro e wh ⟨vh, rfl, hbh, hrh⟩
  have HBH := hid hbh
  have HRH := hid hrh
  clear hbh hrh
  go_wp2_with fail
  refine (rfour_any d _).mono ?_
  rintro e w4 ⟨rfl, hb4, hk4⟩
  have HB4 := hid hb4
  have HK4 := hid hk4
  clear hb4 hk4
  go_wp2_with (at_builtin; go_loud (have HB0 := hid HO.out.z; refine wpList_append_bytes rfl _ _ rfl ((w.alloc (.cells #[.int .i64 0, .int .i64 n] 23)).alloc (.cells #[.slice none 0 0, .int .i64 0, .int .i64 0] 34)).heap.size vh (headB 0 f 4 (64 * q + 32 + 5)).length (headB 0 f 4 (64 * q + 32 + 5)) rfl ((Cells.below HB4.out).row HRH.out.2) (some ⟨wh.heap.size, 0, none⟩) 4 4 (wh.heap.size + 1) (bytesOf d 4) (bytesOf_length d 4) rfl (HK4.out.mem (bytesOf_range d 4) (by omega)) (by have := headB_len 0 f 4 (64 * q + 32 + 5); omega) (by have q1 := HBH.out.size; have q2 := HB4.out.size; omega) ?_; intro v2 w2 ho2 hg2; have HO := hid (HO.out.call ((HBH.out.trans (HB4.out.mono HBH.out.size)).grown hg2 (by have q1 := HBH.out.size; have q2 := HB4.out.size; omega) (fun k hk => (HRH.out.2.lt k hk).1))); have HRV := hid (show RowV w2 (w.heap.size + 1 + 1) v2 (headB 0 f 4 (64 * q + 32 + 5) ++ bytesOf d 4) from RowV.mono ⟨HRH.out.1.append (bytesOf_range d 4), by rw [List.length_append, bytesOf_length]; exact ho2.out⟩ HB0.out); obtain ⟨g7, n7, c7, rfl⟩ := HRV.out.two (by simp [headB]); clear ho2 hg2 HRH HBH HB4 HK4; have c0 := HO.out.c; have f0 := HO.out.f; have z0 := HO.out.z; have c1 := HO.out.tl.c; have z1 := HO.out.tl.z))
  refine (high_of HG.out _).mono ?_
  rintro e w5 ⟨rfl, hb5⟩
  have HO := hid (HO.out.call hb5)
  have HRV := hid (show RowV w5 (w.heap.size + 1 + 1) (.slice (some ⟨g7, 0, none⟩) n7 c7) _ from ⟨HRV.out.1, (Cells.below hb5).row HRV.out.2⟩)
  clear hb5
  have c0 := HO.out.c; have f0 := HO.out.f; have z0 := HO.out.z; have c1 := HO.out.tl.c; have z1 := HO.out.tl.z
  go_wp2_with (with_reducible change bodyPost _ _ _ Exit.ret _ _; go_loud (refine bodyPost_ret (v := .agg #[.slice (some ⟨g7, 0, none⟩) n7 c7, .int .i64 g, .int .i64 0]) (by simp [results, Tryd.results55, go_sem, *]) rfl ⟨.slice (some ⟨g7, 0, none⟩) n7 c7, rfl, ?_, ?_⟩))
  · exact ((HO.out.below.setCell (by simp) _).setCell (by simp) _).setCell (by simp) _
  · rw [HR.out]
    exact ((((HRV.out.set (by omega) _ _).set (by omega) _ _).set (by omega) _ _)).mono (by omega)
set_option maxHeartbeats 1000000 in
theorem bare_1 (f c n s d : Int) (hf : 0 ≤ f ∧ f ≤ 7) (h : ¬ c = 0) (w : World) :
    Calls Tryd.prog 55 #[.int .i64 f, .agg #[.int .i64 c, .int .i64 n], .int .i64 s, .int .i64 d] w fun e w' => ∃ v, e = .returned (.agg #[v, .int .i64 (bareF f c n s d).x, .int .i64 0]) ∧ Below w.heap.size w w' ∧ RowV w' w.heap.size v (bareF f c n s d).bs := by
  obtain ⟨q, hq⟩ : ∃ q, shiftF s = q := ⟨_, rfl⟩
  obtain ⟨g, hg⟩ : ∃ g, highF c n = g := ⟨_, rfl⟩
  obtain ⟨l, hl⟩ : ∃ l, lowF c n = l := ⟨_, rfl⟩
  have hl0 : 0 ≤ l ∧ l ≤ 7 := hl ▸ lowF_range c n
  have HL := hid hl
  have HQ := hid hq
  have HG := hid hg
  have hq0 : 0 ≤ q ∧ q ≤ 3 := hq ▸ shiftF_range s
  have HR := hid (show (bareF f c n s d).bs = headB 0 f 4 (64 * q + 8 * l + 5) ++ bytesOf d 4 by unfold bareF; rw [hq, hl]; first | (rw [if_pos h]; rfl) | rw [if_neg h])
  have HX := hid (show (bareF f c n s d).x = g by unfold bareF; exact hg)
  rw [HX.out]
  clear hq hg hl
  have HO := hid (((Own.nil w).alloc w.heap.size #[.int .i64 c, .int .i64 n] 23 rfl).alloc (w.heap.size + 1) #[.slice none 0 0, .int .i64 0, .int .i64 0] 34 (by simp))
  go_enter Tryd.func55, Tryd.ntmps55
  go_wp2_with fail
  refine (low_of HL.out _).mono ?_
  rintro e w1 ⟨rfl, hb1⟩
  have HO := hid (HO.out.call hb1)
  clear hb1
  have c0 := HO.out.c; have f0 := HO.out.f; have z0 := HO.out.z; have c1 := HO.out.tl.c; have z1 := HO.out.tl.z
  go_wp2_with fail
  refine (scale_of HQ.out _).mono ?_
  rintro e w2 ⟨rfl, rfl⟩
  go_wp2_with fail
  refine (rhead_any 0 f 4 (64 * q + 8 * l + 5) (by omega) hf (by omega) (by omega) _).mono ?_
  rintro e wh ⟨vh, rfl, hbh, hrh⟩
  have HBH := hid hbh
  have HRH := hid hrh
  clear hbh hrh
  go_wp2_with fail
  refine (rfour_any d _).mono ?_
  rintro e w4 ⟨rfl, hb4, hk4⟩
  have HB4 := hid hb4
  have HK4 := hid hk4
  clear hb4 hk4
  go_wp2_with (at_builtin; go_loud (have HB0 := hid HO.out.z; refine wpList_append_bytes rfl _ _ rfl w1.heap.size vh (headB 0 f 4 (64 * q + 8 * l + 5)).length (headB 0 f 4 (64 * q + 8 * l + 5)) rfl ((Cells.below HB4.out).row HRH.out.2) (some ⟨wh.heap.size, 0, none⟩) 4 4 (wh.heap.size + 1) (bytesOf d 4) (bytesOf_length d 4) rfl (HK4.out.mem (bytesOf_range d 4) (by omega)) (by have := headB_len 0 f 4 (64 * q + 8 * l + 5); omega) (by have q1 := HBH.out.size; have q2 := HB4.out.size; omega) ?_; intro v2 w2 ho2 hg2; have HO := hid (HO.out.call ((HBH.out.trans (HB4.out.mono HBH.out.size)).grown hg2 (by have q1 := HBH.out.size; have q2 := HB4.out.size; omega) (fun k hk => (HRH.out.2.lt k hk).1))); have HRV := hid (show RowV w2 (w.heap.size + 1 + 1) v2 (headB 0 f 4 (64 * q + 8 * l + 5) ++ bytesOf d 4) from RowV.mono ⟨HRH.out.1.append (bytesOf_range d 4), by rw [List.length_append, bytesOf_length]; exact ho2.out⟩ HB0.out); obtain ⟨g7, n7, c7, rfl⟩ := HRV.out.two (by simp [headB]); clear ho2 hg2 HRH HBH HB4 HK4; have c0 := HO.out.c; have f0 := HO.out.f; have z0 := HO.out.z; have c1 := HO.out.tl.c; have z1 := HO.out.tl.z))
  refine (high_of HG.out _).mono ?_
  rintro e w5 ⟨rfl, hb5⟩
  have HO := hid (HO.out.call hb5)
  have HRV := hid (show RowV w5 (w.heap.size + 1 + 1) (.slice (some ⟨g7, 0, none⟩) n7 c7) _ from ⟨HRV.out.1, (Cells.below hb5).row HRV.out.2⟩)
  clear hb5
  have c0 := HO.out.c; have f0 := HO.out.f; have z0 := HO.out.z; have c1 := HO.out.tl.c; have z1 := HO.out.tl.z
  go_wp2_with (with_reducible change bodyPost _ _ _ Exit.ret _ _; go_loud (refine bodyPost_ret (v := .agg #[.slice (some ⟨g7, 0, none⟩) n7 c7, .int .i64 g, .int .i64 0]) (by simp [results, Tryd.results55, go_sem, *]) rfl ⟨.slice (some ⟨g7, 0, none⟩) n7 c7, rfl, ?_, ?_⟩))
  · exact ((HO.out.below.setCell (by simp) _).setCell (by simp) _).setCell (by simp) _
  · rw [HR.out]
    exact ((((HRV.out.set (by omega) _ _).set (by omega) _ _).set (by omega) _ _)).mono (by omega)
theorem bare_any (f c n s d : Int) (hf : 0 ≤ f ∧ f ≤ 7) (w : World) :
    Calls Tryd.prog 55 #[.int .i64 f, .agg #[.int .i64 c, .int .i64 n], .int .i64 s, .int .i64 d] w fun e w' => ∃ v, e = .returned (.agg #[v, .int .i64 (bareF f c n s d).x, .int .i64 0]) ∧ Below w.heap.size w w' ∧ RowV w' w.heap.size v (bareF f c n s d).bs := by
  by_cases h : c = 0
  · subst h
    exact bare_0 f n s d hf w
  · exact bare_1 f c n s d hf h w
end Go.Proofs.YtiiepdgpnnjpiaaDoor
