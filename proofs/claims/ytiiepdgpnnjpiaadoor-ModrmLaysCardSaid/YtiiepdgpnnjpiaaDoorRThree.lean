/-
  The document's answer: a place with each displacement that may be; a place without a base.
-/
import Derived.Test.YtiiepdgpnnjpiaaDoorRSmall
import Derived.Outline
namespace Go.Proofs.YtiiepdgpnnjpiaaDoor
open Go.RowKit
set_option maxRecDepth 100000

/-- A block whose first cells are a way's bytes. -/
def RowB (w : World) (z : Zb) : Prop := isBytes z.y.bs ∧ z.y.bs ≠ [] ∧ ∃ cs : Array Value, w.heap[z.g]? = some (.cells cs 5 (0, 0)) ∧ cs.toList.take z.y.bs.length = z.y.bs.map (Value.int .u8)
theorem RowB.lt {w : World} {z : Zb} (h : RowB w z) : z.g < w.heap.size := by obtain ⟨_, _, cs, h1, _⟩ := h; exact (Array.getElem?_eq_some_iff.1 h1).1
theorem RowB.same {w w' : World} {z : Zb} (h : RowB w z) (he : w'.heap[z.g]? = w.heap[z.g]?) : RowB w' z := by
  obtain ⟨h0, h1, cs, h2, h3⟩ := h
  exact ⟨h0, h1, cs, he.trans h2, h3⟩
theorem RowB.grown {w w' : World} {base n : Nat} {v : Value} {xs : List Value} {z : Zb} (h : RowB w z) (hr : w.ownsRow base 34 3 v n xs) (hg : w.grownBy w' v.ownBlock) : RowB w' z := by
  refine h.same (hg.block _ h.lt ?_)
  obtain ⟨_, _, cs, h2, _⟩ := h
  intro e
  rcases hr.2 with ⟨rfl, _⟩ | ⟨k, cap, cur, rfl, _, hk, _⟩
  · simp [Value.ownBlock] at e
  · simp [Value.ownBlock] at e
    subst e
    rw [h2] at hk
    simp at hk
/-- Ways in new memory, as the document's answer lays them. -/
def LaysR (w : World) (base : Nat) (v : Value) (L : List Way) : Prop :=
  ∃ Z : List Zb, Z.map Zb.y = L ∧ w.ownsRow base 34 3 v Z.length (zcells Z) ∧ ∀ z ∈ Z, base ≤ z.g ∧ RowB w z
theorem LaysR.nil (w : World) (base : Nat) : LaysR w base (.slice none 0 0) [] := ⟨[], rfl, World.ownsRow_nil _ _ _ _, fun _ h => by cases h⟩
theorem LaysR.below {w w' : World} {base : Nat} {v : Value} {L : List Way} (h : LaysR w base v L) (hb : Below w.heap.size w w') : LaysR w' base v L := by
  obtain ⟨Z, h1, h2, h3⟩ := h
  exact ⟨Z, h1, (Cells.below hb).row h2, fun z hz => ⟨(h3 z hz).1, (h3 z hz).2.same (hb.block _ (h3 z hz).2.lt)⟩⟩
theorem LaysR.mono {w : World} {base base' : Nat} {v : Value} {L : List Way} (h : LaysR w base v L) (hb : base' ≤ base) : LaysR w base' v L := by
  obtain ⟨Z, h1, ⟨h2, h3⟩, h4⟩ := h
  refine ⟨Z, h1, ⟨h2, ?_⟩, fun z hz => ⟨Nat.le_trans hb (h4 z hz).1, (h4 z hz).2⟩⟩
  rcases h3 with h3 | ⟨g, cap, cur, e, hge, rest⟩
  · exact .inl h3
  · exact .inr ⟨g, cap, cur, e, by omega, rest⟩
/-- Bytes by append, as a slice. -/
theorem RowV.form {w : World} {base : Nat} {v : Value} {bs : List Int} (h : RowV w base v bs) (hne : bs ≠ []) : ∃ g c, v = .slice (some ⟨g, 0, none⟩) bs.length c ∧ base ≤ g ∧ ∀ x b, RowB w ⟨g, c, ⟨bs, x, b⟩⟩ := by
  obtain ⟨h0, h1⟩ := h
  rcases h1.2 with ⟨_, he⟩ | ⟨g, cap, cur, rfl, hg, hgg, _, _, hs, ht⟩
  · exact absurd (List.length_eq_zero_iff.1 he) hne
  · refine ⟨g, cap, rfl, hg, fun x b => ⟨h0, hne, cur, hgg, ?_⟩⟩
    simpa using ht
theorem wpList_append_laid {w : World} {ops : Array Oper} {rest : List Oper} {o : Oper} {a : Act} {Q : Exit → Act → World → Prop} (hgd : o.guard = none) (s x : Operand)
    (ho : o.op = .call { callee := .builtin .append, args := #[s, x], argTypes := #[28, 28] })
    (base : Nat) (v : Value) (L : List Way) (hs : a.eval s = v) (hL : LaysR w base v L) (hn : L.length ≤ 20) (b c : Nat) (z : Zb) (cs : Array Value) (hcs : cs.toList = ZV z) (hx : a.eval x = .slice (some ⟨b, 0, none⟩) 1 c) (hb : ∀ j, w.cell? ⟨b, j, none⟩ = cs[j]?)
    (hz : RowB w z) (hzb : base ≤ z.g) (hbase : base ≤ w.heap.size)
    (K : ∀ v' w', Hid (LaysR w' base v' (L ++ [z.y])) → Hid (Below base w w') → wpList Tryd.prog ops Q rest (a.put o.dst v') w') : wpList Tryd.prog ops Q (o :: rest) a w := by
  obtain ⟨Z, h1, h2, h3⟩ := hL
  have hl : Z.length = L.length := by rw [← h1, List.length_map]
  obtain ⟨i0, hi, hz0, hz1, hz2⟩ := info_parts infoLaid
  refine wpList_append_own _ hgd s x 28 ho base 34 i0 _ 3 40 Tryd.underlying28 hi hz0 hz1 hz2 rfl (by decide) v Z.length (zcells Z) hs h2 ⟨b, 0, none⟩ 1 c (ZV z) hx (by simp [ZV]) ?_ ?_ (by simp [maxLen]; omega) (by omega) hbase ?_
  · intro j u hu
    have hadd : (⟨b, 0, none⟩ : Addr).add j = ⟨b, j, none⟩ := by unfold Addr.add; split <;> simp_all
    rw [hadd, hb j, ← Array.getElem?_toList, hcs]
    exact hu
  · intro u hu
    simp [ZV] at hu
    rcases hu with rfl | rfl | rfl <;> rfl
  · intro v' w' hown' hgrow _
    refine K v' w' (hid ⟨Z ++ [z], by rw [List.map_append, h1]; rfl, ?_, ?_⟩) (hid ?_)
    · have e : zcells (Z ++ [z]) = zcells Z ++ ZV z := by simp [zcells]
      rw [e, List.length_append]
      exact hown'
    · intro y hy
      rcases List.mem_append.1 hy with hy | hy
      · exact ⟨(h3 y hy).1, (h3 y hy).2.grown h2 hgrow⟩
      · simp at hy; subst hy
        exact ⟨hzb, hz.grown h2 hgrow⟩
    · exact (Below.refl base w).grown hgrow hbase (fun k hk => (h2.lt k hk).1)
/-- The ways of a head by the document's answer. -/
def threeF (f rm s d : Int) (short : Bool) (x b : Int) : List Way :=
  (if short && d == 0 then [⟨headB 0 f rm s, x, b⟩] else []) ++ (if decide (-128 ≤ d) && decide (d ≤ 127) then [⟨headB 1 f rm s ++ [d % 256], x, b⟩] else []) ++ [⟨headB 2 f rm s ++ bytesOf d 4, x, b⟩]
theorem headB_ne (mod f rm s : Int) : headB mod f rm s ≠ [] := by unfold headB; simp
-- THREE
theorem m0_ok : (0 : Int) ≤ 0 ∧ (0 : Int) ≤ 3 := by omega
theorem m1_ok : (0 : Int) ≤ 1 ∧ (1 : Int) ≤ 3 := by omega
theorem m2_ok : (0 : Int) ≤ 2 ∧ (2 : Int) ≤ 3 := by omega
theorem headB_len (mod f rm s : Int) : 1 ≤ (headB mod f rm s).length ∧ (headB mod f rm s).length ≤ 2 := by unfold headB; split <;> simp
set_option maxHeartbeats 1000000 in
theorem three_0 (f rm s d x b : Int) (hf : 0 ≤ f ∧ f ≤ 7) (hrm : 0 ≤ rm ∧ rm ≤ 7) (hs : -1 ≤ s ∧ s < 256) (h : d < -128 ∨ 127 < d) (w : World) :
    Calls Tryd.prog 57 #[.int .i64 f, .int .i64 rm, .int .i64 s, .int .i64 d, .bool false, .int .i64 x, .int .i64 b] w fun e w' => ∃ v, e = .returned v ∧ Below w.heap.size w w' ∧ LaysR w' w.heap.size v ([⟨headB 2 f rm s ++ bytesOf d 4, x, b⟩]) := by
  have HB := hid (Below.refl w.heap.size w)
  have h2 : True := trivial
  have b2 : True := trivial
  have a2 : True := trivial
  rcases h with h | h
  · have k1 : ¬ -128 ≤ d := by omega
    clear h
    go_enter Tryd.func57, Tryd.ntmps57
    go_wp2_with (first | (go_at_call 28; have _t := h2; (with_reducible refine (rhead_any 2 f rm s m2_ok hf hrm hs _).mono ?_); rintro e wx ⟨vx, rfl, hbx, hrx⟩; obtain ⟨g2, c2, rfl, hg2, hRB⟩ := hrx.form (headB_ne _ _ _ _); have HR := hid (And.intro hrx (And.intro hg2 hRB)); have HX := hid hbx; clear hbx hrx hRB hg2 h2) | (go_at_call 54; (with_reducible refine (rfour_any d _).mono ?_); rintro e w4 ⟨rfl, hb4, hk4⟩; have HK4 := hid hk4; have HX4 := hid hb4; clear hb4 hk4) | (at_builtin; have _t := b2; refine wpList_append_bytes rfl _ _ rfl _ (.slice (some ⟨g2, 0, none⟩) (headB 2 f rm s).length c2) (headB 2 f rm s).length (headB 2 f rm s) rfl ((Cells.below HX4.out).row HR.out.1.2) (some ⟨wx.heap.size, 0, none⟩) 4 4 (wx.heap.size + 1) (bytesOf d 4) (bytesOf_length d 4) rfl (HK4.out.mem (bytesOf_range d 4) (by omega)) (by have := headB_len 2 f rm s; omega) (by have q1 := HX.out.size; have q2 := HX4.out.size; omega) ?_; intro v2 w2 ho2 hg2; have HX := hid ((HX.out.trans (HX4.out.mono HX.out.size)).grown hg2 (by have q1 := HX.out.size; have q2 := HX4.out.size; omega) (fun k hk => by simp [Value.ownBlock] at hk; have := HR.out.2.1; omega)); have hrv : RowV w2 _ v2 (headB 2 f rm s ++ bytesOf d 4) := ⟨HR.out.1.1.append (bytesOf_range d 4), by rw [List.length_append, bytesOf_length]; exact ho2.out⟩; obtain ⟨g7, c7, rfl, hgx, hRB⟩ := hrv.form (by simp [headB]); have HR := hid (And.intro hrv (And.intro hgx hRB)); clear ho2 hg2 hrv hgx hRB HK4 HX4 b2) | (at_builtin; have _t := a2; refine wpList_append_laid rfl _ _ rfl w.heap.size _ [] rfl (LaysR.nil _ _) (by simp) _ 1 ⟨g7, c7, ⟨headB 2 f rm s ++ bytesOf d 4, x, b⟩⟩ #[.slice (some ⟨g7, 0, none⟩) ((headB 2 f rm s).length + (bytesOf d 4).length) c7, .int .i64 x, .int .i64 b] (by first | (simp only [ZV, List.length_append]; done) | (simp only [ZV, List.length_append]; rfl)) rfl ?_ ?_ ?_ ?_ ?_; exact own_new _ _ _; exact (HR.out.2.2 x b).same (Below.heap_alloc _ _ _ (HR.out.2.2 x b).lt); exact Nat.le_trans HB.out.size HR.out.2.1; (have q := HB.out.size; have q2 := HX.out.size; simp; omega); intro v' wy hh hb; have HB := hid ((HB.out.trans ((HX.out.alloc HX.out.size _).mono HB.out.size)).trans hb.out); have HL := hh; clear hh hb HX HR a2))
    go_ret
    exact ⟨_, rfl, HB.out, HL.out⟩
  · have k1 : -128 ≤ d := by omega
    have k2 : ¬ d ≤ 127 := by omega
    clear h
    go_enter Tryd.func57, Tryd.ntmps57
    go_wp2_with (first | (go_at_call 28; have _t := h2; (with_reducible refine (rhead_any 2 f rm s m2_ok hf hrm hs _).mono ?_); rintro e wx ⟨vx, rfl, hbx, hrx⟩; obtain ⟨g2, c2, rfl, hg2, hRB⟩ := hrx.form (headB_ne _ _ _ _); have HR := hid (And.intro hrx (And.intro hg2 hRB)); have HX := hid hbx; clear hbx hrx hRB hg2 h2) | (go_at_call 54; (with_reducible refine (rfour_any d _).mono ?_); rintro e w4 ⟨rfl, hb4, hk4⟩; have HK4 := hid hk4; have HX4 := hid hb4; clear hb4 hk4) | (at_builtin; have _t := b2; refine wpList_append_bytes rfl _ _ rfl _ (.slice (some ⟨g2, 0, none⟩) (headB 2 f rm s).length c2) (headB 2 f rm s).length (headB 2 f rm s) rfl ((Cells.below HX4.out).row HR.out.1.2) (some ⟨wx.heap.size, 0, none⟩) 4 4 (wx.heap.size + 1) (bytesOf d 4) (bytesOf_length d 4) rfl (HK4.out.mem (bytesOf_range d 4) (by omega)) (by have := headB_len 2 f rm s; omega) (by have q1 := HX.out.size; have q2 := HX4.out.size; omega) ?_; intro v2 w2 ho2 hg2; have HX := hid ((HX.out.trans (HX4.out.mono HX.out.size)).grown hg2 (by have q1 := HX.out.size; have q2 := HX4.out.size; omega) (fun k hk => by simp [Value.ownBlock] at hk; have := HR.out.2.1; omega)); have hrv : RowV w2 _ v2 (headB 2 f rm s ++ bytesOf d 4) := ⟨HR.out.1.1.append (bytesOf_range d 4), by rw [List.length_append, bytesOf_length]; exact ho2.out⟩; obtain ⟨g7, c7, rfl, hgx, hRB⟩ := hrv.form (by simp [headB]); have HR := hid (And.intro hrv (And.intro hgx hRB)); clear ho2 hg2 hrv hgx hRB HK4 HX4 b2) | (at_builtin; have _t := a2; refine wpList_append_laid rfl _ _ rfl w.heap.size _ [] rfl (LaysR.nil _ _) (by simp) _ 1 ⟨g7, c7, ⟨headB 2 f rm s ++ bytesOf d 4, x, b⟩⟩ #[.slice (some ⟨g7, 0, none⟩) ((headB 2 f rm s).length + (bytesOf d 4).length) c7, .int .i64 x, .int .i64 b] (by first | (simp only [ZV, List.length_append]; done) | (simp only [ZV, List.length_append]; rfl)) rfl ?_ ?_ ?_ ?_ ?_; exact own_new _ _ _; exact (HR.out.2.2 x b).same (Below.heap_alloc _ _ _ (HR.out.2.2 x b).lt); exact Nat.le_trans HB.out.size HR.out.2.1; (have q := HB.out.size; have q2 := HX.out.size; simp; omega); intro v' wy hh hb; have HB := hid ((HB.out.trans ((HX.out.alloc HX.out.size _).mono HB.out.size)).trans hb.out); have HL := hh; clear hh hb HX HR a2))
    go_ret
    exact ⟨_, rfl, HB.out, HL.out⟩
set_option maxHeartbeats 1000000 in
theorem three_1 (f rm s d x b : Int) (hf : 0 ≤ f ∧ f ≤ 7) (hrm : 0 ≤ rm ∧ rm ≤ 7) (hs : -1 ≤ s ∧ s < 256) (k1 : -128 ≤ d) (k2 : d ≤ 127) (w : World) :
    Calls Tryd.prog 57 #[.int .i64 f, .int .i64 rm, .int .i64 s, .int .i64 d, .bool false, .int .i64 x, .int .i64 b] w fun e w' => ∃ v, e = .returned v ∧ Below w.heap.size w w' ∧ LaysR w' w.heap.size v ([⟨headB 1 f rm s ++ [d % 256], x, b⟩] ++ [⟨headB 2 f rm s ++ bytesOf d 4, x, b⟩]) := by
  have HB := hid (Below.refl w.heap.size w)
  have h1 : True := trivial
  have b1 : True := trivial
  have a1 : True := trivial
  have h2 : True := trivial
  have b2 : True := trivial
  have a2 : True := trivial
  all_goals
    go_enter Tryd.func57, Tryd.ntmps57
    go_wp2_with (first | (go_at_call 28; have _t := h1; (with_reducible refine (rhead_any 1 f rm s m1_ok hf hrm hs _).mono ?_); rintro e wx ⟨vx, rfl, hbx, hrx⟩; obtain ⟨g1, c1, rfl, hg1, hRB⟩ := hrx.form (headB_ne _ _ _ _); have HR := hid (And.intro hrx (And.intro hg1 hRB)); have HX := hid hbx; clear hbx hrx hRB hg1 h1) | (at_builtin; have _t := b1; refine wpList_append_bytes rfl _ _ rfl _ (.slice (some ⟨g1, 0, none⟩) (headB 1 f rm s).length c1) (headB 1 f rm s).length (headB 1 f rm s) rfl (HR.out.1.2.alloc _) (some ⟨wx.heap.size, 0, none⟩) 1 1 (wx.heap.size + 1) [d % 256] rfl rfl ?_ (by have := headB_len 1 f rm s; simp; omega) ?_ ?_; exact (ByB.mem (t := 5) (zs := [d % 256]) (heap_alloc_new wx _) (by intro z hz; simp at hz; omega) (by omega)); (have q2 := HX.out.size; simp; omega); intro v2 w2 ho2 hg2; have HX := hid ((HX.out.alloc HX.out.size _).grown hg2 (by have q2 := HX.out.size; simp; omega) (fun k hk => by simp [Value.ownBlock] at hk; have := HR.out.2.1; omega)); have hrv : RowV w2 _ v2 (headB 1 f rm s ++ [d % 256]) := ⟨HR.out.1.1.append (by intro z hz; simp at hz; omega), by rw [List.length_append]; exact ho2.out⟩; obtain ⟨g6, c6, rfl, hgx, hRB⟩ := hrv.form (by simp [headB]); have HR := hid (And.intro hrv (And.intro hgx hRB)); clear ho2 hg2 hrv hgx hRB b1) | (at_builtin; have _t := a1; refine wpList_append_laid rfl _ _ rfl w.heap.size _ [] rfl (LaysR.nil _ _) (by simp) _ 1 ⟨g6, c6, ⟨headB 1 f rm s ++ [d % 256], x, b⟩⟩ #[.slice (some ⟨g6, 0, none⟩) ((headB 1 f rm s).length + 1) c6, .int .i64 x, .int .i64 b] (by first | (simp only [ZV, List.length_append]; done) | (simp only [ZV, List.length_append]; rfl)) rfl ?_ ?_ ?_ ?_ ?_; exact own_new _ _ _; exact (HR.out.2.2 x b).same (Below.heap_alloc _ _ _ (HR.out.2.2 x b).lt); exact Nat.le_trans HB.out.size HR.out.2.1; (have q := HB.out.size; have q2 := HX.out.size; simp; omega); intro v' wy hh hb; have HB := hid ((HB.out.trans ((HX.out.alloc HX.out.size _).mono HB.out.size)).trans hb.out); have HL := hh; clear hh hb HX HR a1) | (go_at_call 28; have _t := h2; (with_reducible refine (rhead_any 2 f rm s m2_ok hf hrm hs _).mono ?_); rintro e wx ⟨vx, rfl, hbx, hrx⟩; obtain ⟨g2, c2, rfl, hg2, hRB⟩ := hrx.form (headB_ne _ _ _ _); have HR := hid (And.intro hrx (And.intro hg2 hRB)); have HX := hid hbx; clear hbx hrx hRB hg2 h2) | (go_at_call 54; (with_reducible refine (rfour_any d _).mono ?_); rintro e w4 ⟨rfl, hb4, hk4⟩; have HK4 := hid hk4; have HX4 := hid hb4; clear hb4 hk4) | (at_builtin; have _t := b2; refine wpList_append_bytes rfl _ _ rfl _ (.slice (some ⟨g2, 0, none⟩) (headB 2 f rm s).length c2) (headB 2 f rm s).length (headB 2 f rm s) rfl ((Cells.below HX4.out).row HR.out.1.2) (some ⟨wx.heap.size, 0, none⟩) 4 4 (wx.heap.size + 1) (bytesOf d 4) (bytesOf_length d 4) rfl (HK4.out.mem (bytesOf_range d 4) (by omega)) (by have := headB_len 2 f rm s; omega) (by have q1 := HX.out.size; have q2 := HX4.out.size; omega) ?_; intro v2 w2 ho2 hg2; have HX := hid ((HX.out.trans (HX4.out.mono HX.out.size)).grown hg2 (by have q1 := HX.out.size; have q2 := HX4.out.size; omega) (fun k hk => by simp [Value.ownBlock] at hk; have := HR.out.2.1; omega)); have hrv : RowV w2 _ v2 (headB 2 f rm s ++ bytesOf d 4) := ⟨HR.out.1.1.append (bytesOf_range d 4), by rw [List.length_append, bytesOf_length]; exact ho2.out⟩; obtain ⟨g7, c7, rfl, hgx, hRB⟩ := hrv.form (by simp [headB]); have HR := hid (And.intro hrv (And.intro hgx hRB)); clear ho2 hg2 hrv hgx hRB HK4 HX4 b2) | (at_builtin; have _t := a2; refine wpList_append_laid rfl _ _ rfl w.heap.size _ _ rfl (HL.out.below (HX.out.alloc HX.out.size _)) (by simp) _ 1 ⟨g7, c7, ⟨headB 2 f rm s ++ bytesOf d 4, x, b⟩⟩ #[.slice (some ⟨g7, 0, none⟩) ((headB 2 f rm s).length + (bytesOf d 4).length) c7, .int .i64 x, .int .i64 b] (by first | (simp only [ZV, List.length_append]; done) | (simp only [ZV, List.length_append]; rfl)) rfl ?_ ?_ ?_ ?_ ?_; exact own_new _ _ _; exact (HR.out.2.2 x b).same (Below.heap_alloc _ _ _ (HR.out.2.2 x b).lt); exact Nat.le_trans HB.out.size HR.out.2.1; (have q := HB.out.size; have q2 := HX.out.size; simp; omega); intro v' wy hh hb; have HB := hid ((HB.out.trans ((HX.out.alloc HX.out.size _).mono HB.out.size)).trans hb.out); have HL := hh; clear hh hb HX HR a2))
    go_ret
    exact ⟨_, rfl, HB.out, HL.out⟩
set_option maxHeartbeats 1000000 in
theorem three_s0 (f rm s d x b : Int) (hf : 0 ≤ f ∧ f ≤ 7) (hrm : 0 ≤ rm ∧ rm ≤ 7) (hs : -1 ≤ s ∧ s < 256) (k : (d == 0) = false) (h : d < -128 ∨ 127 < d) (w : World) :
    Calls Tryd.prog 57 #[.int .i64 f, .int .i64 rm, .int .i64 s, .int .i64 d, .bool true, .int .i64 x, .int .i64 b] w fun e w' => ∃ v, e = .returned v ∧ Below w.heap.size w w' ∧ LaysR w' w.heap.size v ([⟨headB 2 f rm s ++ bytesOf d 4, x, b⟩]) := by
  have HB := hid (Below.refl w.heap.size w)
  have h2 : True := trivial
  have b2 : True := trivial
  have a2 : True := trivial
  rcases h with h | h
  · have k1 : ¬ -128 ≤ d := by omega
    clear h
    go_enter Tryd.func57, Tryd.ntmps57
    go_wp2_with (first | (go_at_call 28; have _t := h2; (with_reducible refine (rhead_any 2 f rm s m2_ok hf hrm hs _).mono ?_); rintro e wx ⟨vx, rfl, hbx, hrx⟩; obtain ⟨g2, c2, rfl, hg2, hRB⟩ := hrx.form (headB_ne _ _ _ _); have HR := hid (And.intro hrx (And.intro hg2 hRB)); have HX := hid hbx; clear hbx hrx hRB hg2 h2) | (go_at_call 54; (with_reducible refine (rfour_any d _).mono ?_); rintro e w4 ⟨rfl, hb4, hk4⟩; have HK4 := hid hk4; have HX4 := hid hb4; clear hb4 hk4) | (at_builtin; have _t := b2; refine wpList_append_bytes rfl _ _ rfl _ (.slice (some ⟨g2, 0, none⟩) (headB 2 f rm s).length c2) (headB 2 f rm s).length (headB 2 f rm s) rfl ((Cells.below HX4.out).row HR.out.1.2) (some ⟨wx.heap.size, 0, none⟩) 4 4 (wx.heap.size + 1) (bytesOf d 4) (bytesOf_length d 4) rfl (HK4.out.mem (bytesOf_range d 4) (by omega)) (by have := headB_len 2 f rm s; omega) (by have q1 := HX.out.size; have q2 := HX4.out.size; omega) ?_; intro v2 w2 ho2 hg2; have HX := hid ((HX.out.trans (HX4.out.mono HX.out.size)).grown hg2 (by have q1 := HX.out.size; have q2 := HX4.out.size; omega) (fun k hk => by simp [Value.ownBlock] at hk; have := HR.out.2.1; omega)); have hrv : RowV w2 _ v2 (headB 2 f rm s ++ bytesOf d 4) := ⟨HR.out.1.1.append (bytesOf_range d 4), by rw [List.length_append, bytesOf_length]; exact ho2.out⟩; obtain ⟨g7, c7, rfl, hgx, hRB⟩ := hrv.form (by simp [headB]); have HR := hid (And.intro hrv (And.intro hgx hRB)); clear ho2 hg2 hrv hgx hRB HK4 HX4 b2) | (at_builtin; have _t := a2; refine wpList_append_laid rfl _ _ rfl w.heap.size _ [] rfl (LaysR.nil _ _) (by simp) _ 1 ⟨g7, c7, ⟨headB 2 f rm s ++ bytesOf d 4, x, b⟩⟩ #[.slice (some ⟨g7, 0, none⟩) ((headB 2 f rm s).length + (bytesOf d 4).length) c7, .int .i64 x, .int .i64 b] (by first | (simp only [ZV, List.length_append]; done) | (simp only [ZV, List.length_append]; rfl)) rfl ?_ ?_ ?_ ?_ ?_; exact own_new _ _ _; exact (HR.out.2.2 x b).same (Below.heap_alloc _ _ _ (HR.out.2.2 x b).lt); exact Nat.le_trans HB.out.size HR.out.2.1; (have q := HB.out.size; have q2 := HX.out.size; simp; omega); intro v' wy hh hb; have HB := hid ((HB.out.trans ((HX.out.alloc HX.out.size _).mono HB.out.size)).trans hb.out); have HL := hh; clear hh hb HX HR a2))
    go_ret
    exact ⟨_, rfl, HB.out, HL.out⟩
  · have k1 : -128 ≤ d := by omega
    have k2 : ¬ d ≤ 127 := by omega
    clear h
    go_enter Tryd.func57, Tryd.ntmps57
    go_wp2_with (first | (go_at_call 28; have _t := h2; (with_reducible refine (rhead_any 2 f rm s m2_ok hf hrm hs _).mono ?_); rintro e wx ⟨vx, rfl, hbx, hrx⟩; obtain ⟨g2, c2, rfl, hg2, hRB⟩ := hrx.form (headB_ne _ _ _ _); have HR := hid (And.intro hrx (And.intro hg2 hRB)); have HX := hid hbx; clear hbx hrx hRB hg2 h2) | (go_at_call 54; (with_reducible refine (rfour_any d _).mono ?_); rintro e w4 ⟨rfl, hb4, hk4⟩; have HK4 := hid hk4; have HX4 := hid hb4; clear hb4 hk4) | (at_builtin; have _t := b2; refine wpList_append_bytes rfl _ _ rfl _ (.slice (some ⟨g2, 0, none⟩) (headB 2 f rm s).length c2) (headB 2 f rm s).length (headB 2 f rm s) rfl ((Cells.below HX4.out).row HR.out.1.2) (some ⟨wx.heap.size, 0, none⟩) 4 4 (wx.heap.size + 1) (bytesOf d 4) (bytesOf_length d 4) rfl (HK4.out.mem (bytesOf_range d 4) (by omega)) (by have := headB_len 2 f rm s; omega) (by have q1 := HX.out.size; have q2 := HX4.out.size; omega) ?_; intro v2 w2 ho2 hg2; have HX := hid ((HX.out.trans (HX4.out.mono HX.out.size)).grown hg2 (by have q1 := HX.out.size; have q2 := HX4.out.size; omega) (fun k hk => by simp [Value.ownBlock] at hk; have := HR.out.2.1; omega)); have hrv : RowV w2 _ v2 (headB 2 f rm s ++ bytesOf d 4) := ⟨HR.out.1.1.append (bytesOf_range d 4), by rw [List.length_append, bytesOf_length]; exact ho2.out⟩; obtain ⟨g7, c7, rfl, hgx, hRB⟩ := hrv.form (by simp [headB]); have HR := hid (And.intro hrv (And.intro hgx hRB)); clear ho2 hg2 hrv hgx hRB HK4 HX4 b2) | (at_builtin; have _t := a2; refine wpList_append_laid rfl _ _ rfl w.heap.size _ [] rfl (LaysR.nil _ _) (by simp) _ 1 ⟨g7, c7, ⟨headB 2 f rm s ++ bytesOf d 4, x, b⟩⟩ #[.slice (some ⟨g7, 0, none⟩) ((headB 2 f rm s).length + (bytesOf d 4).length) c7, .int .i64 x, .int .i64 b] (by first | (simp only [ZV, List.length_append]; done) | (simp only [ZV, List.length_append]; rfl)) rfl ?_ ?_ ?_ ?_ ?_; exact own_new _ _ _; exact (HR.out.2.2 x b).same (Below.heap_alloc _ _ _ (HR.out.2.2 x b).lt); exact Nat.le_trans HB.out.size HR.out.2.1; (have q := HB.out.size; have q2 := HX.out.size; simp; omega); intro v' wy hh hb; have HB := hid ((HB.out.trans ((HX.out.alloc HX.out.size _).mono HB.out.size)).trans hb.out); have HL := hh; clear hh hb HX HR a2))
    go_ret
    exact ⟨_, rfl, HB.out, HL.out⟩
set_option maxHeartbeats 1000000 in
theorem three_s1 (f rm s d x b : Int) (hf : 0 ≤ f ∧ f ≤ 7) (hrm : 0 ≤ rm ∧ rm ≤ 7) (hs : -1 ≤ s ∧ s < 256) (k : (d == 0) = false) (k1 : -128 ≤ d) (k2 : d ≤ 127) (w : World) :
    Calls Tryd.prog 57 #[.int .i64 f, .int .i64 rm, .int .i64 s, .int .i64 d, .bool true, .int .i64 x, .int .i64 b] w fun e w' => ∃ v, e = .returned v ∧ Below w.heap.size w w' ∧ LaysR w' w.heap.size v ([⟨headB 1 f rm s ++ [d % 256], x, b⟩] ++ [⟨headB 2 f rm s ++ bytesOf d 4, x, b⟩]) := by
  have HB := hid (Below.refl w.heap.size w)
  have h1 : True := trivial
  have b1 : True := trivial
  have a1 : True := trivial
  have h2 : True := trivial
  have b2 : True := trivial
  have a2 : True := trivial
  all_goals
    go_enter Tryd.func57, Tryd.ntmps57
    go_wp2_with (first | (go_at_call 28; have _t := h1; (with_reducible refine (rhead_any 1 f rm s m1_ok hf hrm hs _).mono ?_); rintro e wx ⟨vx, rfl, hbx, hrx⟩; obtain ⟨g1, c1, rfl, hg1, hRB⟩ := hrx.form (headB_ne _ _ _ _); have HR := hid (And.intro hrx (And.intro hg1 hRB)); have HX := hid hbx; clear hbx hrx hRB hg1 h1) | (at_builtin; have _t := b1; refine wpList_append_bytes rfl _ _ rfl _ (.slice (some ⟨g1, 0, none⟩) (headB 1 f rm s).length c1) (headB 1 f rm s).length (headB 1 f rm s) rfl (HR.out.1.2.alloc _) (some ⟨wx.heap.size, 0, none⟩) 1 1 (wx.heap.size + 1) [d % 256] rfl rfl ?_ (by have := headB_len 1 f rm s; simp; omega) ?_ ?_; exact (ByB.mem (t := 5) (zs := [d % 256]) (heap_alloc_new wx _) (by intro z hz; simp at hz; omega) (by omega)); (have q2 := HX.out.size; simp; omega); intro v2 w2 ho2 hg2; have HX := hid ((HX.out.alloc HX.out.size _).grown hg2 (by have q2 := HX.out.size; simp; omega) (fun k hk => by simp [Value.ownBlock] at hk; have := HR.out.2.1; omega)); have hrv : RowV w2 _ v2 (headB 1 f rm s ++ [d % 256]) := ⟨HR.out.1.1.append (by intro z hz; simp at hz; omega), by rw [List.length_append]; exact ho2.out⟩; obtain ⟨g6, c6, rfl, hgx, hRB⟩ := hrv.form (by simp [headB]); have HR := hid (And.intro hrv (And.intro hgx hRB)); clear ho2 hg2 hrv hgx hRB b1) | (at_builtin; have _t := a1; refine wpList_append_laid rfl _ _ rfl w.heap.size _ [] rfl (LaysR.nil _ _) (by simp) _ 1 ⟨g6, c6, ⟨headB 1 f rm s ++ [d % 256], x, b⟩⟩ #[.slice (some ⟨g6, 0, none⟩) ((headB 1 f rm s).length + 1) c6, .int .i64 x, .int .i64 b] (by first | (simp only [ZV, List.length_append]; done) | (simp only [ZV, List.length_append]; rfl)) rfl ?_ ?_ ?_ ?_ ?_; exact own_new _ _ _; exact (HR.out.2.2 x b).same (Below.heap_alloc _ _ _ (HR.out.2.2 x b).lt); exact Nat.le_trans HB.out.size HR.out.2.1; (have q := HB.out.size; have q2 := HX.out.size; simp; omega); intro v' wy hh hb; have HB := hid ((HB.out.trans ((HX.out.alloc HX.out.size _).mono HB.out.size)).trans hb.out); have HL := hh; clear hh hb HX HR a1) | (go_at_call 28; have _t := h2; (with_reducible refine (rhead_any 2 f rm s m2_ok hf hrm hs _).mono ?_); rintro e wx ⟨vx, rfl, hbx, hrx⟩; obtain ⟨g2, c2, rfl, hg2, hRB⟩ := hrx.form (headB_ne _ _ _ _); have HR := hid (And.intro hrx (And.intro hg2 hRB)); have HX := hid hbx; clear hbx hrx hRB hg2 h2) | (go_at_call 54; (with_reducible refine (rfour_any d _).mono ?_); rintro e w4 ⟨rfl, hb4, hk4⟩; have HK4 := hid hk4; have HX4 := hid hb4; clear hb4 hk4) | (at_builtin; have _t := b2; refine wpList_append_bytes rfl _ _ rfl _ (.slice (some ⟨g2, 0, none⟩) (headB 2 f rm s).length c2) (headB 2 f rm s).length (headB 2 f rm s) rfl ((Cells.below HX4.out).row HR.out.1.2) (some ⟨wx.heap.size, 0, none⟩) 4 4 (wx.heap.size + 1) (bytesOf d 4) (bytesOf_length d 4) rfl (HK4.out.mem (bytesOf_range d 4) (by omega)) (by have := headB_len 2 f rm s; omega) (by have q1 := HX.out.size; have q2 := HX4.out.size; omega) ?_; intro v2 w2 ho2 hg2; have HX := hid ((HX.out.trans (HX4.out.mono HX.out.size)).grown hg2 (by have q1 := HX.out.size; have q2 := HX4.out.size; omega) (fun k hk => by simp [Value.ownBlock] at hk; have := HR.out.2.1; omega)); have hrv : RowV w2 _ v2 (headB 2 f rm s ++ bytesOf d 4) := ⟨HR.out.1.1.append (bytesOf_range d 4), by rw [List.length_append, bytesOf_length]; exact ho2.out⟩; obtain ⟨g7, c7, rfl, hgx, hRB⟩ := hrv.form (by simp [headB]); have HR := hid (And.intro hrv (And.intro hgx hRB)); clear ho2 hg2 hrv hgx hRB HK4 HX4 b2) | (at_builtin; have _t := a2; refine wpList_append_laid rfl _ _ rfl w.heap.size _ _ rfl (HL.out.below (HX.out.alloc HX.out.size _)) (by simp) _ 1 ⟨g7, c7, ⟨headB 2 f rm s ++ bytesOf d 4, x, b⟩⟩ #[.slice (some ⟨g7, 0, none⟩) ((headB 2 f rm s).length + (bytesOf d 4).length) c7, .int .i64 x, .int .i64 b] (by first | (simp only [ZV, List.length_append]; done) | (simp only [ZV, List.length_append]; rfl)) rfl ?_ ?_ ?_ ?_ ?_; exact own_new _ _ _; exact (HR.out.2.2 x b).same (Below.heap_alloc _ _ _ (HR.out.2.2 x b).lt); exact Nat.le_trans HB.out.size HR.out.2.1; (have q := HB.out.size; have q2 := HX.out.size; simp; omega); intro v' wy hh hb; have HB := hid ((HB.out.trans ((HX.out.alloc HX.out.size _).mono HB.out.size)).trans hb.out); have HL := hh; clear hh hb HX HR a2))
    go_ret
    exact ⟨_, rfl, HB.out, HL.out⟩
set_option maxHeartbeats 1000000 in
theorem three_s2 (f rm s d x b : Int) (hf : 0 ≤ f ∧ f ≤ 7) (hrm : 0 ≤ rm ∧ rm ≤ 7) (hs : -1 ≤ s ∧ s < 256) (k : (d == 0) = true) (k1 : -128 ≤ d) (k2 : d ≤ 127) (w : World) :
    Calls Tryd.prog 57 #[.int .i64 f, .int .i64 rm, .int .i64 s, .int .i64 d, .bool true, .int .i64 x, .int .i64 b] w fun e w' => ∃ v, e = .returned v ∧ Below w.heap.size w w' ∧ LaysR w' w.heap.size v ([⟨headB 0 f rm s, x, b⟩] ++ [⟨headB 1 f rm s ++ [d % 256], x, b⟩] ++ [⟨headB 2 f rm s ++ bytesOf d 4, x, b⟩]) := by
  have HB := hid (Below.refl w.heap.size w)
  have h0 : True := trivial
  have a0 : True := trivial
  have h1 : True := trivial
  have b1 : True := trivial
  have a1 : True := trivial
  have h2 : True := trivial
  have b2 : True := trivial
  have a2 : True := trivial
  all_goals
    go_enter Tryd.func57, Tryd.ntmps57
    go_wp2_with (first | (go_at_call 28; have _t := h0; (with_reducible refine (rhead_any 0 f rm s m0_ok hf hrm hs _).mono ?_); rintro e wx ⟨vx, rfl, hbx, hrx⟩; obtain ⟨g0, c0, rfl, hg0, hRB⟩ := hrx.form (headB_ne _ _ _ _); have HR := hid (And.intro hrx (And.intro hg0 hRB)); have HX := hid hbx; clear hbx hrx hRB hg0 h0) | (at_builtin; have _t := a0; refine wpList_append_laid rfl _ _ rfl w.heap.size _ [] rfl (LaysR.nil _ _) (by simp) _ 1 ⟨g0, c0, ⟨headB 0 f rm s, x, b⟩⟩ _ rfl rfl ?_ ?_ ?_ ?_ ?_; exact own_new _ _ _; exact (HR.out.2.2 x b).same (Below.heap_alloc _ _ _ (HR.out.2.2 x b).lt); exact Nat.le_trans HB.out.size HR.out.2.1; (have q := HB.out.size; have q2 := HX.out.size; simp; omega); intro v' wy hh hb; have HB := hid ((HB.out.trans ((HX.out.alloc HX.out.size _).mono HB.out.size)).trans hb.out); have HL := hh; clear hh hb HX HR a0) | (go_at_call 28; have _t := h1; (with_reducible refine (rhead_any 1 f rm s m1_ok hf hrm hs _).mono ?_); rintro e wx ⟨vx, rfl, hbx, hrx⟩; obtain ⟨g1, c1, rfl, hg1, hRB⟩ := hrx.form (headB_ne _ _ _ _); have HR := hid (And.intro hrx (And.intro hg1 hRB)); have HX := hid hbx; clear hbx hrx hRB hg1 h1) | (at_builtin; have _t := b1; refine wpList_append_bytes rfl _ _ rfl _ (.slice (some ⟨g1, 0, none⟩) (headB 1 f rm s).length c1) (headB 1 f rm s).length (headB 1 f rm s) rfl (HR.out.1.2.alloc _) (some ⟨wx.heap.size, 0, none⟩) 1 1 (wx.heap.size + 1) [d % 256] rfl rfl ?_ (by have := headB_len 1 f rm s; simp; omega) ?_ ?_; exact (ByB.mem (t := 5) (zs := [d % 256]) (heap_alloc_new wx _) (by intro z hz; simp at hz; omega) (by omega)); (have q2 := HX.out.size; simp; omega); intro v2 w2 ho2 hg2; have HX := hid ((HX.out.alloc HX.out.size _).grown hg2 (by have q2 := HX.out.size; simp; omega) (fun k hk => by simp [Value.ownBlock] at hk; have := HR.out.2.1; omega)); have hrv : RowV w2 _ v2 (headB 1 f rm s ++ [d % 256]) := ⟨HR.out.1.1.append (by intro z hz; simp at hz; omega), by rw [List.length_append]; exact ho2.out⟩; obtain ⟨g6, c6, rfl, hgx, hRB⟩ := hrv.form (by simp [headB]); have HR := hid (And.intro hrv (And.intro hgx hRB)); clear ho2 hg2 hrv hgx hRB b1) | (at_builtin; have _t := a1; refine wpList_append_laid rfl _ _ rfl w.heap.size _ _ rfl (HL.out.below (HX.out.alloc HX.out.size _)) (by simp) _ 1 ⟨g6, c6, ⟨headB 1 f rm s ++ [d % 256], x, b⟩⟩ #[.slice (some ⟨g6, 0, none⟩) ((headB 1 f rm s).length + 1) c6, .int .i64 x, .int .i64 b] (by first | (simp only [ZV, List.length_append]; done) | (simp only [ZV, List.length_append]; rfl)) rfl ?_ ?_ ?_ ?_ ?_; exact own_new _ _ _; exact (HR.out.2.2 x b).same (Below.heap_alloc _ _ _ (HR.out.2.2 x b).lt); exact Nat.le_trans HB.out.size HR.out.2.1; (have q := HB.out.size; have q2 := HX.out.size; simp; omega); intro v' wy hh hb; have HB := hid ((HB.out.trans ((HX.out.alloc HX.out.size _).mono HB.out.size)).trans hb.out); have HL := hh; clear hh hb HX HR a1) | (go_at_call 28; have _t := h2; (with_reducible refine (rhead_any 2 f rm s m2_ok hf hrm hs _).mono ?_); rintro e wx ⟨vx, rfl, hbx, hrx⟩; obtain ⟨g2, c2, rfl, hg2, hRB⟩ := hrx.form (headB_ne _ _ _ _); have HR := hid (And.intro hrx (And.intro hg2 hRB)); have HX := hid hbx; clear hbx hrx hRB hg2 h2) | (go_at_call 54; (with_reducible refine (rfour_any d _).mono ?_); rintro e w4 ⟨rfl, hb4, hk4⟩; have HK4 := hid hk4; have HX4 := hid hb4; clear hb4 hk4) | (at_builtin; have _t := b2; refine wpList_append_bytes rfl _ _ rfl _ (.slice (some ⟨g2, 0, none⟩) (headB 2 f rm s).length c2) (headB 2 f rm s).length (headB 2 f rm s) rfl ((Cells.below HX4.out).row HR.out.1.2) (some ⟨wx.heap.size, 0, none⟩) 4 4 (wx.heap.size + 1) (bytesOf d 4) (bytesOf_length d 4) rfl (HK4.out.mem (bytesOf_range d 4) (by omega)) (by have := headB_len 2 f rm s; omega) (by have q1 := HX.out.size; have q2 := HX4.out.size; omega) ?_; intro v2 w2 ho2 hg2; have HX := hid ((HX.out.trans (HX4.out.mono HX.out.size)).grown hg2 (by have q1 := HX.out.size; have q2 := HX4.out.size; omega) (fun k hk => by simp [Value.ownBlock] at hk; have := HR.out.2.1; omega)); have hrv : RowV w2 _ v2 (headB 2 f rm s ++ bytesOf d 4) := ⟨HR.out.1.1.append (bytesOf_range d 4), by rw [List.length_append, bytesOf_length]; exact ho2.out⟩; obtain ⟨g7, c7, rfl, hgx, hRB⟩ := hrv.form (by simp [headB]); have HR := hid (And.intro hrv (And.intro hgx hRB)); clear ho2 hg2 hrv hgx hRB HK4 HX4 b2) | (at_builtin; have _t := a2; refine wpList_append_laid rfl _ _ rfl w.heap.size _ _ rfl (HL.out.below (HX.out.alloc HX.out.size _)) (by simp) _ 1 ⟨g7, c7, ⟨headB 2 f rm s ++ bytesOf d 4, x, b⟩⟩ #[.slice (some ⟨g7, 0, none⟩) ((headB 2 f rm s).length + (bytesOf d 4).length) c7, .int .i64 x, .int .i64 b] (by first | (simp only [ZV, List.length_append]; done) | (simp only [ZV, List.length_append]; rfl)) rfl ?_ ?_ ?_ ?_ ?_; exact own_new _ _ _; exact (HR.out.2.2 x b).same (Below.heap_alloc _ _ _ (HR.out.2.2 x b).lt); exact Nat.le_trans HB.out.size HR.out.2.1; (have q := HB.out.size; have q2 := HX.out.size; simp; omega); intro v' wy hh hb; have HB := hid ((HB.out.trans ((HX.out.alloc HX.out.size _).mono HB.out.size)).trans hb.out); have HL := hh; clear hh hb HX HR a2))
    go_ret
    exact ⟨_, rfl, HB.out, HL.out⟩
end Go.Proofs.YtiiepdgpnnjpiaaDoor
