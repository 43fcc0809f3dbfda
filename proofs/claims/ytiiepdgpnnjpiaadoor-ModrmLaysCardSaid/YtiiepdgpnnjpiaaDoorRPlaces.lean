/-
  The document's answer: rows of ways, joined; one way in new memory.
  The document's answer: all ways of a place in its canonical form.
  The document's answer: its ways are those of the plain form; All.
-/
import Derived.Test.YtiiepdgpnnjpiaaDoorRBare
import Derived.Deep.AppendLies
import Derived.Test.YtiiepdgpnnjpiaaDoorOwns
import Derived.Deep.RegionHeldLaw
import Derived.Test.YtiiepdgpnnjpiaaDoorHeadsAll
import Derived.Test.YtiiepdgpnnjpiaaDoorMAll
section
namespace Go.Proofs.YtiiepdgpnnjpiaaDoor
open Go.RowKit
set_option maxRecDepth 100000

theorem RowV.below {w w' : World} {base : Nat} {v : Value} {bs : List Int} (h : RowV w base v bs) (hb : Below w.heap.size w w') : RowV w' base v bs := ⟨h.1, (Cells.below hb).row h.2⟩
theorem RowV.drew {w : World} {base : Nat} {v : Value} {bs : List Int} (h : RowV w base v bs) : RowV w.drew base v bs := h
theorem LaysR.lit {w : World} {base g k c : Nat} {bs : List Int} (h : RowV w base (.slice (some ⟨g, 0, none⟩) k c) bs) (hne : bs ≠ []) (hb : base ≤ w.heap.size) (x b : Int) :
    LaysR (w.alloc (.cells #[.slice (some ⟨g, 0, none⟩) k c, .int .i64 x, .int .i64 b] 34)) base (.slice (some ⟨w.heap.size, 0, none⟩) 1 1) [⟨bs, x, b⟩] := by
  obtain ⟨g', c', e, hg, hz⟩ := h.form hne
  simp only [Value.slice.injEq, Option.some.injEq, Addr.mk.injEq] at e
  obtain ⟨⟨rfl, -⟩, rfl, rfl⟩ := e
  refine ⟨[⟨g, c, ⟨bs, x, b⟩⟩], rfl, ?_, ?_⟩
  · exact World.ownsRow_lit (base := base) (e := 34) (size := 3) w #[.slice (some ⟨g, 0, none⟩) bs.length c, .int .i64 x, .int .i64 b] 1 hb (by simp [maxLen]) rfl
  · intro z hz'
    simp at hz'
    subst hz'
    exact ⟨hg, (hz x b).same (Below.heap_alloc _ _ _ (hz x b).lt)⟩
theorem LaysR.two {w : World} {base : Nat} {v : Value} {L : List Way} (h : LaysR w base v L) (hne : L ≠ []) : ∃ g c, v = .slice (some ⟨g, 0, none⟩) L.length c ∧ base ≤ g ∧ g < w.heap.size := by
  obtain ⟨Z, h1, h2, _⟩ := h
  have hl : Z.length = L.length := by rw [← h1, List.length_map]
  rcases h2.2 with ⟨_, he⟩ | ⟨g, cap, cur, rfl, hg, hgg, _⟩
  · rw [hl] at he; exact absurd (List.length_eq_zero_iff.1 he) hne
  · exact ⟨g, cap, by rw [hl], hg, (Array.getElem?_eq_some_iff.1 hgg).1⟩
theorem zcells_one {Z : List Zb} : ∀ u ∈ zcells Z, u.oneCell' = true := by
  intro u hu
  simp only [zcells, List.mem_flatMap] at hu
  obtain ⟨z, _, hu⟩ := hu
  simp [ZV] at hu
  rcases hu with rfl | rfl | rfl <;> rfl
theorem wpList_append_lays {w : World} {ops : Array Oper} {rest : List Oper} {o : Oper} {a : Act} {Q : Exit → Act → World → Prop} (hgd : o.guard = none) (s x : Operand)
    (ho : o.op = .call { callee := .builtin .append, args := #[s, x], argTypes := #[28, 28] })
    (base : Nat) (v v2 : Value) (L L2 : List Way) (hs : a.eval s = v) (hx : a.eval x = v2) (hL : LaysR w base v L) (hL2 : LaysR w base v2 L2) (hne : L2 ≠ []) (hn : L.length + L2.length ≤ 40) (hbase : base ≤ w.heap.size)
    (K : ∀ v' w', Hid (LaysR w' base v' (L ++ L2)) → Hid (Below base w w') → wpList Tryd.prog ops Q rest (a.put o.dst v') w') : wpList Tryd.prog ops Q (o :: rest) a w := by
  obtain ⟨g, c, rfl, hg, hgl⟩ := hL2.two hne
  obtain ⟨Z, h1, h2, h3⟩ := hL
  obtain ⟨Y, k1, k2, k3⟩ := hL2
  have hl : Z.length = L.length := by rw [← h1, List.length_map]
  have hy : Y.length = L2.length := by rw [← k1, List.length_map]
  obtain ⟨i0, hi, hz0, hz1, hz2⟩ := info_parts infoLaid
  refine wpList_append_own _ hgd s x 28 ho base 34 i0 _ 3 40 Tryd.underlying28 hi hz0 hz1 hz2 rfl (by decide) v Z.length (zcells Z) hs h2 ⟨g, 0, none⟩ L2.length c (zcells Y) hx (by rw [zcells_length, hy]) (k2.cells rfl) zcells_one (by simp [maxLen]; omega) (by omega) hbase ?_
  intro v' w' hown' hgrow _
  refine K v' w' (hid ⟨Z ++ Y, by rw [List.map_append, h1, k1], ?_, ?_⟩) (hid ?_)
  · have e : zcells (Z ++ Y) = zcells Z ++ zcells Y := by simp [zcells]
    rw [e, List.length_append, hy]
    exact hown'
  · intro y hy
    rcases List.mem_append.1 hy with hy | hy
    · exact ⟨(h3 y hy).1, (h3 y hy).2.grown h2 hgrow⟩
    · exact ⟨(k3 y hy).1, (k3 y hy).2.grown h2 hgrow⟩
  · exact (Below.refl base w).grown hgrow hbase (fun k hk => (h2.lt k hk).1)
/-- An append of bytes where a region draws its order. -/
theorem step_append_bytes {w : World} {ops : Array Oper} {o : Oper} {a : Act} {K : Act → World → Prop} {Q : Exit → Act → World → Prop} {E : Prop} (hgd : o.guard = none) (s x : Operand)
    (ho : o.op = .call { callee := .builtin .append, args := #[s, x], argTypes := #[32, 32] })
    (W : World) (v : Value) (xs : List Int) (hs : a.eval s = v) (hown : RowV w W.heap.size v xs) (g m c : Nat) (ys : List Int) (hx : a.eval x = .slice (some ⟨g, 0, none⟩) m c) (hm : ys.length = m) (hy : ByB w g 5 ys) (hys : isBytes ys) (hm0 : 0 < m) (hb : xs.length + m ≤ 100000) (hW : Below W.heap.size W w)
    (h : ∀ g' n' c' w', Hid (RowV w' W.heap.size (.slice (some ⟨g', 0, none⟩) n' c') (xs ++ ys)) → Below W.heap.size W w' → K (a.put o.dst (.slice (some ⟨g', 0, none⟩) n' c')) w') :
    if Region.wanted o (yielded ops a.tmps) = true then Oper.wp Tryd.prog o a w K Q else E := by
  obtain ⟨i0, hi, hz0, hz1, hz2⟩ := info_parts infoByte
  refine step_append_lies w hgd s x 32 ho W.heap.size 5 i0 (.int .u8 0) 1 1 Tryd.underlying32 hi hz0 hz1 hz2 rfl (by decide) v xs.length (xs.map (Value.int .u8)) hs hown.2 ⟨g, 0, none⟩ m c (ys.map (Value.int .u8)) hx (by simp [hm]) ?_ (fun v hv => by obtain ⟨z, _, rfl⟩ := List.mem_map.1 hv; rfl) hm0 (by unfold maxLen; omega) (by omega) hW.size _ rfl ?_
  · intro j u hu
    have hadd : (⟨g, 0, none⟩ : Addr).add j = ⟨g, j, none⟩ := by unfold Addr.add; split <;> simp_all
    rw [hadd, List.getElem?_map] at *
    cases hj : ys[j]? with
    | none => rw [hj] at hu; simp at hu
    | some z =>
      rw [hj] at hu
      simp at hu
      subst hu
      have := hy.cell j (List.getElem?_eq_some_iff.1 hj).1
      rw [hj] at this
      exact this
  · intro g' cap w' ho' hg' _ _
    exact h g' _ cap w' (hid ⟨hown.1.append hys, by rw [List.map_append, List.length_append, hm]; exact ho'⟩) (hW.grown hg' hW.size (fun k hk => (hown.2.lt k hk).1))
end Go.Proofs.YtiiepdgpnnjpiaaDoor
end
section
namespace Go.Proofs.YtiiepdgpnnjpiaaDoor
open Go.RowKit
set_option maxRecDepth 100000

theorem three_of {f rm s0 d x b : Int} {t0 : Bool} {s : Int} {t : Bool} (es : s = s0) (et : t = t0) (hf : 0 ≤ f ∧ f ≤ 7) (hrm : 0 ≤ rm ∧ rm ≤ 7) (hs : -1 ≤ s0 ∧ s0 < 256) (w : World) :
    Calls Tryd.prog 57 #[.int .i64 f, .int .i64 rm, .int .i64 s, .int .i64 d, .bool t, .int .i64 x, .int .i64 b] w fun e w' => ∃ v, e = .returned v ∧ Below w.heap.size w w' ∧ LaysR w' w.heap.size v (threeF f rm s0 d t0 x b) := by
  subst es; subst et
  exact three_any f rm s d t x b hf hrm hs w
theorem wrapi {z : Int} (h : -9223372036854775808 ≤ z ∧ z ≤ 9223372036854775807) : IntKind.i64.wrap z = z := (IntWalk.i64_left z).trans (IntWalk.wrap64_in _ h)
theorem wrap_sib {q i l : Int} (hq : 0 ≤ q ∧ q ≤ 3) (hi : 0 ≤ i ∧ i ≤ 7) (hl : 0 ≤ l ∧ l ≤ 7) : IntKind.i64.wrap (IntKind.i64.wrap (IntKind.i64.wrap (64 * q) + IntKind.i64.wrap (8 * i)) + l) = 64 * q + 8 * i + l := by
  have e1 : IntKind.i64.wrap (64 * q) = 64 * q := wrapi ⟨by omega, by omega⟩
  have e2 : IntKind.i64.wrap (8 * i) = 8 * i := wrapi ⟨by omega, by omega⟩
  rw [e1, e2]
  have e3 : IntKind.i64.wrap (64 * q + 8 * i) = 64 * q + 8 * i := wrapi ⟨by omega, by omega⟩
  rw [e3]
  exact wrapi ⟨by omega, by omega⟩
theorem bne5 (l : Int) : (l != 5) = !(l == 5) := rfl
theorem i5 : (0 : Int) ≤ 5 ∧ (5 : Int) ≤ 7 := by omega
theorem im1 : (-1 : Int) ≤ -1 ∧ (-1 : Int) < 256 := by omega
theorem threeF_ne (f rm s d : Int) (t : Bool) (x b : Int) : threeF f rm s d t x b ≠ [] := by unfold threeF; simp
theorem threeF_len (f rm s d : Int) (t : Bool) (x b : Int) : (threeF f rm s d t x b).length ≤ 3 := by unfold threeF; (repeat' split) <;> simp
theorem i4 : (0 : Int) ≤ 4 ∧ (4 : Int) ≤ 7 := by omega
set_option maxHeartbeats 1000000 in
theorem place_both (f bn ix s d z : Int) (hf : 0 ≤ f ∧ f ≤ 7)  (w : World) :
    Calls Tryd.prog 32 #[.int .i64 f, .agg #[.int .i64 5, .int .i64 bn, .int .i64 5, .int .i64 ix, .int .i64 s, .int .i64 d, .int .i64 z]] w fun e w' => ∃ v, e = .returned v ∧ Below w.heap.size w w' ∧ LaysR w' w.heap.size v (threeF f 4 (64 * shiftF s + 8 * lowF 5 ix + lowF 5 bn) d (!(lowF 5 bn == 5)) (highF 5 ix) (highF 5 bn)) := by
  obtain ⟨l, h_l⟩ : ∃ x, lowF 5 bn = x := ⟨_, rfl⟩
  have r_l : 0 ≤ l ∧ l ≤ 7 := h_l ▸ lowF_range _ _
  obtain ⟨h, h_h⟩ : ∃ x, highF 5 bn = x := ⟨_, rfl⟩
  obtain ⟨q, h_q⟩ : ∃ x, shiftF s = x := ⟨_, rfl⟩
  have r_q : 0 ≤ q ∧ q ≤ 3 := h_q ▸ shiftF_range _
  obtain ⟨li, h_li⟩ : ∃ x, lowF 5 ix = x := ⟨_, rfl⟩
  have r_li : 0 ≤ li ∧ li ≤ 7 := h_li ▸ lowF_range _ _
  obtain ⟨hi, h_hi⟩ : ∃ x, highF 5 ix = x := ⟨_, rfl⟩
  simp only [h_l, h_h, h_q, h_li, h_hi]
  have HL := hid h_l
  clear h_l
  have HH := hid h_h
  clear h_h
  have HQ := hid h_q
  clear h_q
  have HLI := hid h_li
  clear h_li
  have HHI := hid h_hi
  clear h_hi
  have HO := hid ((Own.nil w).alloc w.heap.size #[.int .i64 5, .int .i64 bn, .int .i64 5, .int .i64 ix, .int .i64 s, .int .i64 d, .int .i64 z] 25 rfl)
  go_enter Tryd.func32, Tryd.ntmps32
  go_wp2_with fail
  generalize w.alloc (.cells #[.int .i64 5, .int .i64 bn, .int .i64 5, .int .i64 ix, .int .i64 s, .int .i64 d, .int .i64 z] 25) = W at *
  have hsib : -1 ≤ 64 * q + 8 * li + l ∧ 64 * q + 8 * li + l < 256 := by omega
  have c0 := HO.out.c
  have z0 := HO.out.z
  have hS := Old.of (Below.refl W.heap.size W)
  go_region_held3 (fun w' => Below W.heap.size W w' ∧ ∀ b o, b < W.heap.size → w'.cell? ⟨b, o, none⟩ = W.cell? ⟨b, o, none⟩) (first | with_reducible assumption | exact old_drew ‹_› | (with_reducible refine old_kept ?_ (by assumption); with_reducible assumption) | exact Old.of ‹_› | (refine old_alloc ?_ _; with_reducible assumption)) (first | (go_at_call 29; (with_reducible refine (low_of HL.out _).mono ?_); rintro e w9 ⟨rfl, hbel⟩) | (go_at_call 30; (with_reducible refine (high_of HH.out _).mono ?_); rintro e w9 ⟨rfl, hbel⟩))
  have hk := (‹Below W.heap.size W w9 ∧ _›).1
  have HO := hid (HO.out.call hk)
  clear hk c0 z0
  have c0 := HO.out.c
  have z0 := HO.out.z
  go_wp2_with fail
  have c0 := HO.out.c
  have z0 := HO.out.z
  have hS := Old.of (Below.refl w9.heap.size w9)
  go_region_held3 (fun w' => Below w9.heap.size w9 w' ∧ ∀ b o, b < w9.heap.size → w'.cell? ⟨b, o, none⟩ = w9.cell? ⟨b, o, none⟩) (first | with_reducible assumption | exact old_drew ‹_› | (with_reducible refine old_kept ?_ (by assumption); with_reducible assumption) | exact Old.of ‹_› | (refine old_alloc ?_ _; with_reducible assumption)) (first | (go_at_call 56; (with_reducible refine (scale_of HQ.out _).mono ?_); rintro e w8 ⟨rfl, rfl⟩) | (go_at_call 29; (with_reducible refine (low_of HLI.out _).mono ?_); rintro e w8 ⟨rfl, hbel⟩))
  have hk := (‹Below w9.heap.size w9 w8 ∧ _›).1
  have HO := hid (HO.out.call hk)
  clear hk c0 z0
  have c0 := HO.out.c
  have z0 := HO.out.z
  go_wp2_with fail
  have c0 := HO.out.c
  have z0 := HO.out.z
  have hS := Old.of (Below.refl w8.heap.size w8)
  go_region_held3 (fun w' => Below w8.heap.size w8 w' ∧ ∀ b o, b < w8.heap.size → w'.cell? ⟨b, o, none⟩ = w8.cell? ⟨b, o, none⟩) (first | with_reducible assumption | exact old_drew ‹_› | (with_reducible refine old_kept ?_ (by assumption); with_reducible assumption) | exact Old.of ‹_› | (refine old_alloc ?_ _; with_reducible assumption)) (first | (go_at_call 30; (with_reducible refine (high_of HHI.out _).mono ?_); rintro e w7 ⟨rfl, hbel⟩) | (go_at_call 57; (with_reducible refine (three_of (wrap_sib r_q r_li r_l) (bne5 l) hf i4 hsib _).mono ?_); rintro e w6 ⟨v, rfl, hbel, hl3⟩; have HL3 := hid (hl3.mono (Nat.le_trans HO.out.below.size (‹Below w8.heap.size w8 _ ∧ _›).1.size)); clear hl3))
  have hk := (‹Below w8.heap.size w8 w6 ∧ _›).1
  have HO := hid (HO.out.call hk)
  clear hk c0 z0
  have c0 := HO.out.c
  have z0 := HO.out.z
  go_wp2
  go_ret
  exact ⟨_, rfl, HO.out.below, HL3.out⟩
set_option maxHeartbeats 1000000 in
theorem place_rip (f d z : Int) (hf : 0 ≤ f ∧ f ≤ 7)  (w : World) :
    Calls Tryd.prog 32 #[.int .i64 f, .agg #[.int .i64 8, .int .i64 0, .int .i64 0, .int .i64 0, .int .i64 0, .int .i64 d, .int .i64 z]] w fun e w' => ∃ v, e = .returned v ∧ Below w.heap.size w w' ∧ LaysR w' w.heap.size v ([⟨headB 0 f 5 (-1) ++ bytesOf d 4, 0, 0⟩]) := by
  obtain ⟨l, h_l⟩ : ∃ x, lowF 8 0 = x := ⟨_, rfl⟩
  obtain ⟨h, h_h⟩ : ∃ x, highF 8 0 = x := ⟨_, rfl⟩
  have HL := hid h_l
  have HH := hid h_h
  have r_l : 0 ≤ l ∧ l ≤ 7 := h_l ▸ lowF_range _ _
  clear h_l h_h
  have HO := hid ((Own.nil w).alloc w.heap.size #[.int .i64 8, .int .i64 0, .int .i64 0, .int .i64 0, .int .i64 0, .int .i64 d, .int .i64 z] 25 rfl)
  go_enter Tryd.func32, Tryd.ntmps32
  go_wp2_with fail
  generalize w.alloc (.cells #[.int .i64 8, .int .i64 0, .int .i64 0, .int .i64 0, .int .i64 0, .int .i64 d, .int .i64 z] 25) = W at *
  have c0 := HO.out.c
  have z0 := HO.out.z
  have hS := Old.of (Below.refl W.heap.size W)
  go_region_held3 (fun w' => Below W.heap.size W w' ∧ ∀ b o, b < W.heap.size → w'.cell? ⟨b, o, none⟩ = W.cell? ⟨b, o, none⟩) (first | with_reducible assumption | exact old_drew ‹_› | (with_reducible refine old_kept ?_ (by assumption); with_reducible assumption) | exact Old.of ‹_› | (refine old_alloc ?_ _; with_reducible assumption)) (first | (go_at_call 29; (with_reducible refine (low_of HL.out _).mono ?_); rintro e w9 ⟨rfl, hbel⟩) | (go_at_call 30; (with_reducible refine (high_of HH.out _).mono ?_); rintro e w9 ⟨rfl, hbel⟩))
  have hk := (‹Below W.heap.size W w9 ∧ _›).1
  have HO := hid (HO.out.call hk)
  clear hk c0 z0
  have c0 := HO.out.c
  have z0 := HO.out.z
  go_wp2_with fail
  have c0 := HO.out.c
  have z0 := HO.out.z
  have hS := Old.of (Below.refl w9.heap.size w9)
  go_region_held_law (fun w' => Below w9.heap.size w9 w' ∧ ∀ b o, b < w9.heap.size → w'.cell? ⟨b, o, none⟩ = w9.cell? ⟨b, o, none⟩) (first | with_reducible assumption | exact old_drew ‹_› | (with_reducible refine old_kept ?_ (by assumption); with_reducible assumption) | exact Old.of ‹_› | (refine old_alloc ?_ _; with_reducible assumption)) (first | (go_at_call 28; (with_reducible refine (rhead_any 0 f 5 (-1) m0_ok hf i5 im1 _).mono ?_); rintro e w8 ⟨vx, rfl, hbel, hrx⟩; have HR := hid (hrx.mono (‹Below w9.heap.size w9 _ ∧ _›).1.size); (try have HK := hid (HK.out.1.below hbel HK.out.1.lt)); clear hrx) | (go_at_call 54; (with_reducible refine (rfour_any d _).mono ?_); rintro e w8 ⟨rfl, hbel, hk4⟩; have HK := hid hk4; (try have HR := hid (HR.out.below hbel)); clear hk4) | ((refine step_append_bytes rfl _ _ rfl w9 _ (headB 0 f 5 (-1)) rfl HR.out _ 4 4 (bytesOf d 4) rfl (bytesOf_length d 4) HK.out (bytesOf_range d 4) (by omega) (by have := headB_len 0 f 5 (-1); omega) (‹Below w9.heap.size w9 _ ∧ _›).1 ?_; intro g' n' c' w8 hrv hbel; have HRV := hrv; clear hrv)))
  all_goals
    have HLR := hid ((LaysR.lit HRV.out (by simp [headB]) (‹Below w9.heap.size w9 w8›).size 0 0).mono HO.out.below.size)
    have hk := HO.out.below.trans ((‹Below w9.heap.size w9 (w8.alloc _) ∧ _›).1.mono HO.out.below.size)
    have HB := hid hk
    clear hk
    go_wp2
    go_ret
    exact ⟨_, rfl, HB.out, HLR.out⟩
set_option maxHeartbeats 1000000 in
theorem place_bare (f ic ix s d z : Int) (hf : 0 ≤ f ∧ f ≤ 7)  (w : World) :
    Calls Tryd.prog 32 #[.int .i64 f, .agg #[.int .i64 0, .int .i64 0, .int .i64 ic, .int .i64 ix, .int .i64 s, .int .i64 d, .int .i64 z]] w fun e w' => ∃ v, e = .returned v ∧ Below w.heap.size w w' ∧ LaysR w' w.heap.size v ([bareF f ic ix s d]) := by
  obtain ⟨l, h_l⟩ : ∃ x, lowF 0 0 = x := ⟨_, rfl⟩
  obtain ⟨h, h_h⟩ : ∃ x, highF 0 0 = x := ⟨_, rfl⟩
  have HL := hid h_l
  have HH := hid h_h
  have r_l : 0 ≤ l ∧ l ≤ 7 := h_l ▸ lowF_range _ _
  clear h_l h_h
  have HO := hid ((Own.nil w).alloc w.heap.size #[.int .i64 0, .int .i64 0, .int .i64 ic, .int .i64 ix, .int .i64 s, .int .i64 d, .int .i64 z] 25 rfl)
  go_enter Tryd.func32, Tryd.ntmps32
  go_wp2_with fail
  generalize w.alloc (.cells #[.int .i64 0, .int .i64 0, .int .i64 ic, .int .i64 ix, .int .i64 s, .int .i64 d, .int .i64 z] 25) = W at *
  have c0 := HO.out.c
  have z0 := HO.out.z
  have hS := Old.of (Below.refl W.heap.size W)
  go_region_held3 (fun w' => Below W.heap.size W w' ∧ ∀ b o, b < W.heap.size → w'.cell? ⟨b, o, none⟩ = W.cell? ⟨b, o, none⟩) (first | with_reducible assumption | exact old_drew ‹_› | (with_reducible refine old_kept ?_ (by assumption); with_reducible assumption) | exact Old.of ‹_› | (refine old_alloc ?_ _; with_reducible assumption)) (first | (go_at_call 29; (with_reducible refine (low_of HL.out _).mono ?_); rintro e w9 ⟨rfl, hbel⟩) | (go_at_call 30; (with_reducible refine (high_of HH.out _).mono ?_); rintro e w9 ⟨rfl, hbel⟩))
  have hk := (‹Below W.heap.size W w9 ∧ _›).1
  have HO := hid (HO.out.call hk)
  clear hk c0 z0
  have c0 := HO.out.c
  have z0 := HO.out.z
  go_wp2_with fail
  refine (bare_any f ic ix s d hf _).mono ?_
  rintro e w8 ⟨vb, rfl, hbel, hrv⟩
  obtain ⟨g', n', c', rfl⟩ := hrv.two (by simp [bareF, headB])
  have HRV := hid hrv
  clear hrv
  have HZ := hid HO.out.below.size
  have HZ2 := hid hbel.size
  have HO := hid (HO.out.call hbel)
  clear hbel c0 z0
  have HLR := hid ((LaysR.lit HRV.out (by simp [bareF, headB]) HZ2.out (bareF f ic ix s d).x 0).mono HZ.out)
  go_wp2
  go_ret
  exact ⟨_, rfl, HO.out.below.alloc HO.out.below.size _, HLR.out⟩
set_option maxHeartbeats 1000000 in
theorem place_base (f bn d z : Int) (hf : 0 ≤ f ∧ f ≤ 7) (h4 : ¬ lowF 5 bn = 4) (k4 : ¬ bn = 4) (w : World) :
    Calls Tryd.prog 32 #[.int .i64 f, .agg #[.int .i64 5, .int .i64 bn, .int .i64 0, .int .i64 0, .int .i64 0, .int .i64 d, .int .i64 z]] w fun e w' => ∃ v, e = .returned v ∧ Below w.heap.size w w' ∧ LaysR w' w.heap.size v (threeF f (lowF 5 bn) (-1) d (!(lowF 5 bn == 5)) 0 (highF 5 bn) ++ threeF f 4 (32 + lowF 5 bn) d (!(lowF 5 bn == 5)) 0 (highF 5 bn) ++ [bareF f 5 bn 1 d]) := by
  obtain ⟨l, h_l⟩ : ∃ x, lowF 5 bn = x := ⟨_, rfl⟩
  have r_l : 0 ≤ l ∧ l ≤ 7 := h_l ▸ lowF_range _ _
  obtain ⟨h, h_h⟩ : ∃ x, highF 5 bn = x := ⟨_, rfl⟩
  simp only [h_l, h_h]
  have b4 : (l != 4) = true := by rw [← h_l]; simp [h4]
  have k4' : (bn != 4) = true := by simp [k4]
  have HL := hid h_l
  clear h_l
  have HH := hid h_h
  clear h_h
  have HO := hid ((Own.nil w).alloc w.heap.size #[.int .i64 5, .int .i64 bn, .int .i64 0, .int .i64 0, .int .i64 0, .int .i64 d, .int .i64 z] 25 rfl)
  go_enter Tryd.func32, Tryd.ntmps32
  go_wp2_with fail
  generalize w.alloc (.cells #[.int .i64 5, .int .i64 bn, .int .i64 0, .int .i64 0, .int .i64 0, .int .i64 d, .int .i64 z] 25) = W at *
  have hsib : -1 ≤ 32 + l ∧ 32 + l < 256 := by omega
  have c0 := HO.out.c
  have z0 := HO.out.z
  have hS := Old.of (Below.refl W.heap.size W)
  go_region_held3 (fun w' => Below W.heap.size W w' ∧ ∀ b o, b < W.heap.size → w'.cell? ⟨b, o, none⟩ = W.cell? ⟨b, o, none⟩) (first | with_reducible assumption | exact old_drew ‹_› | (with_reducible refine old_kept ?_ (by assumption); with_reducible assumption) | exact Old.of ‹_› | (refine old_alloc ?_ _; with_reducible assumption)) (first | (go_at_call 29; (with_reducible refine (low_of HL.out _).mono ?_); rintro e w9 ⟨rfl, hbel⟩) | (go_at_call 30; (with_reducible refine (high_of HH.out _).mono ?_); rintro e w9 ⟨rfl, hbel⟩))
  have hk := (‹Below W.heap.size W w9 ∧ _›).1
  have HO := hid (HO.out.call hk)
  clear hk c0 z0
  have c0 := HO.out.c
  have z0 := HO.out.z
  have HO9 := hid HO.out
  have HB := hid (Below.refl w9.heap.size w9)
  go_wp2_with fail
  refine (three_of rfl (bne5 l) hf r_l im1 _).mono ?_
  rintro e w5 ⟨vw5, rfl, hbel, hl3⟩
  have HA := hid (hl3.mono HB.out.size)
  clear hl3
  have HB := hid (HB.out.trans (hbel.mono HB.out.size))
  have HO := hid (HO9.out.call HB.out)
  clear hbel c0 z0
  have c0 := HO.out.c
  have z0 := HO.out.z
  go_wp2_with fail
  refine (three_of rfl (bne5 l) hf i4 hsib _).mono ?_
  rintro e w6 ⟨vw6, rfl, hbel, hl3⟩
  have HT := hid (hl3.mono HB.out.size)
  clear hl3
  have HA := hid (HA.out.below hbel)
  have HB := hid (HB.out.trans (hbel.mono HB.out.size))
  have HO := hid (HO9.out.call HB.out)
  clear hbel c0 z0
  have c0 := HO.out.c
  have z0 := HO.out.z
  have hn0 : (threeF f l (-1) d (!(l == 5)) 0 h).length + (threeF f 4 (32 + l) d (!(l == 5)) 0 h).length ≤ 6 := by have q2 := threeF_len f 4 (32 + l) d (!(l == 5)) 0 h; have q1 := threeF_len f l (-1) d (!(l == 5)) 0 h; omega
  have hn1 := Nat.le_trans hn0 (by decide : 6 ≤ 40)
  go_wp2_with (at_builtin; refine wpList_append_lays rfl _ _ rfl w9.heap.size _ _ (threeF f l (-1) d (!(l == 5)) 0 h) (threeF f 4 (32 + l) d (!(l == 5)) 0 h) rfl rfl HA.out HT.out (threeF_ne _ _ _ _ _ _ _) hn1 HB.out.size ?_; intro v7 w7 hl7 hb7; have HL := hl7; have HB := hid (HB.out.trans hb7.out); have HO := hid (HO9.out.call HB.out); clear hl7 hb7 c0 z0; have c0 := HO.out.c; have z0 := HO.out.z)
  refine (bare_any f 5 bn 1 d hf _).mono ?_
  rintro e w8 ⟨vb, rfl, hbel, hrv⟩
  obtain ⟨g', n', c', rfl⟩ := hrv.two (by simp [bareF, headB])
  have HRV := hid hrv
  clear hrv
  have HL := hid ((HL.out.below hbel).below ((Below.refl _ _).alloc (Nat.le_refl _) (.cells #[.slice (some ⟨g', 0, none⟩) n' c', .int .i64 (bareF f 5 bn 1 d).x, .int .i64 0] 34)))
  have HZ := hid hbel.size
  have HRV := hid (HRV.out.mono HB.out.size)
  have HB := hid (HB.out.trans (hbel.mono HB.out.size))
  have HO := hid (HO9.out.call HB.out)
  clear hbel c0 z0
  have c0 := HO.out.c
  have z0 := HO.out.z
  have HL2 := hid (LaysR.lit HRV.out (by simp [bareF, headB]) HB.out.size (bareF f 5 bn 1 d).x 0)
  have HB2 := hid (HB.out.alloc HB.out.size (.cells #[.slice (some ⟨g', 0, none⟩) n' c', .int .i64 (bareF f 5 bn 1 d).x, .int .i64 0] 34))
  have hn1 : (threeF f l (-1) d (!(l == 5)) 0 h ++ threeF f 4 (32 + l) d (!(l == 5)) 0 h).length + [bareF f 5 bn 1 d].length ≤ 40 := by rw [List.length_append, List.length_singleton]; exact Nat.le_trans (Nat.succ_le_succ hn0) (by decide)
  clear c0 z0
  have c0 := HO.out.a
  have z0 := HO.out.z
  go_wp2_with (at_builtin; refine wpList_append_lays rfl _ _ rfl w9.heap.size _ _ (threeF f l (-1) d (!(l == 5)) 0 h ++ threeF f 4 (32 + l) d (!(l == 5)) 0 h) ([bareF f 5 bn 1 d]) rfl rfl HL.out HL2.out (by simp) hn1 HB2.out.size ?_; intro v7 w7 hl7 hb7; have HL := hl7; have HB := hid (HB2.out.trans hb7.out); have HO := hid (HO9.out.call HB.out); clear hl7 hb7 c0 z0; have c0 := HO.out.c; have z0 := HO.out.z)
  go_wp2
  go_ret
  exact ⟨_, rfl, HO.out.below, HL.out.mono (by have := HO9.out.below.size; omega)⟩
set_option maxHeartbeats 1000000 in
theorem place_base12 (f bn d z : Int) (hf : 0 ≤ f ∧ f ≤ 7) (h4 : lowF 5 bn = 4) (k4 : ¬ bn = 4) (w : World) :
    Calls Tryd.prog 32 #[.int .i64 f, .agg #[.int .i64 5, .int .i64 bn, .int .i64 0, .int .i64 0, .int .i64 0, .int .i64 d, .int .i64 z]] w fun e w' => ∃ v, e = .returned v ∧ Below w.heap.size w w' ∧ LaysR w' w.heap.size v (threeF f 4 (32 + lowF 5 bn) d (!(lowF 5 bn == 5)) 0 (highF 5 bn) ++ [bareF f 5 bn 1 d]) := by
  obtain ⟨l, h_l⟩ : ∃ x, lowF 5 bn = x := ⟨_, rfl⟩
  have r_l : 0 ≤ l ∧ l ≤ 7 := h_l ▸ lowF_range _ _
  obtain ⟨h, h_h⟩ : ∃ x, highF 5 bn = x := ⟨_, rfl⟩
  simp only [h_l, h_h]
  have b4 : (l != 4) = false := by rw [← h_l]; simp [h4]
  have k4' : (bn != 4) = true := by simp [k4]
  have HL := hid h_l
  clear h_l
  have HH := hid h_h
  clear h_h
  have HO := hid ((Own.nil w).alloc w.heap.size #[.int .i64 5, .int .i64 bn, .int .i64 0, .int .i64 0, .int .i64 0, .int .i64 d, .int .i64 z] 25 rfl)
  go_enter Tryd.func32, Tryd.ntmps32
  go_wp2_with fail
  generalize w.alloc (.cells #[.int .i64 5, .int .i64 bn, .int .i64 0, .int .i64 0, .int .i64 0, .int .i64 d, .int .i64 z] 25) = W at *
  have hsib : -1 ≤ 32 + l ∧ 32 + l < 256 := by omega
  have c0 := HO.out.c
  have z0 := HO.out.z
  have hS := Old.of (Below.refl W.heap.size W)
  go_region_held3 (fun w' => Below W.heap.size W w' ∧ ∀ b o, b < W.heap.size → w'.cell? ⟨b, o, none⟩ = W.cell? ⟨b, o, none⟩) (first | with_reducible assumption | exact old_drew ‹_› | (with_reducible refine old_kept ?_ (by assumption); with_reducible assumption) | exact Old.of ‹_› | (refine old_alloc ?_ _; with_reducible assumption)) (first | (go_at_call 29; (with_reducible refine (low_of HL.out _).mono ?_); rintro e w9 ⟨rfl, hbel⟩) | (go_at_call 30; (with_reducible refine (high_of HH.out _).mono ?_); rintro e w9 ⟨rfl, hbel⟩))
  have hk := (‹Below W.heap.size W w9 ∧ _›).1
  have HO := hid (HO.out.call hk)
  clear hk c0 z0
  have c0 := HO.out.c
  have z0 := HO.out.z
  have HO9 := hid HO.out
  have HB := hid (Below.refl w9.heap.size w9)
  go_wp2_with fail
  refine (three_of rfl (bne5 l) hf i4 hsib _).mono ?_
  rintro e w6 ⟨vw6, rfl, hbel, hl3⟩
  have HT := hid (hl3.mono HB.out.size)
  clear hl3
  have HB := hid (HB.out.trans (hbel.mono HB.out.size))
  have HO := hid (HO9.out.call HB.out)
  clear hbel c0 z0
  have c0 := HO.out.c
  have z0 := HO.out.z
  have hn0 : (([] : List Way)).length + (threeF f 4 (32 + l) d (!(l == 5)) 0 h).length ≤ 6 := by have q2 := threeF_len f 4 (32 + l) d (!(l == 5)) 0 h; simp; omega
  have hn1 := Nat.le_trans hn0 (by decide : 6 ≤ 40)
  go_wp2_with (at_builtin; refine wpList_append_lays rfl _ _ rfl w9.heap.size _ _ (([] : List Way)) (threeF f 4 (32 + l) d (!(l == 5)) 0 h) rfl rfl (LaysR.nil _ _) HT.out (threeF_ne _ _ _ _ _ _ _) hn1 HB.out.size ?_; intro v7 w7 hl7 hb7; have HL := hl7; have HB := hid (HB.out.trans hb7.out); have HO := hid (HO9.out.call HB.out); clear hl7 hb7 c0 z0; have c0 := HO.out.c; have z0 := HO.out.z)
  refine (bare_any f 5 bn 1 d hf _).mono ?_
  rintro e w8 ⟨vb, rfl, hbel, hrv⟩
  obtain ⟨g', n', c', rfl⟩ := hrv.two (by simp [bareF, headB])
  have HRV := hid hrv
  clear hrv
  have HL := hid ((HL.out.below hbel).below ((Below.refl _ _).alloc (Nat.le_refl _) (.cells #[.slice (some ⟨g', 0, none⟩) n' c', .int .i64 (bareF f 5 bn 1 d).x, .int .i64 0] 34)))
  have HZ := hid hbel.size
  have HRV := hid (HRV.out.mono HB.out.size)
  have HB := hid (HB.out.trans (hbel.mono HB.out.size))
  have HO := hid (HO9.out.call HB.out)
  clear hbel c0 z0
  have c0 := HO.out.c
  have z0 := HO.out.z
  have HL2 := hid (LaysR.lit HRV.out (by simp [bareF, headB]) HB.out.size (bareF f 5 bn 1 d).x 0)
  have HB2 := hid (HB.out.alloc HB.out.size (.cells #[.slice (some ⟨g', 0, none⟩) n' c', .int .i64 (bareF f 5 bn 1 d).x, .int .i64 0] 34))
  have hn1 : (([] : List Way) ++ threeF f 4 (32 + l) d (!(l == 5)) 0 h).length + [bareF f 5 bn 1 d].length ≤ 40 := by rw [List.length_append, List.length_singleton]; exact Nat.le_trans (Nat.succ_le_succ hn0) (by decide)
  clear c0 z0
  have c0 := HO.out.a
  have z0 := HO.out.z
  go_wp2_with (at_builtin; refine wpList_append_lays rfl _ _ rfl w9.heap.size _ _ (([] : List Way) ++ threeF f 4 (32 + l) d (!(l == 5)) 0 h) ([bareF f 5 bn 1 d]) rfl rfl HL.out HL2.out (by simp) hn1 HB2.out.size ?_; intro v7 w7 hl7 hb7; have HL := hl7; have HB := hid (HB2.out.trans hb7.out); have HO := hid (HO9.out.call HB.out); clear hl7 hb7 c0 z0; have c0 := HO.out.c; have z0 := HO.out.z)
  go_wp2
  go_ret
  exact ⟨_, rfl, HO.out.below, HL.out.mono (by have := HO9.out.below.size; omega)⟩
set_option maxHeartbeats 1000000 in
theorem place_base4 (f d z : Int) (hf : 0 ≤ f ∧ f ≤ 7) (h4 : lowF 5 4 = 4) (w : World) :
    Calls Tryd.prog 32 #[.int .i64 f, .agg #[.int .i64 5, .int .i64 4, .int .i64 0, .int .i64 0, .int .i64 0, .int .i64 d, .int .i64 z]] w fun e w' => ∃ v, e = .returned v ∧ Below w.heap.size w w' ∧ LaysR w' w.heap.size v (threeF f 4 (32 + lowF 5 4) d (!(lowF 5 4 == 5)) 0 (highF 5 4)) := by
  obtain ⟨l, h_l⟩ : ∃ x, lowF 5 4 = x := ⟨_, rfl⟩
  have r_l : 0 ≤ l ∧ l ≤ 7 := h_l ▸ lowF_range _ _
  obtain ⟨h, h_h⟩ : ∃ x, highF 5 4 = x := ⟨_, rfl⟩
  simp only [h_l, h_h]
  have b4 : (l != 4) = false := by rw [← h_l]; simp [h4]
  have HL := hid h_l
  clear h_l
  have HH := hid h_h
  clear h_h
  have HO := hid ((Own.nil w).alloc w.heap.size #[.int .i64 5, .int .i64 4, .int .i64 0, .int .i64 0, .int .i64 0, .int .i64 d, .int .i64 z] 25 rfl)
  go_enter Tryd.func32, Tryd.ntmps32
  go_wp2_with fail
  generalize w.alloc (.cells #[.int .i64 5, .int .i64 4, .int .i64 0, .int .i64 0, .int .i64 0, .int .i64 d, .int .i64 z] 25) = W at *
  have hsib : -1 ≤ 32 + l ∧ 32 + l < 256 := by omega
  have c0 := HO.out.c
  have z0 := HO.out.z
  have hS := Old.of (Below.refl W.heap.size W)
  go_region_held3 (fun w' => Below W.heap.size W w' ∧ ∀ b o, b < W.heap.size → w'.cell? ⟨b, o, none⟩ = W.cell? ⟨b, o, none⟩) (first | with_reducible assumption | exact old_drew ‹_› | (with_reducible refine old_kept ?_ (by assumption); with_reducible assumption) | exact Old.of ‹_› | (refine old_alloc ?_ _; with_reducible assumption)) (first | (go_at_call 29; (with_reducible refine (low_of HL.out _).mono ?_); rintro e w9 ⟨rfl, hbel⟩) | (go_at_call 30; (with_reducible refine (high_of HH.out _).mono ?_); rintro e w9 ⟨rfl, hbel⟩))
  have hk := (‹Below W.heap.size W w9 ∧ _›).1
  have HO := hid (HO.out.call hk)
  clear hk c0 z0
  have c0 := HO.out.c
  have z0 := HO.out.z
  have HO9 := hid HO.out
  have HB := hid (Below.refl w9.heap.size w9)
  go_wp2_with fail
  refine (three_of rfl (bne5 l) hf i4 hsib _).mono ?_
  rintro e w6 ⟨vw6, rfl, hbel, hl3⟩
  have HT := hid (hl3.mono HB.out.size)
  clear hl3
  have HB := hid (HB.out.trans (hbel.mono HB.out.size))
  have HO := hid (HO9.out.call HB.out)
  clear hbel c0 z0
  have c0 := HO.out.c
  have z0 := HO.out.z
  have hn0 : (([] : List Way)).length + (threeF f 4 (32 + l) d (!(l == 5)) 0 h).length ≤ 6 := by have q2 := threeF_len f 4 (32 + l) d (!(l == 5)) 0 h; simp; omega
  have hn1 := Nat.le_trans hn0 (by decide : 6 ≤ 40)
  go_wp2_with (at_builtin; refine wpList_append_lays rfl _ _ rfl w9.heap.size _ _ (([] : List Way)) (threeF f 4 (32 + l) d (!(l == 5)) 0 h) rfl rfl (LaysR.nil _ _) HT.out (threeF_ne _ _ _ _ _ _ _) hn1 HB.out.size ?_; intro v7 w7 hl7 hb7; have HL := hl7; have HB := hid (HB.out.trans hb7.out); have HO := hid (HO9.out.call HB.out); clear hl7 hb7 c0 z0; have c0 := HO.out.c; have z0 := HO.out.z)
  go_wp2
  go_ret
  exact ⟨_, rfl, HO.out.below, HL.out.mono (by have := HO9.out.below.size; omega)⟩
end Go.Proofs.YtiiepdgpnnjpiaaDoor
end
section
namespace Go.Proofs.YtiiepdgpnnjpiaaDoor
open Go.RowKit
set_option maxRecDepth 100000

theorem bytes_one (d : Int) : bytesOf d 1 = [d % 256] := by simp [bytesOf, List.range_succ]
theorem fits_eight (d : Int) : fitsB d 8 = (decide (-128 ≤ d) && decide (d ≤ 127)) := by
  have e : sgn d 8 = (d + 128) % 256 - 128 := by unfold sgn; rw [if_pos ⟨by omega, by omega⟩]; rfl
  unfold fitsB
  rw [e]
  rw [Bool.eq_iff_iff]
  simp [bitsOk]
  omega
/-- With each displacement: the plain form. -/
theorem three_ways (f rm s d x b base : Int) : threeF f rm s d (!(base == 5)) x b = (tailsF false base d).map (wayF f ⟨rm, if s < 0 then [] else [s], x, b, base, false⟩) := by
  unfold threeF tailsF headB wayF
  rw [fits_eight, bytes_one]
  by_cases h1 : d = 0 <;> by_cases h2 : base = 5 <;> simp [h1, h2] <;> split <;> simp
theorem bare_way (f c n s d : Int) (h0 : c = 0 → n = 0 ∧ s = 0) : bareF f c n s d = wayF f (indexedH c n s) (0, bytesOf d 4) := by
  by_cases hc : c = 0
  · obtain ⟨rfl, rfl⟩ := h0 hc
    subst hc
    simp [bareF, indexedH, wayF, headB, sibF, noneF, shiftF]
  · have hn : noneF c n = false := by simp [noneF, hc]
    have r1 := shiftF_range s
    have r2 := lowF_range c n
    simp only [bareF, indexedH, wayF, headB, sibF, hn, hc, if_false, Bool.false_eq_true]
    rw [if_neg (by omega)]
    simp
theorem ways_rip (f d z : Int) : waysF f ⟨8, 0, 0, 0, 0, d, z⟩ = [⟨headB 0 f 5 (-1) ++ bytesOf d 4, 0, 0⟩] := by
  simp [waysF, headsF, tailsF, wayF, headB]
theorem ways_bare (f ic ix s d z : Int) (h0 : ic = 0 → ix = 0 ∧ s = 0) : waysF f ⟨0, 0, ic, ix, s, d, z⟩ = [bareF f ic ix s d] := by
  rw [bare_way f ic ix s d h0]
  simp [waysF, headsF, noneF, tailsF, indexedH]
theorem ways_both (f bn ix s d z : Int) : waysF f ⟨5, bn, 5, ix, s, d, z⟩ = threeF f 4 (64 * shiftF s + 8 * lowF 5 ix + lowF 5 bn) d (!(lowF 5 bn == 5)) (highF 5 ix) (highF 5 bn) := by
  have r1 := shiftF_range s
  have r2 := lowF_range 5 ix
  have r3 := lowF_range 5 bn
  rw [three_ways, if_neg (by omega)]
  simp [waysF, headsF, noneF, basedH, sibF]
theorem ways_base (f bn d z : Int) : waysF f ⟨5, bn, 0, 0, 0, d, z⟩ = (if lowF 5 bn = 4 then [] else threeF f (lowF 5 bn) (-1) d (!(lowF 5 bn == 5)) 0 (highF 5 bn)) ++ threeF f 4 (32 + lowF 5 bn) d (!(lowF 5 bn == 5)) 0 (highF 5 bn) ++ (if bn = 4 then [] else [bareF f 5 bn 1 d]) := by
  have r3 := lowF_range 5 bn
  have h5 : highF 0 0 = 0 := by decide
  have e1 := three_ways f (lowF 5 bn) (-1) d 0 (highF 5 bn) (lowF 5 bn)
  have e2 := three_ways f 4 (32 + lowF 5 bn) d 0 (highF 5 bn) (lowF 5 bn)
  rw [if_pos (by decide)] at e1
  rw [if_neg (by omega)] at e2
  rw [e1, e2, bare_way f 5 bn 1 d (by simp)]
  have e : headsF ⟨5, bn, 0, 0, 0, d, z⟩ = (if lowF 5 bn = 4 then [] else [⟨lowF 5 bn, [], 0, highF 5 bn, lowF 5 bn, false⟩]) ++ basedH 5 bn 0 0 0 :: (if bn = 4 then [] else [indexedH 5 bn 1]) := by
    unfold headsF
    rw [if_neg (by simp), if_neg (by simp [noneF]), if_neg (by simp [noneF])]
  have eb : basedH 5 bn 0 0 0 = ⟨4, [32 + lowF 5 bn], 0, highF 5 bn, lowF 5 bn, false⟩ := by simp [basedH, sibF, noneF, h5]
  have et : tailsF (indexedH 5 bn 1).alone (indexedH 5 bn 1).base d = [(0, bytesOf d 4)] := by simp [indexedH, tailsF]
  unfold waysF
  rw [e, eb]
  by_cases h1 : lowF 5 bn = 4
  · rw [if_pos h1, if_pos h1]
    by_cases h2 : bn = 4
    · rw [if_pos h2, if_pos h2]; simp
    · rw [if_neg h2, if_neg h2]
      simp only [List.nil_append, List.flatMap_cons, List.flatMap_nil, List.append_nil, et, List.map_cons, List.map_nil]
  · rw [if_neg h1, if_neg h1]
    by_cases h2 : bn = 4
    · rw [if_pos h2, if_pos h2]; simp
    · rw [if_neg h2, if_neg h2]
      simp only [List.cons_append, List.nil_append, List.flatMap_cons, List.flatMap_nil, List.append_nil, et, List.map_cons, List.map_nil, List.append_assoc]
/-- All ways of a place in its canonical form. -/
theorem rplace_any (f : Int) (m : Pl) (hf : 0 ≤ f ∧ f ≤ 7) (hm : Shape m) (w : World) :
    Calls Tryd.prog 32 #[.int .i64 f, MV m] w fun e w' => ∃ v, e = .returned v ∧ Below w.heap.size w w' ∧ LaysR w' w.heap.size v (waysF f m) := by
  obtain ⟨bc, bn, ic, ix, s, d, z⟩ := m
  unfold Shape at hm
  simp only at hm
  rcases hm with ⟨rfl, rfl, rfl, rfl, rfl⟩ | ⟨rfl, rfl, rfl, rfl, rfl⟩ | ⟨rfl, rfl, rfl, _, _⟩ | ⟨rfl, _, rfl, _, _⟩ | ⟨rfl, _, rfl, rfl, rfl⟩
  · rw [ways_rip]; exact place_rip f d z hf w
  · rw [ways_bare _ _ _ _ _ _ (fun _ => ⟨rfl, rfl⟩)]; exact place_bare f 0 0 0 d z hf w
  · rw [ways_bare _ _ _ _ _ _ (fun h => absurd h (by decide))]; exact place_bare f 5 ix s d z hf w
  · rw [ways_both]; exact place_both f bn ix s d z hf w
  · rw [ways_base]
    by_cases h4 : bn = 4
    · subst h4
      have hl : lowF 5 4 = 4 := by decide
      rw [if_pos hl, if_pos rfl, List.append_nil, List.nil_append]
      exact place_base4 f d z hf hl w
    · by_cases hl : lowF 5 bn = 4
      · rw [if_pos hl, if_neg h4, List.nil_append]
        exact place_base12 f bn d z hf hl h4 w
      · rw [if_neg hl, if_neg h4]
        exact place_base f bn d z hf hl h4 w
/-- What the document's All answers. -/
def RAll (f : Int) (a : Ar) (w : World) (e : Ending) (w' : World) : Prop :=
  ∃ v, e = .returned (.tuple #[v, .int .i64 (allE f a)]) ∧ Below w.heap.size w w' ∧ LaysR w' w.heap.size v (allF f a)
theorem rall_out (f k rc rn bc bn ic ix s d z n : Int) (h : f < 0 ∨ 7 < f) (w : World) :
    Calls Tryd.prog 9 #[.int .i64 f, .agg #[.int .i64 k, .int .i64 rc, .int .i64 rn, .int .i64 bc, .int .i64 bn, .int .i64 ic, .int .i64 ix, .int .i64 s, .int .i64 d, .int .i64 z, .int .i64 n]] w fun e w' => e = .returned (.tuple #[.slice none 0 0, .int .i64 5]) ∧ Below w.heap.size w w' := by
  go_enter Tryd.func9, Tryd.ntmps9
  go_wp2
  all_goals go_returns
  all_goals first | exact ⟨rfl, (Below.refl _ _).alloc (Nat.le_refl _) _⟩ | (exfalso; simp_all; omega)
theorem rall_not (f k rc rn bc bn ic ix s d z n e' : Int) (hf : 0 ≤ f ∧ f ≤ 7) (h : ¬ e' = 0) (HE : Hid (argF ⟨k, rc, rn, ⟨bc, bn, ic, ix, s, d, z⟩, n⟩ = e')) (w : World) :
    Calls Tryd.prog 9 #[.int .i64 f, .agg #[.int .i64 k, .int .i64 rc, .int .i64 rn, .int .i64 bc, .int .i64 bn, .int .i64 ic, .int .i64 ix, .int .i64 s, .int .i64 d, .int .i64 z, .int .i64 n]] w fun e w' => e = .returned (.tuple #[.slice none 0 0, .int .i64 e']) ∧ Below w.heap.size w w' := by
  have f1 : (f < 0) = False := by simp; omega
  have f2 : (f ≤ 7) = True := by simp; omega
  have f3 : (7 < f) = False := by simp; omega
  have HO := hid ((Own.nil w).alloc w.heap.size #[.int .i64 k, .int .i64 rc, .int .i64 rn, .int .i64 bc, .int .i64 bn, .int .i64 ic, .int .i64 ix, .int .i64 s, .int .i64 d, .int .i64 z, .int .i64 n] 27 rfl)
  go_enter Tryd.func9, Tryd.ntmps9
  go_wp2_with fail
  refine (racheck_of HE.out _).mono ?_
  rintro e w1 ⟨rfl, hb1⟩
  have HO := hid (HO.out.call hb1)
  clear hb1
  have c0 := HO.out.c
  have z0 := HO.out.z
  go_wp2
  go_ret2
  exact ⟨rfl, HO.out.below⟩
theorem rall_rest (f k rc rn bc bn ic ix s d z n : Int) (hf : 0 ≤ f ∧ f ≤ 7) (h1 : ¬ k = 1) (h2 : ¬ k = 2) (HE : Hid (argF ⟨k, rc, rn, ⟨bc, bn, ic, ix, s, d, z⟩, n⟩ = 0)) (w : World) :
    Calls Tryd.prog 9 #[.int .i64 f, .agg #[.int .i64 k, .int .i64 rc, .int .i64 rn, .int .i64 bc, .int .i64 bn, .int .i64 ic, .int .i64 ix, .int .i64 s, .int .i64 d, .int .i64 z, .int .i64 n]] w fun e w' => e = .returned (.tuple #[.slice none 0 0, .int .i64 2]) ∧ Below w.heap.size w w' := by
  have f1 : (f < 0) = False := by simp; omega
  have f2 : (f ≤ 7) = True := by simp; omega
  have f3 : (7 < f) = False := by simp; omega
  have HO := hid ((Own.nil w).alloc w.heap.size #[.int .i64 k, .int .i64 rc, .int .i64 rn, .int .i64 bc, .int .i64 bn, .int .i64 ic, .int .i64 ix, .int .i64 s, .int .i64 d, .int .i64 z, .int .i64 n] 27 rfl)
  go_enter Tryd.func9, Tryd.ntmps9
  go_wp2_with fail
  refine (racheck_of HE.out _).mono ?_
  rintro e w1 ⟨rfl, hb1⟩
  have HO := hid (HO.out.call hb1)
  clear hb1
  have c0 := HO.out.c
  have z0 := HO.out.z
  go_wp2
  go_ret2
  exact ⟨rfl, HO.out.below⟩
set_option maxHeartbeats 1000000 in
theorem rall_mem (f rc rn bc bn ic ix s d z n x0 x1 x2 x3 x4 x5 x6 : Int) (hf : 0 ≤ f ∧ f ≤ 7) (HE : Hid (argF ⟨2, rc, rn, ⟨bc, bn, ic, ix, s, d, z⟩, n⟩ = 0)) (HC : Hid (checkF ⟨bc, bn, ic, ix, s, d, z⟩ = 0)) (HX : Hid (outF ⟨bc, bn, ic, ix, s, d, z⟩ = ⟨x0, x1, x2, x3, x4, x5, x6⟩)) (HS : Hid (Shape ⟨x0, x1, x2, x3, x4, x5, x6⟩)) (w : World) :
    Calls Tryd.prog 9 #[.int .i64 f, .agg #[.int .i64 2, .int .i64 rc, .int .i64 rn, .int .i64 bc, .int .i64 bn, .int .i64 ic, .int .i64 ix, .int .i64 s, .int .i64 d, .int .i64 z, .int .i64 n]] w fun e w' => ∃ v, e = .returned (.tuple #[v, .int .i64 0]) ∧ Below w.heap.size w w' ∧ LaysR w' w.heap.size v (waysF f ⟨x0, x1, x2, x3, x4, x5, x6⟩) := by
  have f1 : (f < 0) = False := by simp; omega
  have f2 : (f ≤ 7) = True := by simp; omega
  have f3 : (7 < f) = False := by simp; omega
  have HO := hid ((Own.nil w).alloc w.heap.size #[.int .i64 2, .int .i64 rc, .int .i64 rn, .int .i64 bc, .int .i64 bn, .int .i64 ic, .int .i64 ix, .int .i64 s, .int .i64 d, .int .i64 z, .int .i64 n] 27 rfl)
  go_enter Tryd.func9, Tryd.ntmps9
  go_wp2_with fail
  refine (racheck_of HE.out _).mono ?_
  rintro e w1 ⟨rfl, hb1⟩
  have HO := hid (HO.out.call hb1)
  clear hb1
  have c0 := HO.out.c
  have z0 := HO.out.z
  go_wp2_with fail
  refine (rcanon_of HX.out HC.out _).mono ?_
  rintro e w2 ⟨rfl, hb2⟩
  unfold MV
  have HO := hid (HO.out.call hb2)
  clear hb2 c0 z0
  have c0 := HO.out.c
  have z0 := HO.out.z
  go_wp2_with fail
  refine (rplace_any f ⟨x0, x1, x2, x3, x4, x5, x6⟩ hf HS.out _).mono ?_
  rintro e w3 ⟨v, rfl, hb3, hl3⟩
  have HL := hid hl3
  have HB := hid hb3
  clear hb3 hl3
  have HA := hid (HO.out.below.alloc HO.out.below.size (.cells #[.int .i64 x0, .int .i64 x1, .int .i64 x2, .int .i64 x3, .int .i64 x4, .int .i64 x5, .int .i64 x6] 25))
  go_wp2
  go_ret2
  exact ⟨_, rfl, HA.out.trans (HB.out.mono HA.out.size), HL.out.mono HA.out.size⟩
theorem m3_ok : (0 : Int) ≤ 3 ∧ (3 : Int) ≤ 3 := by omega
set_option maxHeartbeats 1000000 in
theorem rall_reg (f rc rn bc bn ic ix s d z n : Int) (hf : 0 ≤ f ∧ f ≤ 7) (HE : Hid (argF ⟨1, rc, rn, ⟨bc, bn, ic, ix, s, d, z⟩, n⟩ = 0)) (w : World) :
    Calls Tryd.prog 9 #[.int .i64 f, .agg #[.int .i64 1, .int .i64 rc, .int .i64 rn, .int .i64 bc, .int .i64 bn, .int .i64 ic, .int .i64 ix, .int .i64 s, .int .i64 d, .int .i64 z, .int .i64 n]] w fun e w' => ∃ v, e = .returned (.tuple #[v, .int .i64 0]) ∧ Below w.heap.size w w' ∧ LaysR w' w.heap.size v [regWay f rc rn] := by
  unfold regWay
  obtain ⟨l, h_l⟩ : ∃ x, lowF rc rn = x := ⟨_, rfl⟩
  obtain ⟨h, h_h⟩ : ∃ x, highF rc rn = x := ⟨_, rfl⟩
  simp only [h_l, h_h]
  have r_l : 0 ≤ l ∧ l ≤ 7 := h_l ▸ lowF_range _ _
  have HL := hid h_l
  have HH := hid h_h
  clear h_l h_h
  have f1 : (f < 0) = False := by simp; omega
  have f2 : (f ≤ 7) = True := by simp; omega
  have f3 : (7 < f) = False := by simp; omega
  have HO := hid ((Own.nil w).alloc w.heap.size #[.int .i64 1, .int .i64 rc, .int .i64 rn, .int .i64 bc, .int .i64 bn, .int .i64 ic, .int .i64 ix, .int .i64 s, .int .i64 d, .int .i64 z, .int .i64 n] 27 rfl)
  go_enter Tryd.func9, Tryd.ntmps9
  go_wp2_with fail
  refine (racheck_of HE.out _).mono ?_
  rintro e w1 ⟨rfl, hb1⟩
  have HO := hid (HO.out.call hb1)
  clear hb1
  have c0 := HO.out.c
  have z0 := HO.out.z
  go_wp2_with fail
  have c0 := HO.out.c
  have z0 := HO.out.z
  have hS := Old.of (Below.refl w1.heap.size w1)
  go_region_held3 (fun w' => Below w1.heap.size w1 w' ∧ ∀ b o, b < w1.heap.size → w'.cell? ⟨b, o, none⟩ = w1.cell? ⟨b, o, none⟩) (first | with_reducible assumption | exact old_drew ‹_› | (with_reducible refine old_kept ?_ (by assumption); with_reducible assumption) | exact Old.of ‹_› | (refine old_alloc ?_ _; with_reducible assumption)) (first | (go_at_call 29; (with_reducible refine (low_of HL.out _).mono ?_); rintro e w8 ⟨rfl, hbel⟩; (try have HR := hid (HR.out.below hbel)); have HZ := hid (Nat.le_trans (‹Below w1.heap.size w1 _ ∧ _›).1.size hbel.size)) | (go_at_call 30; (with_reducible refine (high_of HH.out _).mono ?_); rintro e w8 ⟨rfl, hbel⟩; (try have HR := hid (HR.out.below hbel)); have HZ := hid (Nat.le_trans (‹Below w1.heap.size w1 _ ∧ _›).1.size hbel.size)) | (go_at_call 28; (with_reducible refine (rhead_any 3 f l (-1) m3_ok hf r_l im1 _).mono ?_); rintro e w8 ⟨vx, rfl, hbel, hrx⟩; obtain ⟨g', n', c', rfl⟩ := hrx.two (by simp [headB]); have HR := hid (hrx.mono (‹Below w1.heap.size w1 _ ∧ _›).1.size); have HZ := hid (Nat.le_trans (‹Below w1.heap.size w1 _ ∧ _›).1.size hbel.size); clear hrx))
  all_goals
    have HLR := hid ((LaysR.lit HR.out (by simp [headB]) HZ.out 0 h).mono HO.out.below.size)
    have hk := HO.out.below.trans ((‹Below w1.heap.size w1 (w8.alloc _) ∧ _›).1.mono HO.out.below.size)
    have HB := hid hk
    clear hk
    go_wp2
    go_ret2
    exact ⟨_, rfl, HB.out, HLR.out⟩
theorem rall_any (f k rc rn bc bn ic ix s d z n : Int) (w : World) :
    Calls Tryd.prog 9 #[.int .i64 f, AV ⟨k, rc, rn, ⟨bc, bn, ic, ix, s, d, z⟩, n⟩] w (RAll f ⟨k, rc, rn, ⟨bc, bn, ic, ix, s, d, z⟩, n⟩ w) := by
  unfold RAll
  by_cases hf : f < 0 ∨ 7 < f
  · have hE : allE f ⟨k, rc, rn, ⟨bc, bn, ic, ix, s, d, z⟩, n⟩ = 5 := by unfold allE; rw [if_pos hf]
    have hF : allF f ⟨k, rc, rn, ⟨bc, bn, ic, ix, s, d, z⟩, n⟩ = [] := by unfold allF; rw [hE]; rfl
    rw [hE, hF]
    exact (rall_out f k rc rn bc bn ic ix s d z n hf w).mono fun e w' ⟨h1, h2⟩ => ⟨_, h1, h2, LaysR.nil _ _⟩
  have hf' : 0 ≤ f ∧ f ≤ 7 := by omega
  obtain ⟨e', he⟩ : ∃ e', argF ⟨k, rc, rn, ⟨bc, bn, ic, ix, s, d, z⟩, n⟩ = e' := ⟨_, rfl⟩
  by_cases h0 : e' = 0
  · subst h0
    by_cases h1 : k = 1
    · subst h1
      have hE : allE f ⟨1, rc, rn, ⟨bc, bn, ic, ix, s, d, z⟩, n⟩ = 0 := by unfold allE; rw [if_neg hf, if_pos he]; simp
      have hF : allF f ⟨1, rc, rn, ⟨bc, bn, ic, ix, s, d, z⟩, n⟩ = [regWay f rc rn] := by unfold allF; rw [if_pos hE]; simp
      rw [hE, hF]
      exact rall_reg f rc rn bc bn ic ix s d z n hf' (hid he) w
    · by_cases h2 : k = 2
      · subst h2
        have hc : checkF ⟨bc, bn, ic, ix, s, d, z⟩ = 0 := by simpa [argF] using he
        have hE : allE f ⟨2, rc, rn, ⟨bc, bn, ic, ix, s, d, z⟩, n⟩ = 0 := by unfold allE; rw [if_neg hf, if_pos he]; simp
        have hF : allF f ⟨2, rc, rn, ⟨bc, bn, ic, ix, s, d, z⟩, n⟩ = waysF f (canonF ⟨bc, bn, ic, ix, s, d, z⟩) := by unfold allF; rw [if_pos hE]; simp
        rw [hE, hF]
        obtain ⟨hsh, _, _, _⟩ := canon_shape hc
        have ho : outF ⟨bc, bn, ic, ix, s, d, z⟩ = canonF ⟨bc, bn, ic, ix, s, d, z⟩ := by unfold outF; rw [if_pos hc]
        generalize canonF ⟨bc, bn, ic, ix, s, d, z⟩ = q at hsh ho ⊢
        obtain ⟨x0, x1, x2, x3, x4, x5, x6⟩ := q
        exact rall_mem f rc rn bc bn ic ix s d z n x0 x1 x2 x3 x4 x5 x6 hf' (hid he) (hid hc) (hid ho) (hid hsh) w
      · have hE : allE f ⟨k, rc, rn, ⟨bc, bn, ic, ix, s, d, z⟩, n⟩ = 2 := by unfold allE; rw [if_neg hf, if_pos he, if_neg (by simp [h1, h2])]
        have hF : allF f ⟨k, rc, rn, ⟨bc, bn, ic, ix, s, d, z⟩, n⟩ = [] := by unfold allF; rw [hE]; rfl
        rw [hE, hF]
        exact (rall_rest f k rc rn bc bn ic ix s d z n hf' h1 h2 (hid he) w).mono fun e w' ⟨h1, h2⟩ => ⟨_, h1, h2, LaysR.nil _ _⟩
  · have hE : allE f ⟨k, rc, rn, ⟨bc, bn, ic, ix, s, d, z⟩, n⟩ = e' := by unfold allE; rw [if_neg hf, if_neg (by rw [he]; exact h0), he]
    have hF : allF f ⟨k, rc, rn, ⟨bc, bn, ic, ix, s, d, z⟩, n⟩ = [] := by unfold allF; rw [hE, if_neg h0]
    rw [hE, hF]
    exact (rall_not f k rc rn bc bn ic ix s d z n e' hf' h0 (hid he) w).mono fun e w' ⟨h1, h2⟩ => ⟨_, h1, h2, LaysR.nil _ _⟩
end Go.Proofs.YtiiepdgpnnjpiaaDoor
end
