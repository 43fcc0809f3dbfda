/-
  Law 11: VexLays.
-/
import Derived.Test.YtllnjmpakkodnaaVxLaw
import Derived.Test.YtllnjmpakkodnaaVxRAll
namespace Go.Proofs.Ytllnjmpakkodnaa
open Go.RowKit
set_option maxRecDepth 100000

theorem row_cell {w : World} {base n : Nat} {t : TypeId} {v : Value} {xs : List Value} (h : w.ownsRow base t 1 v n xs) {j : Nat} {u : Value} (hj : xs[j]? = some u) : ∃ g c, v = .slice (some ⟨g, 0, none⟩) n c ∧ n ≤ c ∧ g < w.heap.size ∧ w.cell? ⟨g, j, none⟩ = some u := by
  have h0 := h
  rcases h.2 with ⟨rfl, hn⟩ | ⟨g, cap, cur, rfl, _, hg, h1, _, _⟩
  · have := h.1
    rw [hn, Nat.zero_mul] at this
    rw [List.length_eq_zero_iff.1 this] at hj
    simp at hj
  · refine ⟨g, cap, rfl, h1, (Array.getElem?_eq_some_iff.1 hg).1, ?_⟩
    have := h0.cells rfl j u hj
    have hadd : (⟨g, 0, none⟩ : Addr).add j = ⟨g, j, none⟩ := by unfold Addr.add; split <;> simp_all
    rw [hadd] at this
    exact this
/-- Two lists, of which the first ones of the program's own have been written over. -/
structure BothV (w : World) (n : Nat) (v1 v2 : Value) (Z1 Z2 : List Zr) (k : Nat) (wr : World) : Prop where
  bel : Below w.heap.size w wr
  r1 : wr.ownsRow w.heap.size 31 1 v1 n (Z1.map zv)
  h1 : ∀ (j : Nat) (z : Zr), k ≤ j → Z1[j]? = some z → ByB wr z.g 5 z.bs
  r2 : wr.ownsRow w.heap.size 31 1 v2 n (Z2.map zv)
  h2 : ∀ z ∈ Z2, ByB wr z.g 5 z.bs
/-- What does not turn. -/
structure FixV (w : World) (B n : Nat) (Z1 Z2 : List Zr) (L : List (List Int)) : Prop where
  y1 : Z1.map Zr.bs = L
  y2 : Z2.map Zr.bs = L
  b1 : ∀ z ∈ Z1, w.heap.size ≤ z.g ∧ z.g < B
  nd : (Z1.map Zr.g).Nodup
  b2 : ∀ z ∈ Z2, B ≤ z.g
  l1 : Z1.length = n
  l2 : Z2.length = n
  by_ : ∀ l ∈ L, isBytes l
section
variable {w wr w' : World} {B n k : Nat} {v1 v2 : Value} {Z1 Z2 : List Zr} {L : List (List Int)}
theorem BothV.drew (h : BothV w n v1 v2 Z1 Z2 k wr) : BothV w n v1 v2 Z1 Z2 k wr.drew := ⟨h.bel.drew, h.r1, h.h1, h.r2, h.h2⟩
theorem BothV.below (h : BothV w n v1 v2 Z1 Z2 k wr) (hb : Below wr.heap.size wr w') : BothV w n v1 v2 Z1 Z2 k w' :=
  ⟨h.bel.trans (hb.mono h.bel.size), owns_same h.r1 fun q _ _ _ _ hq => hb.block q (Array.getElem?_eq_some_iff.1 hq).1, fun j z hj hz => (h.h1 j z hj hz).below hb (h.h1 j z hj hz).lt, owns_same h.r2 fun q _ _ _ _ hq => hb.block q (Array.getElem?_eq_some_iff.1 hq).1, fun z hz => (h.h2 z hz).below hb (h.h2 z hz).lt⟩
theorem owns_kept {base m g : Nat} {v : Value} {xs : List Value} {zs : List Int} (h : wr.ownsRow base 31 1 v m xs) (hz : ByB wr g 5 zs) (hg : wr.grownBy w' (some g)) : w'.ownsRow base 31 1 v m xs := by
  refine ⟨h.1, ?_⟩
  rcases h.2 with h0 | ⟨q, cap, cur, e1, e2, e3, rest⟩
  · exact .inl h0
  · refine .inr ⟨q, cap, cur, e1, e2, (hg.block q (Array.getElem?_eq_some_iff.1 e3).1 ?_).trans e3, rest⟩
    intro e
    obtain rfl : q = g := by simpa using e
    have := e3.symm.trans hz
    simp at this
theorem BothV.over {z : Zr} (h : BothV w n v1 v2 Z1 Z2 k wr) (hf : FixV w B n Z1 Z2 L) (hz : Z1[k]? = some z) (hg : wr.grownBy w' (some z.g)) : BothV w n v1 v2 Z1 Z2 (k + 1) w' := by
  have hw := h.h1 k z (Nat.le_refl _) hz
  have hb := hf.b1 z (List.mem_of_getElem? hz)
  refine ⟨h.bel.grown hg h.bel.size (fun q hq => by simp at hq; omega), owns_kept h.r1 hw hg, fun j x hj hx => ?_, owns_kept h.r2 hw hg, fun x hx => ?_⟩
  · have hx1 := h.h1 j x (by omega) hx
    refine (hg.block _ hx1.lt ?_).trans hx1
    intro e
    have e' : x.g = z.g := by simpa using e
    have n1 : (Z1.map Zr.g)[j]? = some x.g := by rw [List.getElem?_map, hx]; rfl
    have n2 : (Z1.map Zr.g)[k]? = some z.g := by rw [List.getElem?_map, hz]; rfl
    obtain ⟨hj1, hj2⟩ := List.getElem?_eq_some_iff.1 n1
    obtain ⟨hk1, hk2⟩ := List.getElem?_eq_some_iff.1 n2
    exact List.pairwise_iff_getElem.1 hf.nd k j hk1 hj1 (by omega) (by rw [hj2, hk2, e'])
  · have hx1 := h.h2 x hx
    refine (hg.block _ hx1.lt ?_).trans hx1
    intro e
    have e' : x.g = z.g := by simpa using e
    have := hf.b2 x hx
    omega
theorem BothV.at_ {A1 A2 : Option Addr} {c1 c2 j : Nat} (h : BothV w n (.slice A1 n c1) (.slice A2 n c2) Z1 Z2 k wr) (hf : FixV w B n Z1 Z2 L) (hk : k ≤ j) (hj : j < n) :
    ∃ g1 g2 q1 q2 l, A1 = some ⟨g1, 0, none⟩ ∧ A2 = some ⟨g2, 0, none⟩ ∧ g1 < wr.heap.size ∧ g2 < wr.heap.size ∧ Z1[j]? = some ⟨q1, l⟩ ∧
      wr.cell? ⟨g1, j, none⟩ = some (.slice (some ⟨q1, 0, none⟩) l.length l.length) ∧ wr.cell? ⟨g2, j, none⟩ = some (.slice (some ⟨q2, 0, none⟩) l.length l.length) ∧
      ByB wr q1 5 l ∧ ByB wr q2 5 l ∧ isBytes l ∧ n ≤ c1 ∧ n ≤ c2 := by
  have k1 : j < Z1.length := by rw [hf.l1]; exact hj
  have k2 : j < Z2.length := by rw [hf.l2]; exact hj
  have z1 : Z1[j]? = some Z1[j] := List.getElem?_eq_getElem k1
  have z2 : Z2[j]? = some Z2[j] := List.getElem?_eq_getElem k2
  generalize Z1[j] = x1 at z1
  generalize Z2[j] = x2 at z2
  have a1 : L[j]? = some x1.bs := by rw [← hf.y1, List.getElem?_map, z1]; rfl
  have a2 : L[j]? = some x2.bs := by rw [← hf.y2, List.getElem?_map, z2]; rfl
  have hy : x1.bs = x2.bs := Option.some.inj (a1.symm.trans a2)
  obtain ⟨g1, d1, e1, hle1, hl1, hc1⟩ := row_cell h.r1 (j := j) (u := zv x1) (by rw [List.getElem?_map, z1]; rfl)
  obtain ⟨g2, d2, e2, hle2, hl2, hc2⟩ := row_cell h.r2 (j := j) (u := zv x2) (by rw [List.getElem?_map, z2]; rfl)
  simp only [Value.slice.injEq] at e1 e2
  obtain ⟨rfl, -, rfl⟩ := e1
  obtain ⟨rfl, -, rfl⟩ := e2
  have w1 := h.h1 j x1 hk z1
  have w2 := h.h2 x2 (List.mem_of_getElem? z2)
  have hb := hf.by_ _ (List.mem_of_getElem? a1)
  obtain ⟨q1, l⟩ := x1
  obtain ⟨q2, l'⟩ := x2
  simp only at hy
  subst hy
  exact ⟨g1, g2, q1, q2, l, rfl, rfl, hl1, hl2, z1, hc1, hc2, w1, w2, hb, hle1, hle2⟩
end
theorem ways_len (q : Vx) (any : Bool) : (waysF q any).length ≤ 3 := by
  unfold waysF
  split
  · rw [List.length_append, List.length_append]
    split <;> split <;> simp
  · simp
theorem ways_short {q : Vx} {any : Bool} {bs : List Int} (h : bs ∈ waysF q any) : 2 ≤ bs.length ∧ bs.length ≤ 3 := by
  unfold waysF at h
  split at h
  · rcases List.mem_append.1 h with h | h
    · rcases List.mem_append.1 h with h | h
      · split at h
        · simp at h; subst h; simp [twoB]
        · simp at h
      · simp at h; subst h; simp [threeB]
    · split at h
      · simp at h; subst h; simp [threeB]
      · simp at h
  · simp at h
theorem lists_lr {w : World} {base : Nat} {v : Value} {Z : List Zr} {L : List (List Int)} {k : Nat} (h : Lists w base v Z) (hZ : Z.map Zr.bs = L) (hk : L.length = k) (hb : ∀ l ∈ L, isBytes l) : ∃ A c, v = .slice A k c ∧ k ≤ c ∧ c ≤ 9223372036854775807 ∧ LR w A L := by
  have hZk : Z.length = k := by rw [← hk, ← hZ, List.length_map]
  obtain ⟨A, c, e, h1, h2, h3⟩ := h.read (fun z hz => hb _ (by rw [← hZ]; exact List.mem_map_of_mem hz))
  rw [hZk] at e h1
  rw [hZ] at h3
  exact ⟨A, c, e, h1, h2, h3⟩
set_option maxHeartbeats 2000000 in
theorem lays_law (r x b m n v l p : Int) (any : Bool) (w : World) :
    Calls Try.prog 3 #[.agg #[.int .i64 r, .int .i64 x, .int .i64 b, .int .i64 m, .int .i64 n, .int .i64 v, .int .i64 l, .int .i64 p], .bool any] w fun e w' => e = .returned (.bool true) ∧ Below w.heap.size w w' := by
  have HO := hid ((Own.nil w).alloc w.heap.size (VC r x b m n v l p) 23 rfl)
  obtain ⟨er, her⟩ : ∃ er, errF ⟨r, x, b, m, n, v, l, p⟩ = er := ⟨_, rfl⟩
  obtain ⟨L, hL⟩ : ∃ L, waysF ⟨r, x, b, m, n, v, l, p⟩ any = L := ⟨_, rfl⟩
  have HE := hid (And.intro her hL)
  obtain ⟨N, hN⟩ : ∃ N, L.length = N := ⟨_, rfl⟩
  have HN := hid hN
  have n3 : N ≤ 3 := by rw [← hN, ← hL]; exact ways_len _ _
  have n3i : (N : Int) ≤ 3 := by omega
  have HBY := hid (show ∀ y ∈ L, isBytes y from fun y hl => ways_bytes (by rw [hL]; exact hl))
  clear her hL hN
  go_enter Try.func3, Try.ntmps3
  go_wp2_with fail
  have H1 := vall_any r x b m n v l p any (w.alloc (.cells (VC r x b m n v l p) 23))
  unfold VAll at H1
  rw [HE.out.1, HE.out.2] at H1
  refine H1.mono ?_
  clear H1
  rintro e w1 ⟨v1, Z1, rfl, hb1, hl1, hz1⟩
  obtain ⟨A1, d1, rfl, hn1, hd1, hr1⟩ := lists_lr hl1 hz1 HN.out HBY.out
  have HO := hid (HO.out.call hb1)
  have hws : w.heap.size ≤ (w.alloc (.cells (VC r x b m n v l p) 23)).heap.size := by simp
  have HL1 := hid (And.intro (hl1.mono hws) (And.intro hz1 (And.intro hr1 (And.intro hn1 hd1))))
  have c0 := HO.out.c
  have z0 := HO.out.z
  clear hl1 hz1 hr1 hn1 hd1 hb1 hws
  go_wp2_with fail
  have H2 := rall_any r x b m n v l p any w1
  unfold RVAll at H2
  rw [HE.out.1, HE.out.2] at H2
  refine H2.mono ?_
  clear H2
  rintro e w2 ⟨v2, Z2, rfl, hb2, hl2, hz2⟩
  obtain ⟨A2, d2, rfl, hn2, hd2, hr2⟩ := lists_lr hl2 hz2 HN.out HBY.out
  have HF := hid (show FixV w w1.heap.size N Z1 Z2 L from ⟨HL1.out.2.1, hz2, fun z hz => ⟨(HL1.out.1.2.1 z hz).1, (HL1.out.1.2.1 z hz).2.lt⟩, HL1.out.1.2.2, fun z hz => (hl2.2.1 z hz).1, by rw [← HN.out, ← HL1.out.2.1, List.length_map], by rw [← HN.out, ← hz2, List.length_map], HBY.out⟩)
  have HO := hid (HO.out.call hb2)
  have HLR1 := hid (HL1.out.2.2.1.below hb2)
  have HLR2 := hid hr2
  have HB := hid (show BothV w N (.slice A1 N d1) (.slice A2 N d2) Z1 Z2 0 w2 from by
    have q1 := HL1.out.1.below hb2
    have q2 := hl2.mono (Nat.le_trans (Nat.le_refl _) (show w.heap.size ≤ w1.heap.size by have := HO.out.below.size; have := HL1.out.1; exact Nat.le_trans (Nat.le_of_lt z0) (Nat.le_refl _)))
    have e1 := HF.out.l1
    have e2 := HF.out.l2
    refine ⟨HO.out.below, ?_, fun j z _ hz => (q1.2.1 z (List.mem_of_getElem? hz)).2, ?_, fun z hz => (q2.2.1 z hz).2⟩
    · have := q1.1; rwa [e1] at this
    · have := q2.1; rwa [e2] at this)
  clear hl2 hz2 hr2 hn2 hd2 hb2 c0 z0
  have c0 := HO.out.c
  have z0 := HO.out.z
  go_wp2_with fail
  have hS := Old.of (Below.refl w2.heap.size w2)
  go_region_held3 (fun w' => Below w2.heap.size w2 w' ∧ ∀ b o, b < w2.heap.size → w'.cell? ⟨b, o, none⟩ = w2.cell? ⟨b, o, none⟩) (first | with_reducible assumption | exact old_drew ‹_› | exact old_drew (Old.of (Below.refl w2.heap.size w2)) | (with_reducible refine old_kept ?_ (by assumption); with_reducible assumption)) (first | (go_at_call 9; refine (check_of HE.out.1 _).mono ?_; rintro e w5 ⟨rfl, hbel⟩) | (go_at_call 10; refine (rcheck_of HE.out.1 _).mono ?_; rintro e w6 ⟨rfl, hbel⟩) | (go_at_call 11; refine (samelists_yes L N HN.out (by omega) _ _ _ _ _ (HLR1.out.below (And.left ‹Below w2.heap.size w2 _ ∧ _›)) (HLR2.out.below (And.left ‹Below w2.heap.size w2 _ ∧ _›))).mono ?_; rintro e w7 ⟨rfl, hbel⟩))
  have hk7 := (‹Below w2.heap.size w2 w7 ∧ _›).1
  have HB7 := hid (HB.out.below hk7)
  clear hk7 hS c0 z0 HO HLR1 HLR2 HL1 HB
  clear hbel
  go_wp2
  go_loopw [10, 11] (fun i _ wr => ∃ k : Nat, k ≤ N ∧ i = .int .i64 k ∧ BothV w N (.slice A1 N d1) (.slice A2 N d2) Z1 Z2 k wr) (fun i _ _ => N - (intOf i).toNat)
  case atStart => exact ⟨0, by omega, rfl, HB7.out⟩
  case round =>
    obtain ⟨k, hk, rfl, hbr⟩ := hrel
    have HR := hid hbr
    clear hbr
    by_cases hkn : k < N
    · obtain ⟨g1, g2, q1, q2, y, rfl, rfl, hg1, hg2, hz, x0, y0, hB1, hB2, hby, hc1, hc2⟩ := HR.out.at_ HF.out (Nat.le_refl k) hkn
      have HZ := hid hz
      have i0 : (0 : Int) ≤ (k : Int) := by omega
      have i1 : (k : Int) < (N : Int) := by omega
      have hy3 : y.length ≤ 9223372036854775807 := by
        have h3 : y ∈ L := by rw [← HF.out.y1]; exact List.mem_map.2 ⟨_, List.mem_of_getElem? hz, rfl⟩
        have h4 := HE.out.2
        rw [← h4] at h3
        have := ways_short h3
        omega
      have HOV := hid (overb_any q1 y.length y y.length rfl wr hB1 hy3)
      clear hz hB1 hB2 hby hy3
      go_wp2_with fail
      refine HOV.out.mono ?_
      rintro e w5 ⟨rfl, hg5⟩
      have HQ := hid (HR.out.over HF.out HZ.out hg5)
      clear HR HZ hg5 HOV x0 y0 hg1 hg2
      go_wp2
      obtain ⟨wo, rfl⟩ : ∃ wo : World, wo = wr := ⟨_, rfl⟩
      go_loopw [11] (fun j wj => ∃ t : Nat, k + 1 ≤ t ∧ t ≤ N ∧ j = .int .i64 t ∧ BothV w N (.slice (some ⟨g1, 0, none⟩) N d1) (.slice (some ⟨g2, 0, none⟩) N d2) Z1 Z2 (k + 1) wj) (fun j _ => N - (intOf j).toNat)
      case atStart => exact ⟨k + 1, by omega, by omega, by go_num, HQ.out⟩
      case round =>
        obtain ⟨t, hkt, ht, rfl, hbj⟩ := hrel
        clear HQ
        have HR := hid hbj
        clear hbj
        by_cases htn : t < N
        · obtain ⟨g1', g2', p1, p2, y', e1, e2, hg1, hg2, hz, x0, y0, hB1, hB2, hby, -, -⟩ := HR.out.at_ HF.out hkt htn
          simp only [Option.some.injEq, Addr.mk.injEq, and_true] at e1 e2
          subst e1 e2
          have HM1 := hid (hB1.mem hby hB1.lt)
          have HM2 := hid (hB2.mem hby hB2.lt)
          clear hz hB1 hB2 hby
          have j0 : (0 : Int) ≤ (t : Int) := by omega
          have j1 : (t : Int) < (N : Int) := by omega
          go_wp2
          go_region_held3 (fun w' => Below wr.heap.size wr w' ∧ ∀ b o, b < wr.heap.size → w'.cell? ⟨b, o, none⟩ = wr.cell? ⟨b, o, none⟩) (first | with_reducible assumption | exact old_drew (Old.of (Below.refl wr.heap.size wr)) | exact Old.of (Below.refl wr.heap.size wr)) ((go_at_call 13; refine (same_of _ _ _ _ _ _ y' y' _ ⟨_, HM1.out.below (And.left ‹Below wr.heap.size wr _ ∧ _›)⟩ ⟨_, HM2.out.below (And.left ‹Below wr.heap.size wr _ ∧ _›)⟩ rfl rfl).mono ?_; rintro e w5 ⟨rfl, rfl⟩))
          go_wp2
          go_roundw
          case rel => exact ⟨t + 1, by omega, by omega, by go_num, HR.out.drew⟩
          case measure => simp [intOf]; omega
        · go_wp2
          go_roundw
          case rel => exact ⟨k + 1, by omega, by go_num, HR.out⟩
          case measure => simp [intOf]; omega
    · have hk' : k = N := by omega
      subst hk'
      go_wp2_with fail
      refine (awake_any wr).mono ?_
      rintro e w5 ⟨rfl, hb5⟩
      have HB5 := hid (HR.out.bel.trans (hb5.mono HR.out.bel.size))
      clear hb5
      go_wp2
      go_ret
      exact ⟨rfl, HB5.out⟩
end Go.Proofs.Ytllnjmpakkodnaa
