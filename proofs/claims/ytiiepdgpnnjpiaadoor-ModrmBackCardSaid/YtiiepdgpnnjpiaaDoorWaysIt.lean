/-
  The iterator over a place's ways: a range over the iterator of the displacements, for each head, whose body yields.
-/
import Derived.Test.YtiiepdgpnnjpiaaDoorTails
import Derived.Test.YtiiepdgpnnjpiaaDoorInRound
import Derived.Test.YtiiepdgpnnjpiaaDoorConcat
import Derived.Shelf.Abstract
import Derived.Outline
namespace Go.Proofs.YtiiepdgpnnjpiaaDoor
open Go.RowKit
attribute [local go_sem] Oper.semAt_some
set_option maxRecDepth 100000

theorem tailsOf_any (h0 h1 h2 h3 h4 h5 : Value) (d : Int) (w : World) :
    Calls Tryd.prog 49 #[.agg #[h0, h1, h2, h3, h4, h5], .int .i64 d] w fun e w' => e = .returned (.func (.func 70) #[] #[.pointer (some ⟨w.heap.size + 1, 0, none⟩), .pointer (some ⟨w.heap.size, 0, none⟩)]) ∧
      (w.alloc (.cells #[h0, h1, h2, h3, h4, h5] 82)).alloc (.cells #[.int .i64 d] 3) = w' := by
  have hmf : ∀ (fn : Fn) (first cap : Array Value) (w : World), (Instr.makeFunc fn first cap).run Tryd.prog w = .ok (.func fn first cap) w := fun _ _ _ _ => rfl
  go_enter Tryd.func49, Tryd.ntmps49
  go_wp2
  go_ret
  exact ⟨rfl, rfl⟩
theorem waysOf_any (f bc bn ic ix s d z : Int) (w : World) :
    Calls Tryd.prog 26 #[.int .i64 f, MV ⟨bc, bn, ic, ix, s, d, z⟩] w fun e w' => e = .returned (.func (.func 47) #[] #[.pointer (some ⟨w.heap.size + 1, 0, none⟩), .pointer (some ⟨w.heap.size, 0, none⟩)]) ∧
      (w.alloc (.cells #[.int .i64 f] 3)).alloc (.cells #[.int .i64 bc, .int .i64 bn, .int .i64 ic, .int .i64 ix, .int .i64 s, .int .i64 d, .int .i64 z] 25) = w' := by
  have hmf : ∀ (fn : Fn) (first cap : Array Value) (w : World), (Instr.makeFunc fn first cap).run Tryd.prog w = .ok (.func fn first cap) w := fun _ _ _ _ => rfl
  go_enter Tryd.func26, Tryd.ntmps26
  go_wp2
  go_ret
  exact ⟨rfl, rfl⟩

theorem Keeps.refl (B : Nat) (A : World) : Keeps B A A := ⟨Nat.le_refl _, fun _ _ _ _ => rfl⟩
theorem Keeps.trans {B : Nat} {A C D : World} (h : Keeps B A C) (k : Keeps B C D) : Keeps B A D := ⟨Nat.le_trans h.size k.size, fun i h1 h2 h3 => (k.block i h1 (Nat.lt_of_lt_of_le h2 h.size) (h3.same (h.block i h1 h2 h3))).trans (h.block i h1 h2 h3)⟩
theorem Keeps.of {B : Nat} {A C : World} (h : Below A.heap.size A C) : Keeps B A C := ⟨h.size, fun k _ hk _ => h.block k hk⟩
/-- What the heads are read as: the row's block, each head's SIB. -/
structure HRow (G : Nat) (Z : List Hz) (w : World) : Prop where
  row : ∃ cap cur, w.heap[G]? = some (.cells cur 82 (0, 0)) ∧ cur.size = cap * 6 ∧ Z.length ≤ cap ∧ cur.toList.take (Z.length * 6) = hcells Z
  sib : ∀ z ∈ Z, z.h.sib = [] ∨ ByB w z.g 5 z.h.sib
theorem heads_row {w : World} {base : Nat} {v : Value} {H : List Hd} (h : Heads w base v H) (hn : H ≠ []) : ∃ G c Z, v = .slice (some ⟨G, 0, none⟩) H.length c ∧ Z.map Hz.h = H ∧ base ≤ G ∧ HRow G Z w ∧ ∀ z ∈ Z, z.h.sib = [] ∨ base ≤ z.g := by
  obtain ⟨Z, h1, h2, h3⟩ := h
  rcases h2.2 with ⟨rfl, h0⟩ | ⟨g, cap, cur, rfl, hg, hgg, hc, _, hs, ht⟩
  · exact absurd (by rw [← h1]; simp [List.eq_nil_of_length_eq_zero (by simpa using h0)]) hn
  · exact ⟨g, cap, Z, by rw [← h1, List.length_map], h1, hg, ⟨⟨cap, cur, hgg, hs, hc, ht⟩, fun z hz => (h3 z hz).imp id And.right⟩, fun z hz => (h3 z hz).imp id And.left⟩
theorem hcells_at : ∀ (Z : List Hz) (k : Nat) (z : Hz) (j : Nat), Z[k]? = some z → j < 6 → (hcells Z)[k * 6 + j]? = (HV z.h z.g)[j]?
  | [], k, z, j, h, _ => by simp at h
  | y :: Z, 0, z, j, h, hj => by
    simp at h; subst h
    have : hcells (y :: Z) = (HV y.h y.g).toList ++ hcells Z := rfl
    rw [this, List.getElem?_append_left (by simp; omega)]
    simp
  | y :: Z, k + 1, z, j, h, hj => by
    have : hcells (y :: Z) = (HV y.h y.g).toList ++ hcells Z := rfl
    rw [this, List.getElem?_append_right (by simp; omega)]
    have := hcells_at Z k z j (by simpa using h) hj
    rw [← this]
    congr 1
    simp; omega
theorem HRow.cell {G : Nat} {Z : List Hz} {w : World} (h : HRow G Z w) {k : Nat} {z : Hz} (hk : Z[k]? = some z) {j : Nat} (hj : j < 6) : w.cell? ⟨G, k * 6 + j, none⟩ = (HV z.h z.g)[j]? := by
  obtain ⟨cap, cur, h1, h2, h3, h4⟩ := h.row
  have hlt : k < Z.length := (List.getElem?_eq_some_iff.1 hk).1
  rw [cell_of_row w G _ cur _ (0, 0) h1, ← hcells_at Z k z j hk hj, ← h4, List.getElem?_take, if_pos (by omega)]
  simp
theorem HRow.lt {G : Nat} {Z : List Hz} {w : World} (h : HRow G Z w) : G < w.heap.size := by
  obtain ⟨cap, cur, h1, _⟩ := h.row
  exact (Array.getElem?_eq_some_iff.1 h1).1
theorem HRow.kept {G B : Nat} {Z : List Hz} {w w' : World} (h : HRow G Z w) (hg : B ≤ G) (hs : ∀ z ∈ Z, z.h.sib = [] ∨ B ≤ z.g) (hk : Keeps B w w') : HRow G Z w' := by
  obtain ⟨cap, cur, h1, h2, h3, h4⟩ := h.row
  refine ⟨⟨cap, cur, (hk.block _ hg h.lt (Free.cells h1 (by decide))).trans h1, h2, h3, h4⟩, fun z hz => ?_⟩
  rcases h.sib z hz with h0 | h0
  · exact .inl h0
  · rcases hs z hz with h1 | h1
    · exact .inl h1
    · exact .inr ((hk.block _ h1 h0.lt (Free.cells h0 (by decide))).trans h0)
theorem three_boxes (w : World) (o1 o2 o3 : Obj) :
    (((w.alloc o1).alloc o2).alloc o3).heap.size = w.heap.size + 3 ∧ (((w.alloc o1).alloc o2).alloc o3).heap[w.heap.size]? = some o1 ∧ (((w.alloc o1).alloc o2).alloc o3).heap[w.heap.size + 1]? = some o2 ∧
      (((w.alloc o1).alloc o2).alloc o3).heap[w.heap.size + 1 + 1]? = some o3 ∧ Below w.heap.size w (((w.alloc o1).alloc o2).alloc o3) := by
  refine ⟨by simp, ?_, ?_, ?_, (((Below.refl _ _).alloc (Nat.le_refl _) _).alloc (by simp) _).alloc (by simp; omega) _⟩
  · exact (Below.heap_alloc _ _ _ (by simp; omega)).trans ((Below.heap_alloc _ _ _ (by simp)).trans (heap_alloc_new w _))
  · have := heap_alloc_new (w.alloc o1) o2
    rw [World.size_alloc] at this
    exact (Below.heap_alloc _ _ _ (by simp)).trans this
  · have := heap_alloc_new ((w.alloc o1).alloc o2) o3
    rw [World.size_alloc, World.size_alloc] at this
    exact this
theorem two_boxes (w : World) (o1 o2 : Obj) :
    ((w.alloc o1).alloc o2).drew.heap.size = w.heap.size + 2 ∧ ((w.alloc o1).alloc o2).drew.heap[w.heap.size]? = some o1 ∧ ((w.alloc o1).alloc o2).drew.heap[w.heap.size + 1]? = some o2 ∧ Below w.heap.size w ((w.alloc o1).alloc o2).drew := by
  refine ⟨by simp, ?_, ?_, (((Below.refl _ _).alloc (Nat.le_refl _) _).alloc (by simp) _).drew⟩
  · exact (Below.heap_alloc _ _ _ (by simp)).trans (heap_alloc_new w _)
  · have := heap_alloc_new (w.alloc o1) o2
    rw [World.size_alloc] at this
    exact this
theorem below_put (B : Nat) (A : World) (b : Nat) (o : Obj) (hb : B ≤ b) : Below B A (A.putObj b o) := ⟨rfl, rfl, rfl, by simp, fun k hk => World.putObj_heap_other (by omega)⟩
def waysOf (f d : Int) (h : Hd) : List Way := (tailsF h.alone h.base d).map (wayF f h)
/-- The ways behind the first k heads. -/
def wupto (f : Int) (p : Pl) (k : Nat) : List Way := ((headsF p).take k).flatMap (waysOf f p.d)
theorem wupto_all (f : Int) (p : Pl) {k : Nat} (h : (headsF p).length ≤ k) : wupto f p k = waysF f p := by
  unfold wupto waysF
  rw [List.take_of_length_le h]
  rfl
theorem wupto_next (f : Int) (p : Pl) {k : Nat} {h : Hd} (hk : (headsF p)[k]? = some h) : wupto f p (k + 1) = wupto f p k ++ waysOf f p.d h := by
  unfold wupto
  rw [List.take_add_one, hk]
  simp
theorem ways_at (f : Int) (p : Pl) {k j : Nat} {h : Hd} {t : Int × List Int} (hk : (headsF p)[k]? = some h) (hj : (tailsF h.alone h.base p.d)[j]? = some t) : (waysF f p)[(wupto f p k).length + j]? = some (wayF f h t) := by
  obtain ⟨hlt, rfl⟩ := List.getElem?_eq_some_iff.1 hk
  have e : waysF f p = wupto f p k ++ (waysOf f p.d (headsF p)[k] ++ ((headsF p).drop (k + 1)).flatMap (waysOf f p.d)) := by
    have h1 : headsF p = (headsF p).take k ++ ((headsF p)[k] :: (headsF p).drop (k + 1)) := by rw [← List.drop_eq_getElem_cons hlt, List.take_append_drop]
    show (headsF p).flatMap (waysOf f p.d) = _
    conv => lhs; rw [h1]
    rw [List.flatMap_append, List.flatMap_cons]
    rfl
  rw [e, List.getElem?_append_right (by omega), Nat.add_sub_cancel_left, List.getElem?_append_left]
  · unfold waysOf
    rw [List.getElem?_map, hj]
    rfl
  · unfold waysOf
    rw [List.length_map]
    exact (List.getElem?_eq_some_iff.1 hj).1
set_option maxHeartbeats 1000000 in
theorem ways_any (m l bm bf : Nat) (f : Int) (p : Pl) (hf : 0 ≤ f ∧ f ≤ 7) (hp : Shape p) (hd : D32 p.d) (J : Nat → World → Prop) (W : World)
    (hJ : ∀ k A C, J k A → Below A.heap.size A C → J k C) (hJp : ∀ k A q o o', W.heap.size ≤ q → J k A → A.heap[q]? = some o → o.isCells = false → J k (A.putObj q o'))
    (hcap : ∀ k A, J k A → A.cell? ⟨bf, 0, none⟩ = some (.int .i64 f) ∧ (A.cell? ⟨bm, 0, none⟩ = some (.int .i64 p.bc) ∧ A.cell? ⟨bm, 1, none⟩ = some (.int .i64 p.bn) ∧ A.cell? ⟨bm, 2, none⟩ = some (.int .i64 p.ic) ∧ A.cell? ⟨bm, 3, none⟩ = some (.int .i64 p.ix) ∧ A.cell? ⟨bm, 4, none⟩ = some (.int .i64 p.s) ∧ A.cell? ⟨bm, 5, none⟩ = some (.int .i64 p.d) ∧ A.cell? ⟨bm, 6, none⟩ = some (.int .i64 p.z)) ∧ Tz A)
    (hY : ∀ k y (g : Nat) (zs : List Int) (c : Nat) (A0 A : World), (waysF f p)[k]? = some y → J k A0 → A0.heap.size ≤ g → Below A0.heap.size A0 A → ByB A g 5 zs → zs.length = c → zs.take y.bs.length = y.bs → y.bs.length ≤ c ∧ c ≤ 9223372036854775807 → YieldAt Fence.wide m Tryd.prog l #[.agg #[.slice (some ⟨g, 0, none⟩) y.bs.length c, .int .i64 y.x, .int .i64 y.b]] A fun e C =>
      e = .returned (.bool true) ∧ J (k + 1) C ∧ Keeps W.heap.size A C)
    (h0 : J 0 W) :
    Calls Tryd.prog 47 #[.func (.yield l) #[] #[], .pointer (some ⟨bm, 0, none⟩), .pointer (some ⟨bf, 0, none⟩)] W fun e C => (∃ v, e = .returned v) ∧ J (waysF f p).length C := by
  refine (callsIn_wide (n := m + 3)).1 ?_
  refine callsIn_of_wp_marks Tryd.func47 rfl trivial ?_ rfl
  simp only [Tryd.ntmps47, List.size_toArray, List.length_cons, List.length_nil, Nat.reduceAdd, Nat.reduceSub, Array.replicate_succ, Array.replicate_zero, List.push_toArray, List.append_toArray, List.nil_append, List.cons_append]
  obtain ⟨hcf, ⟨hc0, hc1, hc2, hc3, hc4, hc5, hc6⟩, ht⟩ := hcap _ _ h0
  have lf : bf < W.heap.size := World.block_lt_of_cell? W _ hcf
  have lm : bm < W.heap.size := World.block_lt_of_cell? W _ hc0
  have HT := hid (ht.below ((Below.refl _ _).alloc (Nat.le_refl _) (.cells #[.func (.yield l) #[] #[]] 78)))
  have HJ := hid (hJ _ _ _ h0 ((Below.refl _ _).alloc (Nat.le_refl _) (.cells #[.func (.yield l) #[] #[]] 78)))
  have HY := hid (one_box W (.func (.yield l) #[] #[]) 78 rfl)
  clear h0 ht
  obtain ⟨bc, bn, ic, ix, s, d, z⟩ := p
  simp only at hc0 hc1 hc2 hc3 hc4 hc5 hc6
  gi_wp2_with (refine ⟨trivial, ?_⟩; gi_at_call 48; refine (callsIn_wide.2 (heads_any ⟨bc, bn, ic, ix, s, d, z⟩ hp _ HT.out)).mono ?_; rintro e w1 ⟨v, rfl, hb1, hh⟩; obtain ⟨G, c, Z, rfl, hZ, hG, hrow, hsib⟩ := heads_row hh (by intro e; have := (headsF_len ⟨bc, bn, ic, ix, s, d, z⟩).1; rw [e] at this; simp at this))
  -- LOOP
  obtain ⟨N, hN⟩ : ∃ N, (headsF ⟨bc, bn, ic, ix, s, d, z⟩).length = N := ⟨_, rfl⟩
  have hN3 := headsF_len ⟨bc, bn, ic, ix, s, d, z⟩
  have hZN : Z.length = N := by rw [← hN, ← hZ, List.length_map]
  rw [hN] at hN3 ⊢
  have hsz1 : W.heap.size + 1 ≤ w1.heap.size := by have := hb1.size; simpa using this
  have H0 := hid (show W.heap.size ≤ w1.heap.size ∧ J (wupto f ⟨bc, bn, ic, ix, s, d, z⟩ 0).length w1 ∧ One W.heap.size (.func (.yield l) #[] #[]) 78 w1 ∧ HRow G Z w1 ∧ (∀ D ∈ ([] : List Nat), W.heap.size ≤ D ∧ w1.heap[D]? = some (.deferred (some []))) ∧ ([] : List Nat).Nodup from
    ⟨by omega, by simpa [wupto] using hJ _ _ _ HJ.out hb1, HY.out.below hb1, hrow, (fun _ h => by cases h), List.nodup_nil⟩)
  have HS := hid (show W.heap.size ≤ G ∧ ∀ z ∈ Z, z.h.sib = [] ∨ W.heap.size ≤ z.g from ⟨by have h := hG; simp at h; omega, fun z hz => (hsib z hz).imp id fun h => by simp at h; omega⟩)
  clear HT HJ HY hb1 hh hG hrow hsib hcf hc0 hc1 hc2 hc3 hc4 hc5 hc6
  have HNN := hid hN
  have HZZ := hid hZ
  have HZN := hid hZN
  clear hN hZ hZN
  refine wpIn_loop (fun a wr => ∃ (k : Nat) (i : Value) (Ds : List Nat) (u4 u5 u6 u7 u12 u13 u14 u15 u16 u17 u18 u19 u20 u21 u22 u23 u24 u25 u26 u27 u28 u29 u30 u31 u32 u33 u34 u35 u36 u37 u38 u39 u40 u41 u42 : Value), a = { tmps := #[.func (.yield l) #[] #[], .pointer (some ⟨bm, 0, none⟩), .pointer (some ⟨bf, 0, none⟩), .pointer (some ⟨W.heap.size, 0, none⟩), u4, u5, u6, u7, MV ⟨bc, bn, ic, ix, s, d, z⟩, .slice (some ⟨G, 0, none⟩) N c, .int .i64 (N : Int), i, u12, u13, u14, u15, u16, u17, u18, u19, u20, u21, u22, u23, u24, u25, u26, u27, u28, u29, u30, u31, u32, u33, u34, u35, u36, u37, u38, u39, u40, u41, u42], defers := Ds.map mark } ∧ i = .int .i64 (k : Int) ∧ k ≤ N ∧ Hid (W.heap.size ≤ wr.heap.size ∧ J (wupto f ⟨bc, bn, ic, ix, s, d, z⟩ k).length wr ∧ One W.heap.size (.func (.yield l) #[] #[]) 78 wr ∧ HRow G Z wr ∧ (∀ D ∈ Ds, W.heap.size ≤ D ∧ wr.heap[D]? = some (.deferred (some []))) ∧ Ds.Nodup)) (fun a _ => 4 - (intOf (a.tmps.getD 11 undef)).toNat) ?start ?round
  case start => exact ⟨0, _, [], _, _, _, _, _, _, _, _, _, _, _, _, _, _, _, _, _, _, _, _, _, _, _, _, _, _, _, _, _, _, _, _, _, _, _, rfl, rfl, by omega, H0⟩
  case round =>
    rintro a wr ⟨k, i, Ds, u4, u5, u6, u7, u12, u13, u14, u15, u16, u17, u18, u19, u20, u21, u22, u23, u24, u25, u26, u27, u28, u29, u30, u31, u32, u33, u34, u35, u36, u37, u38, u39, u40, u41, u42, rfl, rfl, hk, H⟩
    clear H0 hsz1
    by_cases hlt : k < N
    · obtain ⟨hz, hj, hyb, hrow, hD, hnd⟩ := H.out
      obtain ⟨y, hy⟩ : ∃ y, Z[k]? = some y := ⟨_, List.getElem?_eq_getElem (by rw [HZN.out]; exact hlt)⟩
      obtain ⟨hcf, ⟨hc0, hc1, hc2, hc3, hc4, hc5, hc6⟩, ht⟩ := hcap _ _ hj
      have lf : bf < wr.heap.size := World.block_lt_of_cell? wr _ hcf
      have lm : bm < wr.heap.size := World.block_lt_of_cell? wr _ hc0
      have hym : y ∈ Z := List.mem_of_getElem? hy
      have hyok : HdOk y.h := headsF_ok _ _ (by rw [← HZZ.out]; exact List.mem_map_of_mem hym)
      obtain ⟨P, pn, pc, hPv, hPl, hPm⟩ : ∃ (P : Option Addr) (pn pc : Nat), (HV y.h y.g)[1]? = some (.slice P pn pc) ∧ y.h.sib.length = pn ∧ (y.h.sib = [] ∨ (P = some ⟨y.g, 0, none⟩ ∧ W.heap.size ≤ y.g ∧ ByB wr y.g 5 y.h.sib)) := by
        by_cases hs : y.h.sib = []
        · exact ⟨none, 0, 0, by simp [HV, hs], by simp [hs], .inl hs⟩
        · have hl1 : y.h.sib.length = 1 := by have := hyok.sib.2; have := List.length_pos_iff.2 hs; omega
          exact ⟨some ⟨y.g, 0, none⟩, 1, 1, by simp [HV, hs], hl1, .inr ⟨rfl, (HS.out.2 y hym).resolve_left hs, (hrow.sib y hym).resolve_left hs⟩⟩
      have q0 : wr.cell? ⟨G, k * 6, none⟩ = some (.int .i64 y.h.rm) := hrow.cell hy (j := 0) (by omega)
      have q1 : wr.cell? ⟨G, k * 6 + 1, none⟩ = some (.slice P pn pc) := (hrow.cell hy (j := 1) (by omega)).trans hPv
      have q2 : wr.cell? ⟨G, k * 6 + 2, none⟩ = some (.int .i64 y.h.x) := hrow.cell hy (j := 2) (by omega)
      have q3 : wr.cell? ⟨G, k * 6 + 3, none⟩ = some (.int .i64 y.h.b) := hrow.cell hy (j := 3) (by omega)
      have q4 : wr.cell? ⟨G, k * 6 + 4, none⟩ = some (.int .i64 y.h.base) := hrow.cell hy (j := 4) (by omega)
      have q5 : wr.cell? ⟨G, k * 6 + 5, none⟩ = some (.bool y.h.alone) := hrow.cell hy (j := 5) (by omega)
      have lG := hrow.lt
      have HX := hid (And.intro hPl hPm)
      have HT := hid ht
      have HYY := hid hy
      have HOK := hid hyok
      clear hPl hPm hPv ht hy hyok hym hz hj hyb hrow hD hnd
      gi_wp2_with (refine ⟨trivial, ?_⟩; gi_at_call 49; refine (callsIn_wide.2 (tailsOf_any _ _ _ _ _ _ _ _)).mono ?_; rintro e w2 ⟨rfl, rfl⟩)
      obtain ⟨w0, hw0⟩ : ∃ w0, ((wr.alloc (.cells #[.int .i64 y.h.rm, .slice P pn pc, .int .i64 y.h.x, .int .i64 y.h.b, .int .i64 y.h.base, .bool y.h.alone] 82)).alloc (.cells #[.int .i64 y.h.rm, .slice P pn pc, .int .i64 y.h.x, .int .i64 y.h.b, .int .i64 y.h.base, .bool y.h.alone] 82)).alloc (.cells #[.int .i64 d] 3) = w0 := ⟨_, rfl⟩
      obtain ⟨b0, e0, e1, e2, hb0⟩ := three_boxes wr (.cells #[.int .i64 y.h.rm, .slice P pn pc, .int .i64 y.h.x, .int .i64 y.h.b, .int .i64 y.h.base, .bool y.h.alone] 82) (.cells #[.int .i64 y.h.rm, .slice P pn pc, .int .i64 y.h.x, .int .i64 y.h.b, .int .i64 y.h.base, .bool y.h.alone] 82) (.cells #[.int .i64 d] 3)
      rw [hw0] at b0 e0 e1 e2 hb0 ⊢
      clear hw0 q0 q1 q2 q3 q4 q5
      have HE := hid (And.intro e0 (And.intro e1 e2))
      have HB0 := hid hb0
      have HSZ := hid b0
      clear e0 e1 e2 hb0 b0
      refine over_any (gf := 70) (lb := #[.pointer (some ⟨wr.heap.size + 1 + 1, 0, none⟩), .pointer (some ⟨wr.heap.size + 1, 0, none⟩)]) rfl (enters_of Tryd.func70 (by kernel_rfl) rfl) (fun r hrp hra hrb hrt => ?_)
      obtain ⟨W1, hW1⟩ : ∃ W1, (w0.alloc (.deferred (some []))).alloc (ready r) = W1 := ⟨_, rfl⟩
      have hs1 : W1.heap.size = w0.heap.size + 2 := by rw [← hW1]; simp
      have hdf : W1.heap[w0.heap.size]? = some (.deferred (some [])) := by rw [← hW1]; exact (Below.heap_alloc _ _ _ (by simp)).trans (heap_alloc_new w0 _)
      have hrc : W1.heap[w0.heap.size + 1]? = some (ready r) := by
        rw [← hW1]
        have := heap_alloc_new (w0.alloc (.deferred (some []))) (ready r)
        rw [World.size_alloc] at this
        exact this
      have hbw : Below w0.heap.size w0 W1 := by rw [← hW1]; exact ((Below.refl _ _).alloc (Nat.le_refl _) _).alloc (by simp) _
      rw [hW1]
      clear hW1
      have HW := hid (And.intro hs1 (And.intro hdf (And.intro hrc hbw)))
      clear hs1 hdf hrc hbw
      refine (tails_any (m + 1) (w0.heap.size + 1) (wr.heap.size + 1 + 1) (wr.heap.size + 1) y.h.alone y.h.base d hd (fun j A => J ((wupto f ⟨bc, bn, ic, ix, s, d, z⟩ k).length + j) A ∧ Keeps W.heap.size W1 A) W1 ?hJ ?hcap ?hY ?h0).mono ?post
      case hJ =>
        rintro j A C ⟨h1, h2⟩ hb
        have hs1 := HW.out.1
        have hsz := HSZ.out
        have hwz := H.out.1
        have hsA := h2.size
        exact ⟨hJ _ _ _ h1 hb, ⟨Nat.le_trans h2.size hb.size, fun q h3 h4 h5 => (hb.block q (by omega)).trans (h2.block q h3 h4 h5)⟩⟩
      case hcap =>
        rintro j A ⟨h1, h2⟩
        have hs1 := HW.out.1
        have hsz := HSZ.out
        have hwz := H.out.1
        have f1 := (HW.out.2.2.2.block (wr.heap.size + 1) (by omega)).trans HE.out.2.1
        have f2 := (HW.out.2.2.2.block (wr.heap.size + 1 + 1) (by omega)).trans HE.out.2.2
        have g1 := (h2.block (wr.heap.size + 1) (by omega) (by omega) (Free.cells f1 (by decide))).trans f1
        have g2 := (h2.block (wr.heap.size + 1 + 1) (by omega) (by omega) (Free.cells f2 (by decide))).trans f2
        exact ⟨cell_of_row A _ 0 _ _ (0, 0) g2, cell_of_row A _ 4 _ _ (0, 0) g1, cell_of_row A _ 5 _ _ (0, 0) g1⟩
      case h0 =>
        have hwz := H.out.1
        have hsz := HSZ.out
        exact ⟨hJ _ _ _ (hJ _ _ _ H.out.2.1 HB0.out) HW.out.2.2.2, Keeps.refl _ _⟩
      case post =>
        rintro e C ⟨hv, hj, hk⟩
        have hs1 := HW.out.1
        have hsz := HSZ.out
        have hwz := H.out.1
        have hkz := hk.size
        have hrecC : C.heap[w0.heap.size + 1]? = some (ready r) := (hk.block _ (by omega) (by omega) (Free.of HW.out.2.2.1 (fun _ _ e => by cases e))).trans HW.out.2.2.1
        refine ⟨hv, .inl ⟨hrecC, ?_⟩⟩
        have hkh : (headsF ⟨bc, bn, ic, ix, s, d, z⟩)[k]? = some y.h := by rw [← HZZ.out, List.getElem?_map, HYY.out]; rfl
        have hcnt : (wupto f ⟨bc, bn, ic, ix, s, d, z⟩ (k + 1)).length = (wupto f ⟨bc, bn, ic, ix, s, d, z⟩ k).length + (tailsF y.h.alone y.h.base d).length := by rw [wupto_next f _ hkh, List.length_append, waysOf, List.length_map]
        have hC : ∀ q, W.heap.size ≤ q → q < w0.heap.size + 1 → Free W1 q → (C.putObj (w0.heap.size + 1) (.loop { r with state := .exhausted, pending := none })).heap[q]? = W1.heap[q]? := fun q h1 h2 h3 => (World.putObj_heap_other (by omega)).trans (hk.block q h1 (by omega) h3)
        have hC0 : ∀ q, W.heap.size ≤ q → q < wr.heap.size → Free wr q → (C.putObj (w0.heap.size + 1) (.loop { r with state := .exhausted, pending := none })).heap[q]? = wr.heap[q]? := fun q h1 h2 h3 => (hC q h1 (by omega) (h3.same ((HW.out.2.2.2.block q (by omega)).trans (HB0.out.block q h2)))).trans ((HW.out.2.2.2.block q (by omega)).trans (HB0.out.block q h2))
        obtain ⟨hz0, hj0, hyb, hrow, hD, hnd⟩ := H.out
        have HF := hid (show W.heap.size ≤ (C.putObj (w0.heap.size + 1) (.loop { r with state := .exhausted, pending := none })).heap.size ∧ J (wupto f ⟨bc, bn, ic, ix, s, d, z⟩ (k + 1)).length (C.putObj (w0.heap.size + 1) (.loop { r with state := .exhausted, pending := none })) ∧ One W.heap.size (.func (.yield l) #[] #[]) 78 (C.putObj (w0.heap.size + 1) (.loop { r with state := .exhausted, pending := none })) ∧ HRow G Z (C.putObj (w0.heap.size + 1) (.loop { r with state := .exhausted, pending := none })) ∧ (∀ D ∈ w0.heap.size :: Ds, W.heap.size ≤ D ∧ (C.putObj (w0.heap.size + 1) (.loop { r with state := .exhausted, pending := none })).heap[D]? = some (.deferred (some []))) ∧ (w0.heap.size :: Ds).Nodup from by
          have hlD : ∀ D ∈ Ds, D < wr.heap.size := fun D hDm => (Array.getElem?_eq_some_iff.1 (hD D hDm).2).1
          refine ⟨by simp; omega, ?_, hyb.same (hC0 _ (Nat.le_refl _) hyb.lt (Free.cells hyb (by decide))), ?_, ?_, ?_⟩
          · rw [hcnt]; exact hJp _ _ _ _ _ (by omega) hj hrecC rfl
          · exact hrow.kept HS.out.1 HS.out.2 ⟨by simp; omega, fun q h1 h2 h3 => hC0 q h1 h2 h3⟩
          · intro D hDm
            rcases List.mem_cons.1 hDm with rfl | hDm
            · exact ⟨by omega, (hC _ (by omega) (by omega) (Free.of HW.out.2.1 (fun _ _ e => by cases e))).trans HW.out.2.1⟩
            · exact ⟨(hD D hDm).1, (hC0 D (hD D hDm).1 (hlD D hDm) (Free.of (hD D hDm).2 (fun _ _ e => by cases e))).trans (hD D hDm).2⟩
          · refine List.nodup_cons.2 ⟨fun hm => ?_, hnd⟩
            have := hlD _ hm
            omega)
        clear hC hC0 hz0 hj0 hyb hrow hD hnd hj hk hrecC hcnt hkh hs1 hsz hkz
        generalize C.putObj (w0.heap.size + 1) (.loop { r with state := .exhausted, pending := none }) = C2 at HF ⊢
        clear hrp hra hrb hrt
        gi_wp2
        refine ⟨⟨k + 1, _, w0.heap.size :: Ds, _, _, _, _, _, _, _, _, _, _, _, _, _, _, _, _, _, _, _, _, _, _, _, _, _, _, _, _, _, _, _, _, _, _, _, rfl, by go_num, by omega, HF⟩, ?_⟩
        simp [intOf]
        omega
      case hY =>
        rintro j t P' n' c' A ht ⟨hj', hkp⟩ hn hm
        obtain ⟨hs1, hdf, hrc, hbw⟩ := HW.out
        have hsz := HSZ.out
        have hWr := H.out.1
        have hkA := hkp.size
        have hrecA : A.heap[w0.heap.size + 1]? = some (ready r) := (hkp.block _ (by omega) (by omega) (Free.of hrc (fun _ _ e => by cases e))).trans hrc
        have hhd1 := (hbw.block wr.heap.size (by omega)).trans HE.out.1
        have hya1 := (hbw.block W.heap.size (by have := H.out.2.2.1.lt; omega)).trans ((HB0.out.block _ H.out.2.2.1.lt).trans H.out.2.2.1)
        have hhdA : A.heap[wr.heap.size]? = some (.cells #[.int .i64 y.h.rm, .slice P pn pc, .int .i64 y.h.x, .int .i64 y.h.b, .int .i64 y.h.base, .bool y.h.alone] 82 (0, 0)) :=
          (hkp.block _ (by omega) (by omega) (Free.cells hhd1 (by decide))).trans hhd1
        have hyA : One W.heap.size (.func (.yield l) #[] #[]) 78 A := (hkp.block _ (Nat.le_refl _) (by have := H.out.2.2.1.lt; omega) (Free.cells hya1 (by decide))).trans hya1
        refine round_box (r := r) hrecA (by rw [hrp]; rfl) ?_
        simp only [hrp, hra, hrb, hrt]
        have HA := hid (And.intro hrecA (And.intro hhdA hyA))
        have hlA : w0.heap.size + 1 < A.heap.size := by omega
        have HKP := hid hkp
        have HJA := hid hj'
        have HTT := hid ht
        have HMM := hid (And.intro hn hm)
        have hzA : W.heap.size < A.heap.size := by omega
        have hwA : wr.heap.size + 1 < w0.heap.size := by omega
        clear hrecA hhdA hyA hhd1 hya1 hs1 hdf hrc hbw hsz hWr hkA hkp hj' ht hn hm hrp hra hrb hrt
        gi_wp2
        refine ⟨(Below.heap_alloc _ _ _ hlA).trans HA.out.1, ?_⟩
        obtain ⟨B, hB⟩ : ∃ B, (A.alloc (.cells #[.int .i64 t.1, .slice P' n' c'] 87)).putObj (w0.heap.size + 1) (busy r) = B := ⟨_, rfl⟩
        have hBs : B.heap.size = A.heap.size + 1 := by rw [← hB]; simp
        have hBo : ∀ q, q < A.heap.size → q ≠ w0.heap.size + 1 → B.heap[q]? = A.heap[q]? := fun q h1 h2 => by rw [← hB]; exact (World.putObj_heap_other h2).trans (Below.heap_alloc _ _ _ h1)
        have hBt : B.heap[A.heap.size]? = some (.cells #[.int .i64 t.1, .slice P' n' c'] 87 (0, 0)) := by rw [← hB]; exact (World.putObj_heap_other (by omega)).trans (heap_alloc_new _ _)
        have hBl : B.heap[w0.heap.size + 1]? = some (busy r) := by rw [← hB]; exact World.putObj_heap_same (by rw [World.size_alloc]; omega)
        have hAB : J ((wupto f ⟨bc, bn, ic, ix, s, d, z⟩ k).length + j) B := by rw [← hB]; exact hJp _ _ _ _ _ (by have := H.out.1; omega) (hJ _ _ _ HJA.out ((Below.refl _ _).alloc (Nat.le_refl _) _)) ((Below.heap_alloc _ _ _ hlA).trans HA.out.1) rfl
        have hcl : ∀ q : Addr, q.block < A.heap.size → B.cell? q = A.cell? q := by
          intro q hq
          by_cases e : q.block = w0.heap.size + 1
          · have h1 := hBl; have h2 := HA.out.1
            rw [← e] at h1 h2
            simp [World.cell?, h1, h2]
          · exact World.cell?_of_block (hBo _ hq e)
        rw [hB]
        clear hB
        have hWl := H.out.1
        have hszl := HSZ.out
        have cT := fun q => cell_of_row B _ q _ _ (0, 0) hBt
        have cH := fun q => cell_of_row B _ q _ _ (0, 0) ((hBo wr.heap.size (by omega) (by omega)).trans HA.out.2.1)
        have cF : B.cell? ⟨bf, 0, none⟩ = some (.int .i64 f) := (World.cell?_of_block (a := ⟨bf, 0, none⟩) (hBo bf (by omega) (by omega))).trans (hcap _ _ HJA.out).1
        have cY : B.cell? ⟨W.heap.size, 0, none⟩ = some (.func (.yield l) #[] #[]) := (World.cell?_of_block (a := ⟨W.heap.size, 0, none⟩) (hBo W.heap.size (by omega) (by omega))).trans HA.out.2.2.cell
        have lY : W.heap.size < B.heap.size := by omega
        have HM2 := hid (show SlOk B A.heap.size ⟨P', n', c', t.2⟩ from ⟨HMM.out.1, HMM.out.2.keep hcl⟩)
        have HM1 := hid (show SlOk B A.heap.size ⟨P, pn, pc, y.h.sib⟩ from ⟨HX.out.1, by
          rcases HX.out.2 with h0 | ⟨rfl, h1, h2⟩
          · rw [h0]; exact Mem.nil _ _ _
          · have h3 : y.g < wr.heap.size := h2.lt
            have h5 : ByB W1 y.g 5 y.h.sib := (HW.out.2.2.2.block _ (by omega)).trans ((HB0.out.block _ h3).trans h2)
            have h4 : ByB B y.g 5 y.h.sib := (hBo y.g (by omega) (by omega)).trans ((HKP.out.block _ h1 (by have := HW.out.1; omega) (Free.cells h5 (by decide))).trans h5)
            exact (h4.mem HOK.out.sib.1 (by omega))⟩)
        have HAB := hid hAB
        clear hAB hcl
        have lT : A.heap.size < B.heap.size := by omega
        have lH : wr.heap.size < B.heap.size := by omega
        have lF : bf < B.heap.size := by omega
        have HTF := hid (show (0 ≤ t.1 ∧ t.1 ≤ 3) ∧ isBytes t.2 ∧ t.2.length ≤ 4 from by have q := tailsF_ok _ _ _ t (List.mem_of_getElem? HTT.out); exact ⟨⟨q.1, by omega⟩, q.2.2⟩)
        have HBO := hid (And.intro hBs (And.intro hBo hBl))
        have hS : Below B.heap.size B B.drew ∧ ∀ b o, b < B.heap.size → B.drew.cell? ⟨b, o, none⟩ = B.cell? ⟨b, o, none⟩ := old_drew (Old.of (Below.refl B.heap.size B))
        clear hBs hBo hBl hBt hszl
        gi_wp2_with fail
        refine region_in (S := fun w' => Below B.heap.size B w' ∧ ∀ b o, b < B.heap.size → w'.cell? ⟨b, o, none⟩ = B.cell? ⟨b, o, none⟩) (by kernel_rfl) (by kernel_rfl) hS (fun hHeld => ?_)
        refine wpAnyH_take (i := 0) (v := ?_) (show _ = some (Oper.mk _ _ _ _ _ _) from rfl) (by kernel_rfl) (by kernel_rfl) (by kernel_rfl) (fun _ _ _ h => h) (Or.inl ⟨by kernel_rfl, ?_⟩) (by assumption) ?_
        rotate_left
        · intro w hSw; (try dsimp only at hSw); go_simp; try with_reducible rfl
        simp only [Act.put, List.setIfInBounds_toArray, List.set_cons_zero, List.set_cons_succ]
        refine wpAnyH_take (i := 1) (v := ?_) (show _ = some (Oper.mk _ _ _ _ _ _) from rfl) (by kernel_rfl) (by kernel_rfl) (by kernel_rfl) (fun _ _ _ h => h) (Or.inl ⟨by kernel_rfl, ?_⟩) (by assumption) ?_
        rotate_left
        · intro w hSw; (try dsimp only at hSw); go_simp; try with_reducible rfl
        simp only [Act.put, List.setIfInBounds_toArray, List.set_cons_zero, List.set_cons_succ]
        refine wpAnyH_take (i := 2) (v := ?_) (show _ = some (Oper.mk _ _ _ _ _ _) from rfl) (by kernel_rfl) (by kernel_rfl) (by kernel_rfl) (fun _ _ _ h => h) (Or.inl ⟨by kernel_rfl, ?_⟩) (by assumption) ?_
        rotate_left
        · intro w hSw; (try dsimp only at hSw); go_simp; try with_reducible rfl
        simp only [Act.put, List.setIfInBounds_toArray, List.set_cons_zero, List.set_cons_succ]
        refine wpAnyH_take (i := 3) (v := ?_) (show _ = some (Oper.mk _ _ _ _ _ _) from rfl) (by kernel_rfl) (by kernel_rfl) (by kernel_rfl) (fun _ _ _ h => h) (Or.inl ⟨by kernel_rfl, ?_⟩) (by assumption) ?_
        rotate_left
        · intro w hSw; (try dsimp only at hSw); go_simp; try with_reducible rfl
        simp only [Act.put, List.setIfInBounds_toArray, List.set_cons_zero, List.set_cons_succ]
        refine wpAnyH_take (i := 4) (v := ?_) (show _ = some (Oper.mk _ _ _ _ _ _) from rfl) (by kernel_rfl) (by kernel_rfl) (by kernel_rfl) (fun _ _ _ h => h) (Or.inl ⟨by kernel_rfl, ?_⟩) (by assumption) ?_
        rotate_left
        · intro w hSw; (try dsimp only at hSw); go_simp; try with_reducible rfl
        simp only [Act.put, List.setIfInBounds_toArray, List.set_cons_zero, List.set_cons_succ]
        refine wpAnyH_take (i := 7) (v := ?_) (show _ = some (Oper.mk _ _ _ _ _ _) from rfl) (by kernel_rfl) (by kernel_rfl) (by kernel_rfl) (fun _ _ _ h => h) (Or.inl ⟨by kernel_rfl, ?_⟩) (by assumption) ?_
        rotate_left
        · intro w hSw; (try dsimp only at hSw); go_simp; try with_reducible rfl
        simp only [Act.put, List.setIfInBounds_toArray, List.set_cons_zero, List.set_cons_succ]
        refine wpAnyH_take (i := 8) (v := ?_) (show _ = some (Oper.mk _ _ _ _ _ _) from rfl) (by kernel_rfl) (by kernel_rfl) (by kernel_rfl) (fun _ _ _ h => h) (Or.inl ⟨by kernel_rfl, ?_⟩) (by assumption) ?_
        rotate_left
        · intro w hSw; (try dsimp only at hSw); go_simp; try with_reducible rfl
        simp only [Act.put, List.setIfInBounds_toArray, List.set_cons_zero, List.set_cons_succ]
        refine wpAnyH_take (i := 9) (v := ?_) (show _ = some (Oper.mk _ _ _ _ _ _) from rfl) (by kernel_rfl) (by kernel_rfl) (by kernel_rfl) (fun _ _ _ h => h) (Or.inl ⟨by kernel_rfl, ?_⟩) (by assumption) ?_
        rotate_left
        · intro w hSw; (try dsimp only at hSw); go_simp; try with_reducible rfl
        simp only [Act.put, List.setIfInBounds_toArray, List.set_cons_zero, List.set_cons_succ]
        refine wpAnyH_take (i := 10) (v := ?_) (show _ = some (Oper.mk _ _ _ _ _ _) from rfl) (by kernel_rfl) (by kernel_rfl) (by kernel_rfl) (fun _ _ _ h => h) (Or.inl ⟨by kernel_rfl, ?_⟩) (by assumption) ?_
        rotate_left
        · intro w hSw; (try dsimp only at hSw); go_simp; try with_reducible rfl
        simp only [Act.put, List.setIfInBounds_toArray, List.set_cons_zero, List.set_cons_succ]
        refine wpAnyH_ready (rs := [5]) (by kernel_rfl) (by simp) ?_
        refine AllReadyH.cons (show _ = some (Oper.mk _ _ _ _ _ _) from rfl) (fun K hK => ?_) AllReadyH.nil
        go_simp
        go_at_call 43; refine (join_any t.1 f y.h.rm HTF.out.1 hf HOK.out.rm _).mono ?_; rintro e w4 ⟨rfl, rfl⟩
        refine hK.out _ _ ?_ (fun hHeld => ?_)
        · try dsimp only
          assumption
        clear hK K
        refine wpAnyH_ready (rs := [6]) (by kernel_rfl) (by simp) ?_
        refine AllReadyH.cons (show _ = some (Oper.mk _ _ _ _ _ _) from rfl) (fun K hK => ?_) AllReadyH.nil
        go_simp
        refine hK.out _ _ ?_ (fun hHeld => ?_)
        · try dsimp only
          exact old_drew (old_alloc (Old.of (Below.refl B.heap.size B)) _)
        clear hK K
        refine wpAnyH_ready (rs := [11]) (by kernel_rfl) (by simp) ?_
        refine AllReadyH.cons (show _ = some (Oper.mk _ _ _ _ _ _) from rfl) (fun K hK => ?_) AllReadyH.nil
        go_simp
        refine hK.out _ _ ?_ (fun hHeld => ?_)
        · try dsimp only
          exact old_drew (old_alloc (old_alloc (Old.of (Below.refl B.heap.size B)) _) _)
        clear hK K
        obtain ⟨W4, hW4⟩ : ∃ W4, ((B.alloc (.cells #[.int .u8 (64 * t.1 + 8 * f + y.h.rm)] 5)).alloc (.cells #[.slice (some ⟨B.heap.size, 0, none⟩) 1 1, .slice P pn pc, .slice P' n' c'] 32)).drew = W4 := ⟨_, rfl⟩
        obtain ⟨s4, e4, f4, h4⟩ := two_boxes B (.cells #[.int .u8 (64 * t.1 + 8 * f + y.h.rm)] 5) (.cells #[.slice (some ⟨B.heap.size, 0, none⟩) 1 1, .slice P pn pc, .slice P' n' c'] 32)
        rw [hW4] at s4 e4 f4 h4 hHeld ⊢
        clear hW4 hS
        have hbB := HBO.out.1
        have M0 : SlOk W4 W4.heap.size ⟨some ⟨B.heap.size, 0, none⟩, 1, 1, [64 * t.1 + 8 * f + y.h.rm]⟩ := ⟨rfl, ByB.mem (show ByB W4 B.heap.size 5 [64 * t.1 + 8 * f + y.h.rm] from e4) (by intro z hz; simp at hz; have := HTF.out.1; have := HOK.out.rm; omega) (by omega)⟩
        have M1 : SlOk W4 W4.heap.size ⟨P, pn, pc, y.h.sib⟩ := ⟨HM1.out.1, (HM1.out.2.below (h4.mono (by omega))).mono (by omega)⟩
        have M2 : SlOk W4 W4.heap.size ⟨P', n', c', t.2⟩ := ⟨HM2.out.1, (HM2.out.2.below (h4.mono (by omega))).mono (by omega)⟩
        have k0 := cell_of_row W4 (B.heap.size + 1) 0 _ _ (0, 0) f4
        have k1 := cell_of_row W4 (B.heap.size + 1) 1 _ _ (0, 0) f4
        have k2 := cell_of_row W4 (B.heap.size + 1) 2 _ _ (0, 0) f4
        have hbnd : 1 ≤ 1 + pn + n' ∧ 1 + pn + n' ≤ 100 := by have h1 := HOK.out.sib.2; have h2 := HTF.out.2.2; have h3 := HM1.out.1; have h4 := HM2.out.1; simp only at h3 h4; omega
        have HC4 := hid (concat_any (B.heap.size + 1) ⟨some ⟨B.heap.size, 0, none⟩, 1, 1, [64 * t.1 + 8 * f + y.h.rm]⟩ ⟨P, pn, pc, y.h.sib⟩ ⟨P', n', c', t.2⟩ W4.heap.size W4 M0 M1 M2 k0 k1 k2 (Nat.le_refl _) (by omega) hbnd.1 hbnd.2)
        have H4 := hid (And.intro s4 h4)
        clear M0 M1 M2 k0 k1 k2 s4 e4 f4 h4 hbB
        refine wpAnyH_ready (rs := [12]) (by kernel_rfl) (by simp) ?_
        refine AllReadyH.cons (show _ = some (Oper.mk _ _ _ _ _ _) from rfl) (fun K hK => ?_) AllReadyH.nil
        go_simp
        go_at_call 50; refine HC4.out.mono ?_; rintro e w5 ⟨C, hC, rfl, hb5, hk5⟩; have HK5 := hid hk5; have HB5 := hid hb5; clear hk5
        refine hK.out _ _ ?_ (fun hHeld => ?_)
        · try dsimp only
          (refine old_kept ?_ hb5; assumption)
        clear hK K
        clear hb5
        refine wpAnyH_take (i := 13) (v := ?_) (show _ = some (Oper.mk _ _ _ _ _ _) from rfl) (by kernel_rfl) (by kernel_rfl) (by kernel_rfl) (fun _ _ _ h => h) (Or.inl ⟨by kernel_rfl, ?_⟩) (by assumption) ?_
        rotate_left
        · intro w hSw; (try dsimp only at hSw); go_simp; try with_reducible rfl
        simp only [Act.put, List.setIfInBounds_toArray, List.set_cons_zero, List.set_cons_succ]
        refine wpAnyH_done (by kernel_rfl) ?_ _
        simp only [onlyN]
        have hkh : (headsF ⟨bc, bn, ic, ix, s, d, z⟩)[k]? = some y.h := by rw [← HZZ.out, List.getElem?_map, HYY.out]; rfl
        have hat := ways_at f ⟨bc, bn, ic, ix, s, d, z⟩ hkh HTT.out
        have hl1 := HM1.out.1
        have hl2 := HM2.out.1
        simp only at hl1 hl2
        have hbl : (wayF f y.h t).bs.length = 1 + pn + n' := by simp [wayF, hl1, hl2]; omega
        have hjj := hJ _ _ _ HAB.out H4.out.2
        have hzl : ([64 * t.1 + 8 * f + y.h.rm] ++ y.h.sib ++ t.2 ++ List.replicate (C - (1 + pn + n')) (0 : Int)).length = C := by simp [hl1, hl2]; simp only at hC; omega
        have hzt : ([64 * t.1 + 8 * f + y.h.rm] ++ y.h.sib ++ t.2 ++ List.replicate (C - (1 + pn + n')) (0 : Int)).take (wayF f y.h t).bs.length = (wayF f y.h t).bs := by rw [show (wayF f y.h t).bs = [64 * t.1 + 8 * f + y.h.rm] ++ y.h.sib ++ t.2 by simp [wayF]]; exact List.take_left
        obtain ⟨fn, tmps, assign, body, hyy, hR⟩ := hY _ (wayF f y.h t) W4.heap.size _ C W4 w5 hat hjj (Nat.le_refl _) HB5.out HK5.out hzl hzt (by rw [hbl]; exact hC)
        rw [hbl] at hyy
        dsimp only [wayF] at hyy
        have HS5 := hid hHeld.1
        have HAT := hid hkh
        clear hzl hzt hjj hbl hl1 hl2 hat hkh
        gi_wp2
        refine hR.mono ?_
        rintro e C' ⟨rfl, hj6, hk6⟩
        clear hyy hR
        gi_wp2
        have hsz := HSZ.out
        have hs1 := HW.out.1
        have hsB := HBO.out.1
        have hs5 := HS5.out.size
        have hs6 := hk6.size
        have hsA := HKP.out.size
        have hwz := H.out.1
        have hq : ∀ q, W.heap.size ≤ q → q < B.heap.size → Free B q → C'.heap[q]? = B.heap[q]? := fun q h1 h2 h3 => (hk6.block q h1 (by omega) (h3.same (HS5.out.block q h2))).trans (HS5.out.block q h2)
        have hqb := hq _ (by omega) (by omega) (Free.of HBO.out.2.2 (fun _ _ e => by cases e))
        refine ⟨hqb.trans HBO.out.2.2, rfl, ⟨hJp _ _ _ _ _ (by omega) hj6 (hqb.trans HBO.out.2.2) rfl, ⟨by simp; omega, fun q h1 h2 h3 => ?_⟩⟩, ⟨by simp; omega, fun q h1 h2 h3 => ?_⟩⟩
        · by_cases e : q = w0.heap.size + 1
          · subst e
            exact (World.putObj_heap_same (by omega)).trans HW.out.2.2.1.symm
          · have hh := (HBO.out.2.1 q (by omega) e).trans (HKP.out.block q h1 h2 h3)
            exact (World.putObj_heap_other e).trans ((hq q h1 (by omega) (h3.same hh)).trans hh)
        · have hh := HBO.out.2.1 q h2 (by omega)
          exact (World.putObj_heap_other (by omega)).trans ((hq q (by omega) (by omega) (h3.same hh)).trans hh)
    · have hkN : k = N := by omega
      obtain ⟨hz, hj, hyb, hrow, hD, hnd⟩ := H.out
      have HJ := hid (show J (waysF f ⟨bc, bn, ic, ix, s, d, z⟩).length wr by rw [← wupto_all f _ (k := k) (by rw [HNN.out]; omega)]; exact hj)
      have HD := hid (And.intro hz (And.intro hD hnd))
      clear hkN hz hj hyb hrow hD hnd H
      gi_wp2
      exact leaves_marks W.heap.size (fun w' => J (waysF f ⟨bc, bn, ic, ix, s, d, z⟩).length w') (fun w' D h0 h1 h2 => hJp _ _ _ _ _ h0 h1 h2 rfl) (fun w' hw' => ⟨_, results_none rfl _ _ _, ⟨_, rfl⟩, hw'⟩) Ds wr HD.out.2.2 HD.out.2.1 HJ.out
end Go.Proofs.YtiiepdgpnnjpiaaDoor
