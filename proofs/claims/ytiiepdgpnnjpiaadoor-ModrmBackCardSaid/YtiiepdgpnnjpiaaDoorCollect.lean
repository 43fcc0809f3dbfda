/-
  slices.Collect over the iterator of a place's ways; the program's All.
-/
import Derived.Test.YtiiepdgpnnjpiaaDoorWaysIt
import Derived.Test.YtiiepdgpnnjpiaaDoorArgs
import Derived.Outline
namespace Go.Proofs.YtiiepdgpnnjpiaaDoor
open Go.RowKit
attribute [local go_sem] Oper.semAt_some
set_option maxRecDepth 100000

/-- A way, and the block in which its bytes stand, with so much room. -/
structure Zb where
  g : Nat
  c : Nat
  y : Way
def ZV (z : Zb) : List Value := [.slice (some ⟨z.g, 0, none⟩) z.y.bs.length z.c, .int .i64 z.y.x, .int .i64 z.y.b]
def zcells (Z : List Zb) : List Value := Z.flatMap ZV
theorem zcells_length (Z : List Zb) : (zcells Z).length = Z.length * 3 := by
  induction Z with
  | nil => rfl
  | cons z Z ih =>
    have : zcells (z :: Z) = ZV z ++ zcells Z := rfl
    rw [this, List.length_append, ih]
    simp [ZV]; omega
/-- A block that holds a way's bytes, known whole. -/
def Whole (w : World) (z : Zb) : Prop := ∃ zs : List Int, ByB w z.g 5 zs ∧ zs.length = z.c ∧ zs.take z.y.bs.length = z.y.bs ∧ z.y.bs.length ≤ z.c ∧ z.c ≤ 9223372036854775807
/-- Ways in memory of the call's own, each in a block of its own. -/
def LaysP (w : World) (base : Nat) (v : Value) (L : List Way) : Prop :=
  ∃ Z : List Zb, Z.map Zb.y = L ∧ w.ownsRow base 34 3 v Z.length (zcells Z) ∧ (∀ z ∈ Z, base ≤ z.g ∧ Whole w z) ∧ (Z.map Zb.g).Nodup
theorem Whole.same {w w' : World} {z : Zb} (h : Whole w z) (he : w'.heap[z.g]? = w.heap[z.g]?) : Whole w' z := by
  obtain ⟨zs, h1, h2⟩ := h
  exact ⟨zs, he.trans h1, h2⟩
theorem Whole.lt {w : World} {z : Zb} (h : Whole w z) : z.g < w.heap.size := by obtain ⟨zs, h1, _⟩ := h; exact h1.lt
theorem infoLaid : (Tryd.prog.info? 34).map (fun i => (i.zero, i.size, i.bytes)) = some (some (.agg #[.slice none 0 0, .int .i64 0, .int .i64 0]), 3, 40) := by kernel_rfl
theorem LaysP.mono {w : World} {base base' : Nat} {v : Value} {L : List Way} (h : LaysP w base v L) (hb : base' ≤ base) : LaysP w base' v L := by
  obtain ⟨Z, h1, ⟨h2, h3⟩, h4, h5⟩ := h
  refine ⟨Z, h1, ⟨h2, ?_⟩, fun z hz => ⟨Nat.le_trans hb (h4 z hz).1, (h4 z hz).2⟩, h5⟩
  rcases h3 with h3 | ⟨g, cap, cur, e, hge, rest⟩
  · exact .inl h3
  · exact .inr ⟨g, cap, cur, e, by omega, rest⟩
/-- What is in cells stays. -/
def Cells (w w' : World) : Prop := ∀ (k : Nat) (cs : Array Value) (t : TypeId) (f : Nat × Nat), w.heap[k]? = some (Obj.cells cs t f) → w'.heap[k]? = w.heap[k]?
theorem Cells.below {w w' : World} (h : Below w.heap.size w w') : Cells w w' := fun k _ _ _ hk => h.block k (Array.getElem?_eq_some_iff.1 hk).1
theorem Cells.put {w : World} {q : Nat} {o : Obj} (h : w.heap[q]? = some o) (ho : o.isCells = false) (o' : Obj) : Cells w (w.putObj q o') := fun k cs t f hk => by
  refine World.putObj_heap_other (fun e => ?_)
  subst e
  rw [h] at hk
  cases hk
  cases ho
theorem Cells.row {w w' : World} (h : Cells w w') {base n size : Nat} {e : TypeId} {v : Value} {xs : List Value} (hr : w.ownsRow base e size v n xs) : w'.ownsRow base e size v n xs := by
  refine ⟨hr.1, ?_⟩
  rcases hr.2 with h0 | ⟨g, cap, cur, e1, e2, e3, rest⟩
  · exact .inl h0
  · exact .inr ⟨g, cap, cur, e1, e2, (h _ _ _ _ e3).trans e3, rest⟩
theorem Cells.whole {w w' : World} (h : Cells w w') {z : Zb} (hz : Whole w z) : Whole w' z := by
  obtain ⟨zs, h1, h2⟩ := hz
  exact ⟨zs, (h _ _ _ _ h1).trans h1, h2⟩
theorem LaysP.turn {w w' : World} {base : Nat} {v : Value} {L : List Way} (h : LaysP w base v L) (hk : Cells w w') : LaysP w' base v L := by
  obtain ⟨Z, h1, h2, h3, h4⟩ := h
  exact ⟨Z, h1, hk.row h2, fun z hz => ⟨(h3 z hz).1, hk.whole (h3 z hz).2⟩, h4⟩
theorem LaysP.turnB {w w' : World} {base : Nat} {v : Value} {L : List Way} (h : LaysP w base v L) (hk : ∀ (k : Nat) (cs : Array Value) (t : TypeId) (f : Nat × Nat), base ≤ k → w.heap[k]? = some (Obj.cells cs t f) → w'.heap[k]? = w.heap[k]?) : LaysP w' base v L := by
  obtain ⟨Z, h1, h2, h3, h4⟩ := h
  refine ⟨Z, h1, ⟨h2.1, ?_⟩, fun z hz => ⟨(h3 z hz).1, ?_⟩, h4⟩
  · rcases h2.2 with h0 | ⟨g, cap, cur, e1, e2, e3, rest⟩
    · exact .inl h0
    · exact .inr ⟨g, cap, cur, e1, e2, (hk _ _ _ _ e2 e3).trans e3, rest⟩
  · obtain ⟨zs, h5, h6⟩ := (h3 z hz).2
    exact ⟨zs, (hk _ _ _ _ (h3 z hz).1 h5).trans h5, h6⟩
theorem own_not_free {w : World} {base n q : Nat} {v : Value} {xs : List Value} (h : w.ownsRow base 34 3 v n xs) (hf : Free w q) : some q ≠ v.ownBlock := by
  intro e
  rcases h.2 with ⟨rfl, _⟩ | ⟨k, cap, cur, rfl, _, hk, _⟩
  · simp [Value.ownBlock] at e
  · simp [Value.ownBlock] at e
    subst e
    exact hf _ _ hk
/-- One way more. -/
theorem LaysP.more {w w' : World} {base : Nat} {v v' : Value} {Z : List Zb} {z : Zb} (h2 : w.ownsRow base 34 3 v Z.length (zcells Z)) (h3 : ∀ z ∈ Z, base ≤ z.g ∧ Whole w z) (h4 : (Z.map Zb.g).Nodup)
    (hz : Whole w z) (hb : base ≤ z.g) (hn : z.g ∉ Z.map Zb.g) (hg : w.grownBy w' v.ownBlock) (ho : w'.ownsRow base 34 3 v' (Z.length + 1) (zcells Z ++ ZV z)) : LaysP w' base v' ((Z.map Zb.y) ++ [z.y]) := by
  have hw : ∀ x, Whole w x → Whole w' x := by
    rintro x ⟨zs, hx, rest⟩
    exact ⟨zs, hx.grown h2 (by decide) hg, rest⟩
  refine ⟨Z ++ [z], by simp, ?_, fun x hx => ?_, ?_⟩
  · rw [List.length_append]
    have e : zcells (Z ++ [z]) = zcells Z ++ ZV z := by simp [zcells]
    rw [e]
    exact ho
  · rcases List.mem_append.1 hx with hx | hx
    · exact ⟨(h3 x hx).1, hw x (h3 x hx).2⟩
    · simp at hx; subst hx; exact ⟨hb, hw _ hz⟩
  · rw [List.map_append, List.nodup_append]
    refine ⟨h4, by simp, fun a ha b hb' => ?_⟩
    simp at hb'
    subst hb'
    exact fun e => hn (e ▸ ha)
theorem LaysP.nil (w : World) (base : Nat) : LaysP w base (.slice none 0 0) [] := ⟨[], rfl, World.ownsRow_nil _ _ _ _, (fun _ h => by cases h), List.nodup_nil⟩
theorem waysF_len (f : Int) (p : Pl) : (waysF f p).length ≤ 9 := by
  have h : ∀ H : List Hd, (H.flatMap fun h => (tailsF h.alone h.base p.d).map (wayF f h)).length ≤ 3 * H.length := by
    intro H
    induction H with
    | nil => simp
    | cons x H ih =>
      rw [List.flatMap_cons, List.length_append, List.length_map, List.length_cons]
      have := (tailsF_len x.alone x.base p.d).2
      omega
  have := h (headsF p)
  have := (headsF_len p).2
  unfold waysF
  omega
set_option maxHeartbeats 1000000 in
theorem appendSeq_any (bm bf : Nat) (f : Int) (p : Pl) (hf : 0 ≤ f ∧ f ≤ 7) (hp : Shape p) (hd : D32 p.d) (W : World)
    (hcap : W.cell? ⟨bf, 0, none⟩ = some (.int .i64 f) ∧ (W.cell? ⟨bm, 0, none⟩ = some (.int .i64 p.bc) ∧ W.cell? ⟨bm, 1, none⟩ = some (.int .i64 p.bn) ∧ W.cell? ⟨bm, 2, none⟩ = some (.int .i64 p.ic) ∧ W.cell? ⟨bm, 3, none⟩ = some (.int .i64 p.ix) ∧ W.cell? ⟨bm, 4, none⟩ = some (.int .i64 p.s) ∧ W.cell? ⟨bm, 5, none⟩ = some (.int .i64 p.d) ∧ W.cell? ⟨bm, 6, none⟩ = some (.int .i64 p.z)) ∧ Tz W) :
    Calls Tryd.prog 46 #[.slice none 0 0, .func (.func 47) #[] #[.pointer (some ⟨bm, 0, none⟩), .pointer (some ⟨bf, 0, none⟩)]] W fun e C => ∃ v, e = .returned v ∧ Below W.heap.size W C ∧ LaysP C W.heap.size v (waysF f p) := by
  refine (callsIn_wide (n := 9)).1 ?_
  refine callsIn_of_wp_marks Tryd.func46 rfl trivial ?_ rfl
  simp only [Tryd.ntmps46, List.size_toArray, List.length_cons, List.length_nil, Nat.reduceAdd, Nat.reduceSub, Array.replicate_succ, Array.replicate_zero, List.push_toArray, List.append_toArray, List.nil_append, List.cons_append]
  have HC := hid hcap
  clear hcap
  gi_wp2
  obtain ⟨w0, hw0⟩ : ∃ w0, W.alloc (.cells #[.slice none 0 0] 28) = w0 := ⟨_, rfl⟩
  have hb0 : Below W.heap.size W w0 := by rw [← hw0]; exact (Below.refl _ _).alloc (Nat.le_refl _) _
  have hs0 : w0.heap.size = W.heap.size + 1 := by rw [← hw0]; simp
  have ho0 : One W.heap.size (.slice none 0 0) 28 w0 := by rw [← hw0]; exact one_box W _ _ rfl
  rw [hw0]
  clear hw0
  refine over_any (gf := 47) (lb := #[.pointer (some ⟨bm, 0, none⟩), .pointer (some ⟨bf, 0, none⟩)]) rfl (enters_of Tryd.func47 (by kernel_rfl) rfl) (fun r hrp hra hrb hrt => ?_)
  obtain ⟨W1, hW1⟩ : ∃ W1, (w0.alloc (.deferred (some []))).alloc (ready r) = W1 := ⟨_, rfl⟩
  have hs1 : W1.heap.size = w0.heap.size + 2 := by rw [← hW1]; simp
  have hdf : W1.heap[w0.heap.size]? = some (.deferred (some [])) := by rw [← hW1]; exact (Below.heap_alloc _ _ _ (by simp)).trans (heap_alloc_new w0 _)
  have hrc : W1.heap[w0.heap.size + 1]? = some (ready r) := by
    rw [← hW1]
    have := heap_alloc_new (w0.alloc (.deferred (some []))) (ready r)
    rw [World.size_alloc] at this
    exact this
  have hbw : Below w0.heap.size w0 W1 := by rw [← hW1]; exact ((Below.refl _ _).alloc (Nat.le_refl _) _).alloc (by simp) _
  rw [hW1]
  clear hW1
  refine (ways_any 7 (w0.heap.size + 1) bm bf f p hf hp hd (fun k A => Below W.heap.size W A ∧ (∃ v, One W.heap.size v 28 A ∧ LaysP A (W.heap.size + 1) v ((waysF f p).take k)) ∧ A.heap[w0.heap.size]? = some (.deferred (some [])) ∧ A.heap[w0.heap.size + 1]? = some (ready r)) W1 ?hJ ?hJp ?hcap ?hY ?h0).mono ?post
  case hJ =>
    rintro k A C ⟨h1, ⟨v, h2, h3⟩, h4, h5⟩ hb
    exact ⟨h1.trans (hb.mono h1.size), ⟨v, h2.below hb, h3.turn (Cells.below hb)⟩, (hb.block _ (Array.getElem?_eq_some_iff.1 h4).1).trans h4, (hb.block _ (Array.getElem?_eq_some_iff.1 h5).1).trans h5⟩
  case hJp =>
    rintro k A q o o' hq ⟨h1, ⟨v, h2, h3⟩, h4, h5⟩ ho hc
    exact ⟨h1.trans (below_put _ _ _ _ (by omega)), ⟨v, h2.same (Cells.put ho hc o' _ _ _ _ h2), h3.turn (Cells.put ho hc o')⟩, (World.putObj_heap_other (by omega)).trans h4, (World.putObj_heap_other (by omega)).trans h5⟩
  case hcap =>
    rintro k A ⟨h1, _⟩
    obtain ⟨q0, ⟨q1, q2, q3, q4, q5, q6, q7⟩, q8⟩ := HC.out
    have lf := World.block_lt_of_cell? W _ q0
    have lm := World.block_lt_of_cell? W _ q1
    exact ⟨(h1.cell (p := ⟨bf, 0, none⟩) lf).trans q0, ⟨(h1.cell (p := ⟨bm, 0, none⟩) lm).trans q1, (h1.cell (p := ⟨bm, 1, none⟩) lm).trans q2, (h1.cell (p := ⟨bm, 2, none⟩) lm).trans q3, (h1.cell (p := ⟨bm, 3, none⟩) lm).trans q4, (h1.cell (p := ⟨bm, 4, none⟩) lm).trans q5, (h1.cell (p := ⟨bm, 5, none⟩) lm).trans q6, (h1.cell (p := ⟨bm, 6, none⟩) lm).trans q7⟩, q8.below h1⟩
  case h0 => exact ⟨hb0.trans (hbw.mono (by omega)), ⟨_, ho0.below hbw, LaysP.nil _ _⟩, hdf, hrc⟩
  case post =>
    rintro e C ⟨hv, h1, ⟨v, h2, h3⟩, h4, h5⟩
    refine ⟨hv, .inl ⟨h5, ?_⟩⟩
    rw [List.take_of_length_le (Nat.le_refl _)] at h3
    have k1 : Below W.heap.size W (C.putObj (w0.heap.size + 1) (.loop { r with state := .exhausted, pending := none })) := h1.trans (below_put _ _ _ _ (by omega))
    have k2 : One W.heap.size v 28 (C.putObj (w0.heap.size + 1) (.loop { r with state := .exhausted, pending := none })) := h2.same (Cells.put h5 rfl _ _ _ _ _ h2)
    have k3 := h3.turn (Cells.put h5 rfl (.loop { r with state := .exhausted, pending := none }))
    have k4 : (C.putObj (w0.heap.size + 1) (.loop { r with state := .exhausted, pending := none })).heap[w0.heap.size]? = some (.deferred (some [])) := (World.putObj_heap_other (by omega)).trans h4
    generalize C.putObj (w0.heap.size + 1) (.loop { r with state := .exhausted, pending := none }) = C2 at k1 k2 k3 k4 ⊢
    have hc := k2.cell
    have HK := hid (And.intro k1 (And.intro k3 k4))
    clear h1 h2 h3 h4 h5 k1 k2 k3 k4 hrp hra hrb hrt hv hs0 hs1 hdf hrc
    gi_wp2
    refine ⟨by simp, .inl ⟨_, _, rfl, run_takeDeferred HK.out.2.2, ?_⟩⟩
    refine ⟨_, results_tmp rfl _ _ _, _, rfl, HK.out.1.trans (below_put _ _ _ _ (by have := hb0.size; omega)), ?_⟩
    exact (HK.out.2.1.turn (Cells.put HK.out.2.2 rfl _)).mono (by omega)
  case hY =>
    rintro k y g zs c A0 A hy ⟨h1, ⟨v, h2, h3⟩, h4, h5⟩ hg hb hk hl ht hle
    have hA5 := (hb.block _ (Array.getElem?_eq_some_iff.1 h5).1).trans h5
    have hA4 := (hb.block _ (Array.getElem?_eq_some_iff.1 h4).1).trans h4
    have hA2 := h2.below hb
    have hA1 := h1.trans (hb.mono h1.size)
    obtain ⟨Z, hZ, hZr, hZw, hZn⟩ := h3
    have hgn : g ∉ Z.map Zb.g := by
      intro hm
      obtain ⟨z, hz, rfl⟩ := List.mem_map.1 hm
      have := (hZw z hz).2.lt
      omega
    have hgb : W.heap.size + 1 ≤ g := by have := h1.size; have := (Array.getElem?_eq_some_iff.1 h5).1; omega
    have hkl : k < (waysF f p).length := (List.getElem?_eq_some_iff.1 hy).1
    have hZl : Z.length = k := by
      have := congrArg List.length hZ
      rw [List.length_map, List.length_take] at this
      omega
    have h9 := waysF_len f p
    refine round_box (r := r) hA5 (by rw [hrp]; rfl) ?_
    simp only [hrp, hra, hrb, hrt]
    have hlA := (Array.getElem?_eq_some_iff.1 hA5).1
    have hBw : ByB A g 5 zs := hk
    obtain ⟨B, hB⟩ : ∃ B, (A.alloc (.cells #[.slice (some ⟨g, 0, none⟩) y.bs.length c, .int .i64 y.x, .int .i64 y.b] 34)).putObj (w0.heap.size + 1) (busy r) = B := ⟨_, rfl⟩
    have hCA : Cells A B := fun q cs t f hq => by
      rw [← hB]
      have hq' := (Below.heap_alloc A (.cells #[.slice (some ⟨g, 0, none⟩) y.bs.length c, .int .i64 y.x, .int .i64 y.b] 34) q (Array.getElem?_eq_some_iff.1 hq).1)
      exact (Cells.put (o := ready r) ((Below.heap_alloc _ _ _ hlA).trans hA5) rfl (busy r) q cs t f (hq'.trans hq)).trans hq'
    have hBs : B.heap.size = A.heap.size + 1 := by rw [← hB]; simp
    have hBl : B.heap[w0.heap.size + 1]? = some (busy r) := by rw [← hB]; exact World.putObj_heap_same (by rw [World.size_alloc]; omega)
    have hBd : B.heap[w0.heap.size]? = some (.deferred (some [])) := by rw [← hB]; exact (World.putObj_heap_other (by omega)).trans ((Below.heap_alloc _ _ _ (by omega)).trans hA4)
    have hBv : B.heap[A.heap.size]? = some (.cells #[.slice (some ⟨g, 0, none⟩) y.bs.length c, .int .i64 y.x, .int .i64 y.b] 34 (0, 0)) := by rw [← hB]; exact (World.putObj_heap_other (by omega)).trans (heap_alloc_new _ _)
    have hBo : ∀ q, q < A.heap.size → q ≠ w0.heap.size + 1 → B.heap[q]? = A.heap[q]? := fun q h1 h2 => by rw [← hB]; exact (World.putObj_heap_other h2).trans (Below.heap_alloc _ _ _ h1)
    have hBB : Below W.heap.size W B := by rw [← hB]; exact (hA1.alloc hA1.size _).trans (below_put _ _ _ _ (by omega))
    have hB2 := hA2.same (hCA _ _ _ _ hA2)
    have HR := hid (show B.ownsRow (W.heap.size + 1) 34 3 v Z.length (zcells Z) from hCA.row ((Cells.below hb).row hZr))
    have HW := hid (show (∀ z ∈ Z, W.heap.size + 1 ≤ z.g ∧ Whole B z) ∧ Whole B ⟨g, c, y⟩ from ⟨fun z hz => ⟨(hZw z hz).1, hCA.whole ((Cells.below hb).whole (hZw z hz).2)⟩, hCA.whole (z := ⟨g, c, y⟩) ⟨zs, hBw, hl, ht, hle⟩⟩)
    have HX := hid (And.intro hBs (And.intro hBl (And.intro hBd (And.intro hBo hBB))))
    have HZ := hid (And.intro hZ (And.intro hZn (And.intro hgn (And.intro hZl hy))))
    have HN := hid (And.intro hs0 hs1)
    have HA5 := hid (And.intro hA5 (And.intro hA4 hlA))
    have HSZ := hid (show W.heap.size + 1 ≤ A.heap.size by omega)
    clear hA1 hA2 hA4 hCA hBw hBs hBl hBd hBo hBB hZ hZr hZw hZn hgn hZl hy h1 h2 h4 h5 hb hk hl ht hle hs0 hs1 hdf hrc hbw hb0 ho0 hrp hra hrb hrt
    gi_wp2
    refine ⟨(Below.heap_alloc _ _ _ HA5.out.2.2).trans HA5.out.1, ?_⟩
    rw [hB]
    clear hB hA5 hlA
    have cV := fun q => cell_of_row B _ q _ _ (0, 0) hBv
    have cS := hB2.cell
    have fS := hB2.frozen
    have HB2 := hid hB2
    clear hBv hB2
    obtain ⟨i0, hi, hz0, hz1, hz2⟩ := info_parts infoLaid
    have HI := hid (And.intro hi (And.intro hz0 (And.intro hz1 hz2)))
    clear hi hz0 hz1 hz2
    gi_wp2_with (gi_at_builtin; refine wpListIn_append_own _ rfl _ _ 28 rfl (W.heap.size + 1) 34 i0 _ 3 40 Tryd.underlying28 HI.out.1 HI.out.2.1 HI.out.2.2.1 HI.out.2.2.2 rfl (by decide) v Z.length (zcells Z) rfl (HR.out.alloc _) ⟨B.heap.size, 0, none⟩ 1 1 [.slice (some ⟨g, 0, none⟩) y.bs.length c, .int .i64 y.x, .int .i64 y.b] rfl rfl ?_ ?_ ?_ ?_ ?_ ?_)
    · intro j u hu
      have hadd : (⟨B.heap.size, 0, none⟩ : Addr).add j = ⟨B.heap.size, j, none⟩ := by unfold Addr.add; split <;> simp_all
      rw [hadd, own_new]
      simpa using hu
    · intro u hu
      simp at hu
      rcases hu with rfl | rfl | rfl <;> rfl
    · have := HZ.out.2.2.2.1; simp [maxLen]; omega
    · have := HZ.out.2.2.2.1; omega
    · have := HX.out.1; have := HSZ.out; simp; omega
    intro v' w' ho hg _
    obtain ⟨g', cap', rfl⟩ := ownsRow_succ ho
    have hS1 : One W.heap.size v 28 (B.alloc (.cells #[.slice (some ⟨g, 0, none⟩) y.bs.length c, .int .i64 y.x, .int .i64 y.b] 34)) := HB2.out.alloc _
    have hS2 : One W.heap.size v 28 w' := hS1.same (hg.block _ hS1.lt (fun e => by have := (HR.out.lt _ e.symm).1; omega))
    have cS' := hS2.cell
    have fS' := hS2.frozen
    have HS2 := hid hS2
    have HG := hid (And.intro hg ho)
    clear hg ho hS1 hS2 cS fS
    gi_wp2
    have hBs := HX.out.1
    have hs0 := HN.out.1
    have hs1 := HN.out.2
    have hgs := HG.out.1.size
    have hsa := HSZ.out
    have hla := HA5.out.2.2
    simp only [World.size_alloc] at hgs
    have hq : ∀ q, q < B.heap.size → q ≠ W.heap.size → Free B q → (w'.setCell ⟨W.heap.size, 0, none⟩ (.slice (some ⟨g', 0, none⟩) (Z.length + 1) cap')).heap[q]? = B.heap[q]? := fun q h1 h2 h3 =>
      (Below.heap_setCell _ _ _ _ h2).trans ((HG.out.1.block q (by simp; omega) (own_not_free HR.out h3)).trans (Below.heap_alloc _ _ _ h1))
    have hl := hq _ (by omega) (by omega) (Free.of HX.out.2.1 (fun _ _ e => by cases e))
    have hd1 := hq _ (by omega) (by omega) (Free.of HX.out.2.2.1 (fun _ _ e => by cases e))
    have hbb : Below W.heap.size W (w'.setCell ⟨W.heap.size, 0, none⟩ (.slice (some ⟨g', 0, none⟩) (Z.length + 1) cap')) :=
      ((HX.out.2.2.2.2.alloc (by omega) _).grown HG.out.1 (by simp; omega) (fun q e => by have := (HR.out.lt _ e).1; omega)).setCell (p := ⟨W.heap.size, 0, none⟩) (Nat.le_refl _) _
    have hmore : LaysP w' (W.heap.size + 1) (.slice (some ⟨g', 0, none⟩) (Z.length + 1) cap') (Z.map Zb.y ++ [y]) :=
      LaysP.more (z := ⟨g, c, y⟩) (HR.out.alloc _) (fun z hz => ⟨(HW.out.1 z hz).1, (HW.out.1 z hz).2.same (Below.heap_alloc _ _ _ (HW.out.1 z hz).2.lt)⟩) HZ.out.2.1 (HW.out.2.same (Below.heap_alloc _ _ _ HW.out.2.lt)) hgb HZ.out.2.2.1 HG.out.1 HG.out.2
    have htk : (waysF f p).take (k + 1) = Z.map Zb.y ++ [y] := by rw [HZ.out.1, List.take_add_one, HZ.out.2.2.2.2]; rfl
    refine ⟨hl.trans HX.out.2.1, rfl, ⟨hbb.trans (below_put _ _ _ _ (by omega)), ⟨_, (HS2.out.set _).same (World.putObj_heap_other (by omega)), ?_⟩, (World.putObj_heap_other (by omega)).trans (hd1.trans HX.out.2.2.1), World.putObj_heap_same (by simp [World.setCell]; omega)⟩, ⟨by simp [World.setCell]; omega, fun q h1 h2 h3 => ?_⟩⟩
    · rw [htk]
      refine LaysP.turn (hmore.turnB (fun q cs t f h1 _ => Below.heap_setCell _ _ _ _ (show q ≠ W.heap.size by omega))) (Cells.put (hl.trans HX.out.2.1) rfl (ready r))
    · have hh := HX.out.2.2.2.1 q h2 (by omega)
      exact (World.putObj_heap_other (by omega)).trans ((hq q (by omega) (by omega) (h3.same hh)).trans hh)
end Go.Proofs.YtiiepdgpnnjpiaaDoor
