/-
  Blocks found again by search.
  Law 9: what ModrmBack asks of the ways, plainly.
-/
import Derived.Test.YtiiepdgpnnjpiaaDoorOwns
import Derived.Deep.RegionHeld3
import Derived.Deep.DeepCutAuto
import Derived.Test.YtiiepdgpnnjpiaaDoorBackFree
import Derived.Test.YtiiepdgpnnjpiaaDoorMrAt
import Derived.Test.YtiiepdgpnnjpiaaDoorPick
section
namespace Go.Proofs.YtiiepdgpnnjpiaaDoor
open Go.RowKit
set_option maxRecDepth 100000

def BlkAt (w : World) (b : Nat) (cs : Array Value) (t : TypeId) : Prop := w.heap[b]? = some (.cells cs t (0, 0))
theorem blk_new {w : World} {b : Nat} {cs : Array Value} {t : TypeId} (h : b = w.heap.size) : BlkAt (w.alloc (.cells cs t)) b cs t := by subst h; exact heap_alloc_new w _
theorem BlkAt.lt {w : World} {b : Nat} {cs : Array Value} {t : TypeId} (h : BlkAt w b cs t) : b < w.heap.size := (Array.getElem?_eq_some_iff.1 h).1
theorem blk_call {w w' : World} {b : Nat} {cs : Array Value} {t : TypeId} (h : BlkAt w b cs t) (hb : Below w.heap.size w w') : BlkAt w' b cs t := (hb.block b h.lt).trans h
theorem blk_alloc {w : World} {b : Nat} {cs : Array Value} {t : TypeId} (h : BlkAt w b cs t) (o : Obj) : BlkAt (w.alloc o) b cs t := blk_call h ((Below.refl _ _).alloc (Nat.le_refl _) o)
theorem blk_drew {w : World} {b : Nat} {cs : Array Value} {t : TypeId} (h : BlkAt w b cs t) : BlkAt w.drew b cs t := h
theorem blk_drewN {w : World} {b : Nat} {cs : Array Value} {t : TypeId} (h : BlkAt w b cs t) (n : Nat) : BlkAt (w.drewN n) b cs t := h
theorem blk_other {w : World} {b b' i : Nat} {cs : Array Value} {t : TypeId} {v : Value} (h : BlkAt w b cs t) (hne : b ≠ b') : BlkAt (w.setCell ⟨b', i, none⟩ v) b cs t := (Below.heap_setCell w ⟨b', i, none⟩ v b hne).trans h
theorem blk_set {w : World} {b : Nat} {cs : Array Value} {t : TypeId} (h : BlkAt w b cs t) (i : Nat) (v : Value) : BlkAt (w.setCell ⟨b, i, none⟩ v) b (cs.setIfInBounds i v) t := heap_setCell_same _ _ _ _ _ _ h
theorem BlkAt.c {w : World} {b : Nat} {cs : Array Value} {t : TypeId} (h : BlkAt w b cs t) : ∀ j, w.cell? ⟨b, j, none⟩ = cs[j]? := fun _ => cell_of_row _ _ _ _ _ _ h
theorem BlkAt.f {w : World} {b : Nat} {cs : Array Value} {t : TypeId} (h : BlkAt w b cs t) : ∀ j, w.frozen? ⟨b, j, none⟩ = false := fun _ => frozen_of_row _ _ _ _ _ h
theorem blk_ten {w : World} {b : Nat} {t : TypeId} {a0 a1 a2 a3 a4 a5 a6 a7 a8 a9 v0 v1 v2 v3 v4 v5 v6 v7 v8 v9 : Value} (h : BlkAt w b #[a0, a1, a2, a3, a4, a5, a6, a7, a8, a9] t) :
    BlkAt ((((((((((w.setCell ⟨b, 0, none⟩ v0).setCell ⟨b, 1, none⟩ v1).setCell ⟨b, 2, none⟩ v2).setCell ⟨b, 3, none⟩ v3).setCell ⟨b, 4, none⟩ v4).setCell ⟨b, 5, none⟩ v5).setCell ⟨b, 6, none⟩ v6).setCell ⟨b, 7, none⟩ v7).setCell ⟨b, 8, none⟩ v8).setCell ⟨b, 9, none⟩ v9) b #[v0, v1, v2, v3, v4, v5, v6, v7, v8, v9] t := by
  have h0 := blk_set h 0 v0
  have h1 := blk_set h0 1 v1
  have h2 := blk_set h1 2 v2
  have h3 := blk_set h2 3 v3
  have h4 := blk_set h3 4 v4
  have h5 := blk_set h4 5 v5
  have h6 := blk_set h5 6 v6
  have h7 := blk_set h6 7 v7
  have h8 := blk_set h7 8 v8
  have h9 := blk_set h8 9 v9
  simpa using h9
theorem bel_alloc {w w1 : World} (h : Below w.heap.size w w1) (o : Obj) : Below w.heap.size w (w1.alloc o) := h.alloc h.size o
theorem bel_drew {w w1 : World} (h : Below w.heap.size w w1) : Below w.heap.size w w1.drew := h.drew
theorem bel_call {w w1 w2 : World} (h : Below w.heap.size w w1) (hb : Below w1.heap.size w1 w2) : Below w.heap.size w w2 := h.trans (hb.mono h.size)
theorem bel_set {w w1 : World} (h : Below w.heap.size w w1) (p : Addr) (v : Value) (hp : w.heap.size ≤ p.block) : Below w.heap.size w (w1.setCell p v) := h.setCell hp v
end Go.Proofs.YtiiepdgpnnjpiaaDoor
end
section
namespace Go.Proofs.YtiiepdgpnnjpiaaDoor
open Go.RowKit

structure Facts (f r : Int) (mm : Pl) (L : List Way) : Prop where
  good : ∀ y ∈ L, Good f r mm y
  bits : ∀ y ∈ L, (y.x = 0 ∨ y.x = 1) ∧ (y.b = 0 ∨ y.b = 1)
  len : ∀ y ∈ L, 1 ≤ y.bs.length ∧ y.bs.length ≤ 6
  bytes : ∀ y ∈ L, isBytes y.bs
  nd : L.Nodup
  first : ∀ y0, L[0]? = some y0 → ∀ y ∈ L, y0.bs.length ≤ y.bs.length
  few : 1 ≤ L.length ∧ L.length ≤ 9
theorem way_len {f : Int} {h : Hd} {t : Int × List Int} (hh : HdOk h) (ht : t.2.length ≤ 4) : 1 ≤ (wayF f h t).bs.length ∧ (wayF f h t).bs.length ≤ 6 := by
  have := hh.sib.2
  simp only [wayF, List.length_cons, List.length_append]
  omega
theorem ways_pos (f : Int) (m : Pl) : 1 ≤ (waysF f m).length := by
  have h := headsF_len m
  cases hL : headsF m with
  | nil => rw [hL] at h; simp at h
  | cons x H =>
    have hx := tailsF_len x.alone x.base m.d
    unfold waysF
    rw [hL]
    simp only [List.flatMap_cons, List.length_append, List.length_map]
    omega
theorem ways_facts {f : Int} {m : Pl} (hf : 0 ≤ f ∧ f ≤ 7) (hm : Shape m) (hd : D32 m.d) : Facts f (-1) { m with z := 0 } (waysF f m) := by
  have hmem : ∀ y ∈ waysF f m, ∃ h ∈ headsF m, ∃ t ∈ tailsF h.alone h.base m.d, wayF f h t = y := by
    intro y hy
    simp only [waysF, List.mem_flatMap, List.mem_map] at hy
    exact hy
  refine ⟨ways_good hf hm hd, fun y hy => ?_, fun y hy => ?_, fun y hy => ?_, ways_nodup hf, fun y0 h0 y hy => ?_, ways_pos f m, waysF_len f m⟩
  · obtain ⟨h, hh, t, _, rfl⟩ := hmem y hy
    have := headsF_ok m h hh
    have h1 := this.x
    have h2 := this.b
    simp only [wayF]
    omega
  · obtain ⟨h, hh, t, ht, rfl⟩ := hmem y hy
    exact way_len (headsF_ok m h hh) (tailsF_ok _ _ _ t ht).2.2.2
  · obtain ⟨h, hh, t, ht, rfl⟩ := hmem y hy
    exact wayF_bytes hf (headsF_ok m h hh) (tailsF_ok _ _ _ t ht)
  · cases hL : waysF f m with
    | nil => rw [hL] at h0; simp at h0
    | cons x M =>
      rw [hL] at h0
      simp at h0
      subst h0
      exact ways_first hf hL y hy
theorem reg_facts {f rc rn : Int} (hf : 0 ≤ f ∧ f ≤ 7) (hv : validF rc rn = true) : Facts f rn zeroM [regWay f rc rn] := by
  have hl := low_range rc rn
  have hh := high_range rc rn
  refine ⟨fun y hy => ?_, fun y hy => ?_, fun y hy => ?_, fun y hy => ?_, by simp, fun y0 h0 y hy => ?_, by simp⟩
  · simp at hy; subst hy; exact reg_good hf hv
  · simp at hy; subst hy; simp only [regWay]; exact ⟨by simp, by omega⟩
  · simp at hy; subst hy; simp [regWay]
  · simp at hy; subst hy
    intro z hz
    simp [regWay] at hz
    omega
  · simp at h0 hy; subst h0 hy; exact Nat.le_refl _
theorem Facts.read {f r : Int} {mm : Pl} {L : List Way} (h : Facts f r mm L) {y : Way} (hy : y ∈ L) (ah be : List Int) :
    readA (ah ++ y.bs ++ be) (ah.length : Nat) y.x y.b = (0, (⟨f, r, mm, y.bs.length⟩ : Sn), ((ah.length : Nat) : Int) + (y.bs.length : Nat)) := by
  have hg := (h.good y hy).1
  have hb := h.bits y hy
  have hl := h.len y hy
  have e : ((ah ++ y.bs ++ be).drop ((ah.length : Int)).toNat).take 15 = y.bs ++ be.take (15 - y.bs.length) := by
    rw [Int.toNat_natCast, List.append_assoc, List.drop_left, List.take_append, List.take_of_length_le (by omega)]
  unfold readA
  rw [if_neg (by simp; omega), e, hg]
  rfl
theorem Facts.cut {f r : Int} {mm : Pl} {L : List Way} (h : Facts f r mm L) {y : Way} (hy : y ∈ L) {k : Nat} (hk : k < y.bs.length) : readA (y.bs.take k) 0 y.x y.b = (9, zeroS, 0) := by
  have hg := (h.good y hy).2 k hk
  have hb := h.bits y hy
  have hl := h.len y hy
  have e : ((y.bs.take k).drop ((0 : Int)).toNat).take 15 = y.bs.take k := by
    rw [Int.toNat_zero, List.drop_zero, List.take_of_length_le (by rw [List.length_take]; omega)]
  unfold readA
  rw [if_neg (by omega), e, hg]
  rfl
theorem Facts.free {f r : Int} {mm : Pl} {L : List Way} (h : Facts f r mm L) {i k : Nat} {y z : Way} (hi : L[i]? = some y) (hk : L[k]? = some z) (hne : k ≠ i) (hx : y.x = z.x) (hb : y.b = z.b) : decide (y.bs = z.bs.take y.bs.length) = false := by
  refine decide_eq_false fun e => ?_
  have hyz := good_free (h.good y (List.mem_of_getElem? hi)) (h.good z (List.mem_of_getElem? hk)) hx hb e.symm
  subst hyz
  obtain ⟨i1, i2⟩ := List.getElem?_eq_some_iff.1 hi
  obtain ⟨k1, k2⟩ := List.getElem?_eq_some_iff.1 hk
  rcases Nat.lt_or_gt_of_ne hne with h1 | h1
  · exact List.pairwise_iff_getElem.1 h.nd k i k1 i1 h1 (by rw [k2, i2])
  · exact List.pairwise_iff_getElem.1 h.nd i k i1 k1 h1 (by rw [k2, i2])
/-- What All told, and what Canon tells. -/
theorem all_facts {f k rc rn : Int} {p : Pl} {n : Int} (hE : allE f ⟨k, rc, rn, p, n⟩ = 0) :
    argF ⟨k, rc, rn, p, n⟩ = 0 ∧ (0 ≤ f ∧ f ≤ 7) ∧ ((k = 1 ∧ aoutF ⟨k, rc, rn, p, n⟩ = ⟨1, rc, rn, ⟨0, 0, 0, 0, 0, 0, 0⟩, 0⟩ ∧ Facts f rn zeroM (allF f ⟨k, rc, rn, p, n⟩)) ∨
      (k = 2 ∧ aoutF ⟨k, rc, rn, p, n⟩ = ⟨2, 0, 0, canonF p, 0⟩ ∧ Facts f (-1) { canonF p with z := 0 } (allF f ⟨k, rc, rn, p, n⟩))) := by
  have hA : allF f ⟨k, rc, rn, p, n⟩ = (if k = 1 then [regWay f rc rn] else waysF f (canonF p)) := by unfold allF; rw [if_pos hE]
  rw [hA]
  unfold allE at hE
  split at hE
  · exact absurd hE (by decide)
  rename_i hf
  have hf' : 0 ≤ f ∧ f ≤ 7 := by omega
  split at hE
  · rename_i h0
    split at hE
    · rename_i hk
      refine ⟨h0, hf', ?_⟩
      simp only at hk
      rcases hk with rfl | rfl
      · refine .inl ⟨rfl, by unfold aoutF; rw [if_pos h0]; simp, ?_⟩
        rw [if_pos rfl]
        refine reg_facts hf' ?_
        simp only [argF, if_true] at h0
        split at h0
        · rename_i hv; exact hv.1
        · exact absurd h0 (by decide)
      · have hc : checkF p = 0 := by simpa [argF] using h0
        obtain ⟨h1, h2, _⟩ := canon_shape hc
        refine .inr ⟨rfl, by unfold aoutF; rw [if_pos h0]; simp [outF, hc], ?_⟩
        rw [if_neg (by decide)]
        exact ways_facts hf' h1 h2
    · exact absurd hE (by decide)
  · rename_i h0
    exact absurd hE h0
/-! ### bytes by append in a region that draws -/
set_option maxRecDepth 100000
theorem run_append_row {w : World} (base : Nat) (v : Value) (n : Nat) (xs : List Int) (hown : OwnB w base v n xs) (A : Option Addr) (m c B : Nat) (ys : List Int) (hm : ys.length = m) (hy : Mem w B A ys) (hb : n + m ≤ 100000000000) (hbase : base ≤ w.heap.size) (ty : TypeId) :
    ∃ v' w', (Builtin.append_ #[32, 32] ty #[v, .slice A m c]).run Tryd.prog w = .ok v' w' ∧ OwnB w' base v' (n + m) (xs ++ ys) ∧ w.grownBy w' v.ownBlock := by
  subst hm
  obtain ⟨i0, hi, hz0, hz1, hz2⟩ := info_parts infoByte
  obtain ⟨_, hy⟩ := hy
  rcases A with _ | ad
  · have : ys = [] := by
      rcases hy with h0 | ⟨_, _, h0, _⟩
      · exact h0
      · cases h0
    subst this
    refine ⟨v, w, ?_, by simpa using hown, World.grownBy.refl w _⟩
    rcases hown.2 with ⟨rfl, rfl⟩ | ⟨g, cap, cur, rfl, _, _, hnc, _⟩
    · simp [Builtin.append_, run_underlying Tryd.underlying32, sizeOf, typeInfo, hi, Builtin.lenOf, Builtin.firstCells]
    · simp [Builtin.append_, run_underlying Tryd.underlying32, sizeOf, typeInfo, hi, Builtin.lenOf, Builtin.firstCells, hnc, storeCells]
  · obtain ⟨v', w', h1, h2, h3, _⟩ := run_append_own (P := Tryd.prog) w base 32 ty 5 i0 (.int .u8 0) 1 1 Tryd.underlying32 hi hz0 hz1 hz2 rfl (by decide) v n _ hown ad ys.length c (ys.map (Value.int .u8)) (by simp) (by
      intro j u hu
      rcases hy with rfl | ⟨b, off, h0, _, hc⟩
      · simp at hu
      · injection h0 with h0
        subst h0
        have hadd : (⟨b, off, none⟩ : Addr).add j = ⟨b, off + j, none⟩ := by unfold Addr.add; split <;> simp_all
        rw [hadd]
        rw [List.getElem?_map] at hu
        rcases Nat.lt_or_ge j ys.length with hl | hl
        · rw [hc j hl, ← hu]; simp [hl]
        · rw [List.getElem?_eq_none hl] at hu; cases hu) (fun v hv => by obtain ⟨z, _, rfl⟩ := List.mem_map.1 hv; rfl) (by unfold maxLen; omega) (by omega) hbase
    exact ⟨v', w', h1, by unfold OwnB; rw [List.map_append]; exact h2, h3⟩
theorem step_append_row {w : World} {ops : Array Oper} {o : Oper} {a : Act} {K : Act → World → Prop} {Q : Exit → Act → World → Prop} {E : Prop} (hgd : o.guard = none) (s x : Operand)
    (ho : o.op = .call { callee := .builtin .append, args := #[s, x], argTypes := #[32, 32] })
    (base : Nat) (v : Value) (n : Nat) (xs : List Int) (hs : a.eval s = v) (hown : OwnB w base v n xs) (A : Option Addr) (m c B : Nat) (ys : List Int) (hx : a.eval x = .slice A m c) (hm : ys.length = m) (hy : Mem w B A ys) (hb : n + m ≤ 100000000000) (hbase : base ≤ w.heap.size)
    (h : ∀ v' w', Hid (OwnB w' base v' (n + m) (xs ++ ys)) → Hid (w.grownBy w' v.ownBlock) → K (a.put o.dst v') w') :
    if Region.wanted o (yielded ops a.tmps) = true then Oper.wp Tryd.prog o a w K Q else E := by
  have hw : Region.wanted o (yielded ops a.tmps) = true := by simp [Region.wanted, hgd]
  rw [if_pos hw]
  obtain ⟨v', w', hrun, h1, h2⟩ := run_append_row base v n xs hown A m c B ys hm hy hb hbase o.type
  unfold Oper.wp execOp
  simp only [ho, resolve, invoke, builtin, Sem.run_bind, Sem.run_pure, Result.andThen_ok, List.map_toArray, List.map_cons, List.map_nil, hs, hx, hrun]
  exact h v' w' h1 h2
theorem ob_below {w w' : World} {base n : Nat} {v : Value} {xs : List Int} (h : OwnB w base v n xs) (hg : w.grownBy w' v.ownBlock) (hb : base ≤ w.heap.size) : Below base w w' := by
  refine (Below.refl _ _).grown hg hb fun k hk => ?_
  rcases h.2 with ⟨rfl, _⟩ | ⟨g, cap, cur, rfl, hge, _⟩
  · simp [Value.ownBlock] at hk
  · simp [Value.ownBlock] at hk; omega
theorem ob_call {w w' : World} {base n : Nat} {v : Value} {xs : List Int} (h : OwnB w base v n xs) (hb : Below w.heap.size w w') : OwnB w' base v n xs := (Cells.below hb).row h
theorem ob_alloc {w : World} {base n : Nat} {v : Value} {xs : List Int} (h : OwnB w base v n xs) (o : Obj) : OwnB (w.alloc o) base v n xs := ob_call h ((Below.refl _ _).alloc (Nat.le_refl _) o)
theorem ob_drew {w : World} {base n : Nat} {v : Value} {xs : List Int} (h : OwnB w base v n xs) : OwnB w.drew base v n xs := h
theorem blk_grown {w w' : World} {b base n : Nat} {cs : Array Value} {t : TypeId} {v : Value} {xs : List Int} (h : BlkAt w b cs t) (ho : OwnB w base v n xs) (ht : t ≠ 5) (hg : w.grownBy w' v.ownBlock) : BlkAt w' b cs t := by
  refine (hg.block b h.lt fun e => ?_).trans h
  rcases ho.2 with ⟨rfl, _⟩ | ⟨q, cap, cur, rfl, _, hq, _⟩
  · simp [Value.ownBlock] at e
  · simp [Value.ownBlock] at e
    subst e
    unfold BlkAt at h
    rw [h] at hq
    simp at hq
    exact ht hq.2
theorem copyb_of {A : Option Addr} {m c : Nat} {xs : List Int} (hm : xs.length = m) (w : World) {B b : Nat} (hx : Mem w B A xs) (hl : m ≤ 1000) (hB : B ≤ w.heap.size) (hb : b ≤ w.heap.size) :
    Calls Tryd.prog 22 #[.slice A m c] w fun e w' => ∃ v, e = .returned v ∧ Below w.heap.size w w' ∧ OwnB w' b v m xs := by
  subst hm
  refine (copyb_any A c xs w B hx (by omega) hB).mono ?_
  rintro e w' ⟨v, rfl, h1, h2⟩
  refine ⟨v, rfl, h1, ⟨h2.1, ?_⟩⟩
  rcases h2.2 with h0 | ⟨g, cap, cur, e1, e2, rest⟩
  · exact .inl h0
  · exact .inr ⟨g, cap, cur, e1, by omega, rest⟩
/-- Bytes by append, as a slice that reads as them. -/
theorem ob_form {w : World} {base n : Nat} {v : Value} {xs : List Int} (h : OwnB w base v n xs) (hx : isBytes xs) : ∃ A c, v = .slice A n c ∧ n ≤ c ∧ xs.length = n ∧ Mem w w.heap.size A xs := by
  obtain ⟨A, c, rfl⟩ := own_form h
  have hm := own_mem h hx (Nat.le_refl _)
  refine ⟨A, c, rfl, ?_, hm.2, hm.1⟩
  rcases h.2 with ⟨e, e0⟩ | ⟨g, cap, cur, e, _, _, hle, _⟩
  · omega
  · simp only [Value.slice.injEq] at e
    omega
theorem run_neq_mem_same (p : Pl) (w : World) : (binOp .neq 25 (.agg #[.int .i64 p.bc, .int .i64 p.bn, .int .i64 p.ic, .int .i64 p.ix, .int .i64 p.s, .int .i64 p.d, .int .i64 p.z]) (.agg #[.int .i64 p.bc, .int .i64 p.bn, .int .i64 p.ic, .int .i64 p.ix, .int .i64 p.s, .int .i64 p.d, .int .i64 p.z])).run Tryd.prog w = .ok (.bool false) w := by
  rw [run_neq_struct, run_eq_mem p p 9994 w]
  simp
theorem pick_of {x : Int} {m p : Nat} (hp : x % (m : Int) = (p : Int)) (hm : 1 ≤ m) (hm6 : m ≤ 6) (w : World) :
    Calls Tryd.prog 23 #[.int .i64 x, .int .i64 (m : Int)] w fun e w' => e = .returned (.int .i64 (p : Int)) ∧ w = w' := by
  have h := pick_any x (m : Int) w (by omega) (by unfold I64; omega)
  rw [hp] at h
  exact h
theorem at_step {c : Prop} [Decidable c] {A B : Prop} (h : if c then A else B) : if c then A else B := h
theorem mem_alloc {w : World} {A : Option Addr} {xs : List Int} (h : Mem w w.heap.size A xs) (o : Obj) : Mem (w.alloc o) (w.alloc o).heap.size A xs := (h.below ((Below.refl _ _).alloc (Nat.le_refl _) o)).mono (by simp)
theorem mem_drew {w : World} {A : Option Addr} {xs : List Int} (h : Mem w w.heap.size A xs) : Mem w.drew w.drew.heap.size A xs := h.keep fun _ _ => rfl
theorem mread_of {xs : List Int} {at_ x b er : Int} {sn : Sn} {k : Int} (hR : readA xs at_ x b = (er, sn, k)) (A : Option Addr) (m c : Nat) (w : World) (hm : xs.length = m) (hmc : m ≤ c) (hmb : m ≤ 1000000) (hM : Mem w w.heap.size A xs) :
    Calls Tryd.prog 14 #[.slice A m c, .int .i64 at_, .int .i64 x, .int .i64 b] w fun e w' => e = .returned (.tuple #[.agg #[.int .i64 sn.f, .int .i64 sn.r, .int .i64 sn.m.bc, .int .i64 sn.m.bn, .int .i64 sn.m.ic, .int .i64 sn.m.ix, .int .i64 sn.m.s, .int .i64 sn.m.d, .int .i64 sn.m.z, .int .i64 k], .int .i64 er]) ∧ Below w.heap.size w w' := by
  have h := mread_any A m c at_ x b xs w hm hmc hmb hM
  rw [hR] at h
  exact h
end Go.Proofs.YtiiepdgpnnjpiaaDoor
end
