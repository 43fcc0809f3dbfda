/-
  The program's iterator over all mnemonics: a range over strings.SplitSeq whose body hands each name on with its number.
-/
import Derived.Test.YtinbgkflbphknaaDoorOps
import Derived.Laws.Rows
namespace Go.Proofs.YtinbgkflbphknaaDoor
open Go.RowKit
attribute [local go_sem] Oper.semAt_some

/-- A block of one cell, known whole. -/
def One (b : Nat) (v : Value) (t : TypeId) (W : World) : Prop := W.heap[b]? = some (.cells #[v] t (0, 0))
theorem One.cell {b : Nat} {v : Value} {t : TypeId} {W : World} (h : One b v t W) : W.cell? ⟨b, 0, none⟩ = some v := by simp [World.cell?, show W.heap[b]? = _ from h]
theorem One.frozen {b : Nat} {v : Value} {t : TypeId} {W : World} (h : One b v t W) : W.frozen? ⟨b, 0, none⟩ = false := by simp [World.frozen?, show W.heap[b]? = _ from h]
theorem One.lt {b : Nat} {v : Value} {t : TypeId} {W : World} (h : One b v t W) : b < W.heap.size := (Array.getElem?_eq_some_iff.1 h).1
theorem One.same {b : Nat} {v : Value} {t : TypeId} {A B : World} (h : One b v t A) (he : B.heap[b]? = A.heap[b]?) : One b v t B := he.trans h
theorem One.set {b : Nat} {v : Value} {t : TypeId} {W : World} (h : One b v t W) (u : Value) : One b u t (W.setCell ⟨b, 0, none⟩ u) := heap_setCell_same _ _ _ _ _ _ h
/-- What a round of the program's loop keeps: all that the iterator made. -/
structure Keeps (B : Nat) (A C : World) : Prop where
  size : A.heap.size ≤ C.heap.size
  block : ∀ k, B ≤ k → k < A.heap.size → C.heap[k]? = A.heap[k]?

/-- The iterator's own memory when the range begins: yield, the number of the next mnemonic, the text, what divides it, how much of that a piece keeps. -/
structure Five (W : World) (v : Value) (T : ByteArray) (w : World) : Prop where
  size : w.heap.size = W.heap.size + 5
  y : One W.heap.size v 28 w
  k : One (W.heap.size + 1) (.int .i64 1) 3 w
  t : One (W.heap.size + 2) (.string T) 9 w
  s : One (W.heap.size + 3) (.string ⟨#[32]⟩) 9 w
  z : One (W.heap.size + 4) (.int .i64 0) 3 w
  b : Below W.heap.size W w
theorem one_new (w : World) (v : Value) (t : TypeId) {b : Nat} (h : b = w.heap.size) : One b v t (w.alloc (.cells #[v] t)) := by subst h; exact World.alloc_heap_new w _
theorem One.alloc {b : Nat} {v : Value} {t : TypeId} {w : World} (h : One b v t w) (o : Obj) : One b v t (w.alloc o) := h.same (Below.heap_alloc w o b h.lt)
theorem five_new {n : Nat} {P : Program} {c : Code} {Q : Exit → Act → World → Prop} {a : Act} (W : World) (v : Value) (T : ByteArray) (hT : nums T = joinS (NM.map nums))
    (h : ∀ T w, nums T = joinS (NM.map nums) → Five W v T w → c.wpIn Fence.wide n P Q a w) :
    c.wpIn Fence.wide n P Q a (((((W.alloc (.cells #[v] 28)).alloc (.cells #[.int .i64 1] 3)).alloc (.cells #[.string T] 9)).alloc (.cells #[.string ⟨#[32]⟩] 9)).alloc (.cells #[.int .i64 0] 3)) := by
  refine h T _ hT ⟨by simp, ?_, ?_, ?_, ?_, ?_, ?_⟩
  · exact ((((one_new W v _ rfl).alloc _).alloc _).alloc _).alloc _
  · exact (((one_new _ _ _ (by simp)).alloc _).alloc _).alloc _
  · exact ((one_new _ _ _ (by simp)).alloc _).alloc _
  · exact (one_new _ _ _ (by simp)).alloc _
  · exact one_new _ _ _ (by simp)
  · exact (((((Below.refl _ W).alloc (Nat.le_refl _) _).alloc (by simp) _).alloc (by simp; omega) _).alloc (by simp; omega) _).alloc (by simp; omega) _

theorem joinS_size : (joinS (NM.map nums)).length = 2022 := by decide +kernel
/-- The iterator's own memory between two rounds of its loop, and in one. -/
structure Mid (W : World) (v : Value) (o : Obj) (k : Nat) (A : World) : Prop where
  y : One W.heap.size v 28 A
  k : One (W.heap.size + 1) (.int .i64 (k + 1)) 3 A
  d : A.heap[W.heap.size + 5]? = some (.deferred (some []))
  l : A.heap[W.heap.size + 6]? = some o
theorem Mid.lt {W A : World} {v : Value} {o : Obj} {k : Nat} (h : Mid W v o k A) : W.heap.size + 6 < A.heap.size := (Array.getElem?_eq_some_iff.1 h.l).1
theorem Mid.grown {W A C : World} {v : Value} {o : Obj} {k : Nat} (h : Mid W v o k A) (hg : A.grownBy C (some (W.heap.size + 2))) : Mid W v o k C := by
  have hl := h.lt
  exact ⟨h.y.same (hg.block _ (by omega) (by simp)), h.k.same (hg.block _ (by omega) (by simp)), (hg.block _ (by omega) (by simp)).trans h.d, (hg.block _ (by omega) (by simp)).trans h.l⟩
theorem Mid.turned {W A : World} {v : Value} {o : Obj} {k : Nat} (h : Mid W v o k A) (o' : Obj) : Mid W v o' k (A.putObj (W.heap.size + 6) o') :=
  ⟨h.y.same (World.putObj_heap_other (by omega)), h.k.same (World.putObj_heap_other (by omega)), (World.putObj_heap_other (by omega)).trans h.d, World.putObj_heap_same h.lt⟩
theorem Mid.kept {W A C : World} {v : Value} {o : Obj} {k : Nat} (h : Mid W v o k A) (hk : Keeps W.heap.size A C) : Mid W v o k C := by
  have hl := h.lt
  exact ⟨h.y.same (hk.block _ (by omega) (by omega)), h.k.same (hk.block _ (by omega) (by omega)), (hk.block _ (by omega) (by omega)).trans h.d, (hk.block _ (by omega) (by omega)).trans h.l⟩
theorem Mid.next {W A : World} {v : Value} {o : Obj} {k : Nat} (h : Mid W v o k A) : Mid W v o (k + 1) (A.setCell ⟨W.heap.size + 1, 0, none⟩ (.int .i64 (k + 1 + 1))) :=
  ⟨h.y.same (Below.heap_setCell _ _ _ _ (by simp)), h.k.set _, (Below.heap_setCell _ _ _ _ (by simp)).trans h.d, (Below.heap_setCell _ _ _ _ (by simp)).trans h.l⟩
theorem below_put (B : Nat) (A : World) (b : Nat) (o : Obj) (hb : B ≤ b) : Below B A (A.putObj b o) := ⟨rfl, rfl, rfl, by simp, fun k hk => World.putObj_heap_other (by omega)⟩
theorem Left.same {bs bp bv : Nat} {T : ByteArray} {A C : World} (h : Left bs bp bv T A) (h1 : C.heap[bs]? = A.heap[bs]?) (h2 : C.heap[bp]? = A.heap[bp]?) (h3 : C.heap[bv]? = A.heap[bv]?) : Left bs bp bv T C :=
  ⟨⟨(World.cell?_of_block (a := ⟨bs, 0, none⟩) h1).trans h.1.1, (World.frozen?_of_block (a := ⟨bs, 0, none⟩) h1).trans h.1.2⟩, (World.cell?_of_block (a := ⟨bp, 0, none⟩) h2).trans h.2.1, (World.cell?_of_block (a := ⟨bv, 0, none⟩) h3).trans h.2.2.1, h.2.2.2⟩

set_option maxRecDepth 100000 in
set_option maxHeartbeats 1000000 in
theorem all_any (m l : Nat) (J : Nat → World → Prop) (Jx : World → Prop) (W : World)
    (hJ : ∀ k A C, J k A → Below W.heap.size A C → J k C) (hJx : ∀ A C, Jx A → Below W.heap.size A C → Jx C)
    (hY : ∀ k (s : ByteArray) (A : World), NM[k]? = some s → J k A → YieldAt Fence.wide m Tryd.prog l #[.int .i64 (k + 1), .string s] A fun e C =>
      (e = .returned (.bool true) ∧ J (k + 1) C ∧ Keeps W.heap.size A C) ∨ (e = .returned (.bool false) ∧ Jx C ∧ Keeps W.heap.size A C))
    (h0 : J 0 W) :
    Calls Tryd.prog 22 #[.func (.yield l) #[] #[]] W fun e C => (∃ v, e = .returned v) ∧ (J 322 C ∨ Jx C) := by
  refine (callsIn_wide (n := m + 3)).1 ?_
  refine callsIn_of_wp_marks Tryd.func22 rfl trivial ?_ rfl
  simp only [Tryd.ntmps22, List.size_toArray, List.length_cons, List.length_nil, Nat.reduceAdd, Nat.reduceSub, Array.replicate_succ, Array.replicate_zero, List.push_toArray, List.append_toArray, List.nil_append, List.cons_append]
  gi_wp2_with (refine ⟨trivial, ?_⟩; gi_at_call 30; refine (callsIn_wide.2 (splitSeq_any _ ⟨#[32]⟩ _)).mono ?_; rintro e w1 ⟨rfl, rfl⟩)
  refine five_new W _ _ (by decide +kernel) (fun T w hT hw => ?_)
  have hsz := hw.size
  refine over_any (gf := 37) (lb := #[.pointer (some ⟨W.heap.size + 3, 0, none⟩), .pointer (some ⟨W.heap.size + 2, 0, none⟩), .pointer (some ⟨W.heap.size + 4, 0, none⟩)]) rfl (enters_of Tryd.func37 (by kernel_rfl) rfl) (fun r hrp hra hrb hrt => ?_)
  obtain ⟨D, hD⟩ : ∃ D, w.heap.size = D := ⟨_, rfl⟩
  rw [hD] at hsz ⊢
  subst hsz
  have hm0 : Mid W (.func (.yield l) #[] #[]) (ready r) 0 ((w.alloc (.deferred (some []))).alloc (ready r)) := by
    refine ⟨(hw.y.alloc _).alloc _, (hw.k.alloc _).alloc _, ?_, ?_⟩
    · rw [← hD]; exact (Below.heap_alloc _ _ _ (by simp)).trans (World.alloc_heap_new w _)
    · have := World.alloc_heap_new (w.alloc (.deferred (some []))) (ready r)
      rw [World.size_alloc, hD] at this
      exact this
  have hl0 : Left (W.heap.size + 2) (W.heap.size + 3) (W.heap.size + 4) T ((w.alloc (.deferred (some []))).alloc (ready r)) :=
    ⟨⟨((hw.t.alloc _).alloc _).cell, ((hw.t.alloc _).alloc _).frozen⟩, ((hw.s.alloc _).alloc _).cell, ((hw.z.alloc _).alloc _).cell, by omega, by omega⟩
  have hb0 : Below W.heap.size W ((w.alloc (.deferred (some []))).alloc (ready r)) := (hw.b.alloc (by omega) _).alloc (by simp; omega) _
  refine (split_any (m + 1) (W.heap.size + 5 + 1) (W.heap.size + 2) (W.heap.size + 3) (W.heap.size + 4) (NM.map nums) (fun k A => J k A ∧ Mid W (.func (.yield l) #[] #[]) (ready r) k A)
    (fun A => Jx A ∧ A.heap[W.heap.size + 5]? = some (.deferred (some [])) ∧ A.heap[W.heap.size + 6]? = some (gone r)) NM_none (by rw [List.length_map, NM_length]; omega) ?hJ ?hY T hT
    (by rw [← nums_length, hT, joinS_size]; omega) _ hl0 ⟨hJ _ _ _ h0 hb0, hm0⟩).mono ?post
  case hJ =>
    rintro k A C ⟨hj, hm⟩ hg
    exact ⟨hJ _ _ _ hj ((Below.refl _ A).grown hg (by have := hm.lt; omega) (fun b e => by cases e; omega)), hm.grown hg⟩
  case hY =>
    rintro k p U A hp ⟨hj, hm⟩ hl
    have hps : NM[k]? = some p := by
      rw [List.getElem?_map] at hp
      cases hq : NM[k]? with
      | none => rw [hq] at hp; cases hp
      | some q => rw [hq] at hp; simp at hp; rw [nums_inj hp]
    have hk : k < 322 := by rw [← NM_length]; exact (List.getElem?_eq_some_iff.1 hps).1
    have hj1 := hJ k A _ hj (below_put _ A (W.heap.size + 6) (busy r) (by omega))
    have hm1 := hm.turned (busy r)
    have hl1 : Left (W.heap.size + 2) (W.heap.size + 3) (W.heap.size + 4) U (A.putObj (W.heap.size + 6) (busy r)) :=
      hl.same (World.putObj_heap_other (by omega)) (World.putObj_heap_other (by omega)) (World.putObj_heap_other (by omega))
    refine round_at (r := r) hm.l (by rw [hrp]; rfl) ?_
    simp only [hrp, hra, hrb, hrt]
    obtain ⟨A1, hA1⟩ : ∃ A1, A.putObj (W.heap.size + 5 + 1) (busy r) = A1 := ⟨_, rfl⟩
    change Mid W _ _ k (A.putObj (W.heap.size + 5 + 1) (busy r)) at hm1
    change J k (A.putObj (W.heap.size + 5 + 1) (busy r)) at hj1
    change Left _ _ _ U (A.putObj (W.heap.size + 5 + 1) (busy r)) at hl1
    rw [hA1] at hm1 hj1 hl1 ⊢
    obtain ⟨fn, tmps, assign, body, hy, hR⟩ := hY k p A1 hps hj1
    have hk1 : A1.heap.size ≤ A1.heap.size := Nat.le_refl _
    have hc0 := hm1.y.cell
    have hc1 := hm1.k.cell
    have HM := hid hm1
    have HL := hid hl1
    clear hj1 hm1 hl1 hA1 hm hl hj hps hp hk1 hw hl0 hm0 hb0 hrp hra hrb hrt hT
    gi_wp2
    refine ⟨trivial, ?_⟩
    gi_wp2
    refine hR.mono ?_
    rintro e A3 (⟨rfl, hj3, hk3⟩ | ⟨rfl, hx, hk3⟩)
    · have hm3 := HM.out.kept hk3
      have hc3 := hm3.k.cell
      have hf3 := hm3.k.frozen
      have HM3 := hid hm3
      have HK3 := hid hk3
      clear hm3 hk3 hc0 hc1
      gi_wp2
      have hN := HM3.out.next
      have hlt := HM.out.lt
      have hL3 : Left (W.heap.size + 2) (W.heap.size + 3) (W.heap.size + 4) U A3 := HL.out.same (HK3.out.block _ (by omega) (by omega)) (HK3.out.block _ (by omega) (by omega)) (HK3.out.block _ (by omega) (by omega))
      have hL4 := (hL3.same (C := A3.setCell ⟨W.heap.size + 1, 0, none⟩ (.int .i64 (k + 1 + 1))) (Below.heap_setCell _ _ _ _ (by simp)) (Below.heap_setCell _ _ _ _ (by simp)) (Below.heap_setCell _ _ _ _ (by simp))).same
        (C := (A3.setCell ⟨W.heap.size + 1, 0, none⟩ (.int .i64 (k + 1 + 1))).putObj (W.heap.size + 5 + 1) (ready r)) (World.putObj_heap_other (by omega)) (World.putObj_heap_other (by omega)) (World.putObj_heap_other (by omega))
      exact ⟨hN.l, .inl ⟨rfl, ⟨hJ _ _ _ hj3 (((Below.refl _ A3).setCell (p := ⟨W.heap.size + 1, 0, none⟩) (by simp) _).trans (below_put _ _ _ _ (by omega))), hN.turned _⟩, hL4⟩⟩
    · have hm3 := hid (HM.out.kept hk3)
      gi_wp2
      exact ⟨hm3.out.l, .inr ⟨rfl, hJx _ _ hx (below_put _ _ _ _ (by omega)), (hm3.out.turned (gone r)).d, (hm3.out.turned (gone r)).l⟩⟩
  case post =>
    rw [List.length_map, NM_length]
    clear hw hl0 hm0 hb0 hrp hra hrb hrt hT
    rintro e C ⟨hv, (⟨hj, hm⟩ | ⟨hj, hd, hl⟩)⟩
    · refine ⟨hv, .inl ⟨hm.l, ?_⟩⟩
      have hK : (C.putObj (W.heap.size + 5 + 1) (.loop { r with state := .exhausted, pending := none })).heap[W.heap.size + 5]? = some (.deferred (some [])) := (World.putObj_heap_other (by omega)).trans hm.d
      gi_wp2
      refine ⟨by simp, .inl ⟨_, _, rfl, run_takeDeferred hK, ?_⟩⟩
      exact ⟨_, results_none rfl _ _ _, ⟨_, rfl⟩, .inl (hJ _ _ _ hj ((below_put _ _ _ _ (by omega)).trans (below_put _ _ _ _ (by omega))))⟩
    · refine ⟨hv, .inr ⟨hl, ?_⟩⟩
      have hK : (C.putObj (W.heap.size + 5 + 1) (.loop { r with state := .exhausted, pending := some .ret })).heap[W.heap.size + 5]? = some (.deferred (some [])) := (World.putObj_heap_other (by omega)).trans hd
      gi_wp2
      refine ⟨by simp, .inl ⟨_, _, rfl, run_takeDeferred hK, ?_⟩⟩
      exact ⟨_, results_none rfl _ _ _, ⟨_, rfl⟩, .inr (hJx _ _ hj ((below_put _ _ _ _ (by omega)).trans (below_put _ _ _ _ (by omega))))⟩
end Go.Proofs.YtinbgkflbphknaaDoor
