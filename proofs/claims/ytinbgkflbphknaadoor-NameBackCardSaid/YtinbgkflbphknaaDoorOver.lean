/-
  A loop of the program's over all mnemonics: what its own cells hold between two rounds, one walk of its body.
-/
import Derived.Test.YtinbgkflbphknaaDoorAllOps
namespace Go.Proofs.YtinbgkflbphknaaDoor
open Go.RowKit
attribute [local go_sem] Oper.semAt_some

/-- How the body of such a loop may be left. -/
def bodyEnd (B : Nat) (I : Nat → World → Prop) (Ix : World → Prop) (k : Nat) (A : World) : Exit → Act → World → Prop
  | .normal, _, C => I (k + 1) C ∧ Keeps B A C
  | .ret, _, C => Ix C ∧ Keeps B A C
  | _, _, _ => False
theorem Keeps.put {B : Nat} {A C : World} (h : Keeps B A C) (l : Nat) (o : Obj) (hl : l < B) : Keeps B A (C.putObj l o) :=
  ⟨by simpa using h.size, fun k hk hz => (World.putObj_heap_other (by omega)).trans (h.block k hk hz)⟩
theorem Keeps.refl (B : Nat) (A : World) : Keeps B A A := ⟨Nat.le_refl _, fun _ _ _ => rfl⟩
theorem Keeps.trans {B : Nat} {A C D : World} (h : Keeps B A C) (k : Keeps B C D) : Keeps B A D := ⟨Nat.le_trans h.size k.size, fun b hb hz => (k.block b hb (Nat.lt_of_lt_of_le hz h.size)).trans (h.block b hb hz)⟩
theorem Keeps.mono {B B' : Nat} {A C : World} (h : Keeps B A C) (hb : B ≤ B') : Keeps B' A C := ⟨h.size, fun k hk hz => h.block k (Nat.le_trans hb hk) hz⟩
theorem Keeps.set {B : Nat} {A C : World} (h : Keeps B A C) {b : Nat} (hb : b < B) (v : Value) : Keeps B A (C.setCell ⟨b, 0, none⟩ v) :=
  ⟨by have := h.size; simpa [World.setCell] using this, fun k hk hz => (Below.heap_setCell _ _ _ _ (by simp; omega)).trans (h.block k hk hz)⟩

set_option maxHeartbeats 1000000 in
theorem over_all {n m : Nat} {ps : Array Tmp} {assign body : Code} {Q : Exit → Act → World → Prop} {a : Act} {w : World} (hps : ps.size = 2) (I : Nat → World → Prop) (Ix : World → Prop)
    (hI : ∀ k A C, I k A → Below w.heap.size A C → I k C) (hIx : ∀ A C, Ix A → Below w.heap.size A C → Ix C) (h0 : I 0 w)
    (hbody : ∀ (l k : Nat) (s : ByteArray) (A A1 : World), NM[k]? = some s → k < 322 → I k A1 →
      assign.wpIn (Fence.wide.inRound l) m Tryd.prog (Exit.then (fun a₁ w₁ => w₁ = A ∧ body.wpIn (Fence.wide.inRound l) m Tryd.prog (bodyEnd w.heap.size I Ix k A1) a₁ A1) (fun _ _ _ => False))
        { tmps := (ps.zip #[.int .i64 (k + 1), .string s]).foldl (fun t (p, v) => t.setIfInBounds p v) a.tmps, defers := [] } A)
    (hdone : ∀ C, I 322 C → C.heap[w.heap.size]? = some (.deferred (some [])) → Q .normal { a with defers := mark w.heap.size :: a.defers } C)
    (hstop : ∀ C, Ix C → C.heap[w.heap.size]? = some (.deferred (some [])) → Code.ret.wpIn Fence.wide n Tryd.prog Q { a with defers := mark w.heap.size :: a.defers } C) :
    (Code.rangeFunc (.func 22) ps assign body).wpIn Fence.wide n Tryd.prog Q a w := by
  refine over_any (gf := 22) (lb := #[]) rfl (enters_of Tryd.func22 (by kernel_rfl) rfl) (fun r hrp hra hrb hrt => ?_)
  have hb0 : Below w.heap.size w ((w.alloc (.deferred (some []))).alloc (ready r)) := ((Below.refl _ w).alloc (Nat.le_refl _) _).alloc (by simp) _
  have hd0 : ((w.alloc (.deferred (some []))).alloc (ready r)).heap[w.heap.size]? = some (.deferred (some [])) := (Below.heap_alloc _ _ _ (by simp)).trans (World.alloc_heap_new w _)
  have hl0 : ((w.alloc (.deferred (some []))).alloc (ready r)).heap[w.heap.size + 1]? = some (ready r) := by
    have := World.alloc_heap_new (w.alloc (.deferred (some []))) (ready r)
    rwa [World.size_alloc] at this
  have hz : ((w.alloc (.deferred (some []))).alloc (ready r)).heap.size = w.heap.size + 2 := by simp
  refine (all_any m (w.heap.size + 1) (fun k A => I k A ∧ A.heap[w.heap.size]? = some (.deferred (some [])) ∧ A.heap[w.heap.size + 1]? = some (ready r))
    (fun A => Ix A ∧ A.heap[w.heap.size]? = some (.deferred (some [])) ∧ A.heap[w.heap.size + 1]? = some (gone r)) ((w.alloc (.deferred (some []))).alloc (ready r)) ?hJ ?hJx ?hY ⟨hI _ _ _ h0 hb0, hd0, hl0⟩).mono ?post
  case hJ =>
    rintro k A C ⟨h1, h2, h3⟩ hb
    rw [hz] at hb
    exact ⟨hI _ _ _ h1 (hb.mono (by omega)), (hb.block _ (by omega)).trans h2, (hb.block _ (by omega)).trans h3⟩
  case hJx =>
    rintro A C ⟨h1, h2, h3⟩ hb
    rw [hz] at hb
    exact ⟨hIx _ _ h1 (hb.mono (by omega)), (hb.block _ (by omega)).trans h2, (hb.block _ (by omega)).trans h3⟩
  case hY =>
    rintro k s A hs ⟨h1, h2, h3⟩
    rw [hz]
    have hk : k < 322 := by rw [← NM_length]; exact (List.getElem?_eq_some_iff.1 hs).1
    have hi1 := hI k A _ h1 (below_put _ A (w.heap.size + 1) (busy r) (by omega))
    have hlt : w.heap.size + 1 < A.heap.size := (Array.getElem?_eq_some_iff.1 h3).1
    have hl1 : (A.putObj (w.heap.size + 1) (busy r)).heap[w.heap.size + 1]? = some (busy r) := World.putObj_heap_same hlt
    have hd1 : (A.putObj (w.heap.size + 1) (busy r)).heap[w.heap.size]? = some (.deferred (some [])) := (World.putObj_heap_other (by omega)).trans h2
    have hk1 : Keeps (w.heap.size + 2) A (A.putObj (w.heap.size + 1) (busy r)) := (Keeps.refl _ A).put _ _ (by omega)
    have hlt1 : w.heap.size + 1 < (A.putObj (w.heap.size + 1) (busy r)).heap.size := by simpa using hlt
    refine round_at (r := r) h3 (by rw [hrp, hps]; rfl) ?_
    have h := hbody (w.heap.size + 1) k s A (A.putObj (w.heap.size + 1) (busy r)) hs hk hi1
    rw [hrp, hra, hrb, hrt]
    refine wpIn_mono h ?_
    rintro e a1 w1 hp
    cases e with
    | normal =>
      obtain ⟨rfl, hp⟩ := hp
      refine ⟨rfl, wpIn_mono hp ?_⟩
      rintro e a2 C hq
      cases e with
      | normal =>
        obtain ⟨hi, hkp⟩ := hq
        have hl2 := (hkp.block _ (by omega) hlt1).trans hl1
        have hd2 := (hkp.block _ (Nat.le_refl _) (by omega)).trans hd1
        exact ⟨hl2, .inl ⟨rfl, ⟨hI _ _ _ hi (below_put _ _ _ _ (by omega)), (World.putObj_heap_other (by omega)).trans hd2, World.putObj_heap_same (Array.getElem?_eq_some_iff.1 hl2).1⟩, (hk1.trans (hkp.mono (by omega))).put _ _ (by omega)⟩⟩
      | ret =>
        obtain ⟨hi, hkp⟩ := hq
        have hl2 := (hkp.block _ (by omega) hlt1).trans hl1
        have hd2 := (hkp.block _ (Nat.le_refl _) (by omega)).trans hd1
        exact ⟨hl2, .inr ⟨rfl, ⟨hIx _ _ hi (below_put _ _ _ _ (by omega)), (World.putObj_heap_other (by omega)).trans hd2, World.putObj_heap_same (Array.getElem?_eq_some_iff.1 hl2).1⟩, (hk1.trans (hkp.mono (by omega))).put _ _ (by omega)⟩⟩
      | exit id => exact hq.elim
      | goto t => exact hq.elim
      | panic ch => exact hq.elim
      | outgrown => exact hq.elim
    | ret => exact hp.elim
    | exit id => exact hp.elim
    | goto t => exact hp.elim
    | panic ch => exact hp.elim
    | outgrown => exact hp.elim
  case post =>
    rintro e C ⟨hv, (⟨hi, hd, hl⟩ | ⟨hi, hd, hl⟩)⟩
    · exact ⟨hv, .inl ⟨hl, hdone _ (hI _ _ _ hi (below_put _ _ _ _ (by omega))) ((World.putObj_heap_other (by omega)).trans hd)⟩⟩
    · exact ⟨hv, .inr ⟨hl, hstop _ (hIx _ _ hi (below_put _ _ _ _ (by omega))) ((World.putObj_heap_other (by omega)).trans hd)⟩⟩
end Go.Proofs.YtinbgkflbphknaaDoor
