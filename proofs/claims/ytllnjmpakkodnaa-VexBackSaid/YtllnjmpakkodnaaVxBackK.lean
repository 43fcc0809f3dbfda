/-
  Law 11: VexBack, small lemmas.
-/
import Derived.Test.YtllnjmpakkodnaaVxBack0
import Derived.Test.YtllnjmpakkodnaaVxLaws
import Derived.Deep.Cut
import Derived.Deep.DeepCutAuto
namespace Go.Proofs.Ytllnjmpakkodnaa
open Go.RowKit
set_option maxRecDepth 100000

theorem own_full {w : World} {base n : Nat} {v : Value} {zs : List Int} (h : OwnB w base v n zs) (hz : isBytes zs) : ∃ A c, v = .slice A n c ∧ Mem w w.heap.size A zs ∧ zs.length = n ∧ n ≤ c ∧ c ≤ 9223372036854775807 := by
  have h0 : w.ownsRow base 5 1 v n (zs.map (Value.int .u8)) := h
  rcases h0.2 with ⟨rfl, rfl⟩ | ⟨g, cap, cur, rfl, _, _, h1, h2, _⟩
  · obtain ⟨hm, hl⟩ := own_mem h0 hz (Nat.le_refl _)
    exact ⟨none, 0, rfl, hm, hl, by omega, by omega⟩
  · obtain ⟨hm, hl⟩ := own_mem h0 hz (Nat.le_refl _)
    exact ⟨_, cap, rfl, hm, hl, h1, by unfold maxLen at h2; omega⟩
theorem mem_drewN {w : World} {B : Nat} {A : Option Addr} {zs : List Int} (h : Mem w B A zs) (n : Nat) : Mem (w.drewN n) B A zs := h.keep fun _ _ => rfl
theorem neq_self (r x b m n v l p : Int) (W : World) : (binOp .neq 23 (.agg #[.int .i64 r, .int .i64 x, .int .i64 b, .int .i64 m, .int .i64 n, .int .i64 v, .int .i64 l, .int .i64 p]) (.agg #[.int .i64 r, .int .i64 x, .int .i64 b, .int .i64 m, .int .i64 n, .int .i64 v, .int .i64 l, .int .i64 p])).run Try.prog W = .ok (.bool false) W :=
  run_neq_vex (p := ⟨r, x, b, m, n, v, l, p⟩) (q := ⟨r, x, b, m, n, v, l, p⟩) (by rw [vxEq_self]; rfl) W
/-- A block, known whole. -/
def Bx (w : World) (b : Nat) (cs : Array Value) (t : TypeId) : Prop := w.heap[b]? = some (.cells cs t (0, 0))
theorem Bx.c {w : World} {b : Nat} {cs : Array Value} {t : TypeId} (h : Bx w b cs t) : ∀ j, w.cell? ⟨b, j, none⟩ = cs[j]? := fun _ => cell_of_row _ _ _ _ _ _ h
theorem Bx.f {w : World} {b : Nat} {cs : Array Value} {t : TypeId} (h : Bx w b cs t) : ∀ j, w.frozen? ⟨b, j, none⟩ = false := fun _ => frozen_of_row _ _ _ _ _ h
theorem Bx.lt {w : World} {b : Nat} {cs : Array Value} {t : TypeId} (h : Bx w b cs t) : b < w.heap.size := (Array.getElem?_eq_some_iff.1 h).1
theorem bx_call {w w' : World} {b : Nat} {cs : Array Value} {t : TypeId} (h : Bx w b cs t) (hb : Below w.heap.size w w') : Bx w' b cs t := (hb.block b h.lt).trans h
theorem bx_new (w : World) (cs : Array Value) (t : TypeId) : Bx (w.alloc (.cells cs t)) w.heap.size cs t := heap_alloc_new w _
theorem bx_drew {w : World} {b : Nat} {cs : Array Value} {t : TypeId} (h : Bx w b cs t) : Bx w.drew b cs t := h
theorem bx_new2 (w : World) (cs : Array Value) (t : TypeId) : Bx (w.drew.alloc (.cells cs t)) w.heap.size cs t := heap_alloc_new w.drew _
theorem same_not (A A' : Option Addr) (n m c c' : Nat) (xs ys : List Int) (w : World) (B B' : Nat) (hx : Mem w B A xs) (hy : Mem w B' A' ys) (hn : xs.length = n) (hm : ys.length = m) (h : ¬ xs = ys) :
    Calls Try.prog 13 #[.slice A n c, .slice A' m c'] w fun e w' => e = .returned (.bool false) ∧ w = w' := by
  have := same_of A A' n m c c' xs ys w ⟨_, hx⟩ ⟨_, hy⟩ hn hm
  rwa [decide_eq_false h] at this
end Go.Proofs.Ytllnjmpakkodnaa
