/-
  The document's two operands: is, swap.
-/
import Derived.Test.YtmlmdbholakioaaInstRows
import Derived.StillTailTactics
import Derived.BigQuiet
import Derived.Deep.DeepCutAuto
namespace Go.Proofs.Ytmlmdbholakioaa
open Go.RowKit

theorem two_cells {w : World} {B : Nat} {A : Option Addr} {x y : Ar} (h : Args w B A [x, y]) : ∃ b off, A = some ⟨b, off, none⟩ ∧ b < B ∧
    (∀ j, j < 11 → w.cell? ⟨b, off + j, none⟩ = (AC x)[j]?) ∧ ∀ j, j < 11 → w.cell? ⟨b, off + 11 + j, none⟩ = (AC y)[j]? := by
  rcases h with h | ⟨b, off, rfl, hb, hc⟩
  · cases h
  · refine ⟨b, off, rfl, hb, fun j hj => ?_, fun j hj => ?_⟩
    · have := hc 0 x rfl j hj; simpa using this
    · have := hc 1 y rfl j hj; simpa using this
theorem is_not {op : Int} (A : Option Addr) (n c : Nat) (p q : Int) (hn : n ≠ 2) (w : World) :
    Calls Try.prog 33 #[.agg #[.int .i64 op, .slice A n c], .int .i64 p, .int .i64 q] w fun e w' => e = .returned (.bool false) ∧ Below w.heap.size w w' := by
  have hx : ((n : Int) == 2) = false := by rw [beq_eq_false_iff_ne]; omega
  go_enter Try.func33, Try.ntmps33
  go_wp2
  go_returns
  exact ⟨rfl, by go_grown⟩
theorem is_two {op : Int} (b off c : Nat) (k1 k2 p q : Int) (w : World) (hb : b < w.heap.size) (h1 : w.cell? ⟨b, off, none⟩ = some (.int .i64 k1)) (h2 : w.cell? ⟨b, off + 11, none⟩ = some (.int .i64 k2)) :
    Calls Try.prog 33 #[.agg #[.int .i64 op, .slice (some ⟨b, off, none⟩) 2 c], .int .i64 p, .int .i64 q] w fun e w' => e = .returned (.bool (k1 == p && k2 == q)) ∧ Below w.heap.size w w' := by
  cases e1 : (k1 == p)
  · go_enter Try.func33, Try.ntmps33
    go_wp2
    go_returns
    exact ⟨by simp, by go_grown⟩
  · cases e2 : (k2 == q)
    all_goals
      go_enter Try.func33, Try.ntmps33
      go_wp2
      go_returns
      exact ⟨by simp, by go_grown⟩
theorem is_of {op p q : Int} {A : Option Addr} {c : Nat} {l : List Ar} {v : Bool} (h : isF l p q = v) (w : World) (hA : Args w w.heap.size A l) :
    Calls Try.prog 33 #[.agg #[.int .i64 op, .slice A l.length c], .int .i64 p, .int .i64 q] w fun e w' => e = .returned (.bool v) ∧ Below w.heap.size w w' := by
  by_cases hn : l.length = 2
  · match l, hn, h, hA with
    | [x, y], _, h, hA =>
      obtain ⟨b, off, rfl, hb, h1, h2⟩ := two_cells hA
      rw [← h]
      exact is_two b off c x.k y.k p q w hb (h1 0 (by decide)) (h2 0 (by decide))
  · rw [isF_not hn] at h
    subst h
    exact is_not A l.length c p q hn w
theorem is_at {op p q : Int} {A : Option Addr} {n c : Nat} {l : List Ar} {v : Bool} (h : isF l p q = v) (hn : l.length = n) (w : World) (hA : Args w w.heap.size A l) :
    Calls Try.prog 33 #[.agg #[.int .i64 op, .slice A n c], .int .i64 p, .int .i64 q] w fun e w' => e = .returned (.bool v) ∧ Below w.heap.size w w' := by
  subst hn; exact is_of h w hA
set_option maxHeartbeats 2000000 in
theorem swap_any {op : Int} (A : Option Addr) (c : Nat) (x y : Ar) (w : World) (hA : Args w w.heap.size A [x, y]) :
    Calls Try.prog 34 #[.agg #[.int .i64 op, .slice A 2 c]] w fun e w' => ∃ A', e = .returned (.agg #[.int .i64 op, .slice A' 2 2]) ∧ Below w.heap.size w w' ∧ OwnA w.heap.size w' A' [y, x] := by
  obtain ⟨b, off, rfl, hb, h1, h2⟩ := two_cells hA
  have p0 := h1 0 (by decide); have p1 := h1 1 (by decide); have p2 := h1 2 (by decide); have p3 := h1 3 (by decide); have p4 := h1 4 (by decide); have p5 := h1 5 (by decide); have p6 := h1 6 (by decide); have p7 := h1 7 (by decide); have p8 := h1 8 (by decide); have p9 := h1 9 (by decide); have p10 := h1 10 (by decide)
  have q0 := h2 0 (by decide); have q1 := h2 1 (by decide); have q2 := h2 2 (by decide); have q3 := h2 3 (by decide); have q4 := h2 4 (by decide); have q5 := h2 5 (by decide); have q6 := h2 6 (by decide); have q7 := h2 7 (by decide); have q8 := h2 8 (by decide); have q9 := h2 9 (by decide); have q10 := h2 10 (by decide)
  simp only [Nat.add_zero, Nat.add_assoc, Nat.reduceAdd, List.getElem?_cons_zero, List.getElem?_cons_succ] at p0 p1 p2 p3 p4 p5 p6 p7 p8 p9 p10 q0 q1 q2 q3 q4 q5 q6 q7 q8 q9 q10
  clear h1 h2 hA
  go_enter Try.func34, Try.ntmps34
  go_wp2
  have HO := hid ((Own.nil w).alloc w.heap.size #[.int .i64 op, .slice (some ⟨b, off, none⟩) 2 c] 24 rfl)
  have hz : w.heap.size + 1 = (w.alloc (.cells #[.int .i64 op, .slice (some ⟨b, off, none⟩) 2 c] 24)).heap.size := by simp
  have hbel := (Below.refl w.heap.size w).alloc (Nat.le_refl _) (.cells #[.int .i64 op, .slice (some ⟨b, off, none⟩) 2 c] 24)
  have hpres : ∀ o, (w.alloc (.cells #[.int .i64 op, .slice (some ⟨b, off, none⟩) 2 c] 24)).cell? ⟨b, o, none⟩ = w.cell? ⟨b, o, none⟩ := fun o => hbel.cell (p := ⟨b, o, none⟩) hb
  rw [← hpres] at p0 p1 p2 p3 p4 p5 p6 p7 p8 p9 p10 q0 q1 q2 q3 q4 q5 q6 q7 q8 q9 q10
  rw [hz]
  clear hpres hbel
  have c0 := HO.out.c
  have z0 := HO.out.z
  have hbW : b < (w.alloc (.cells #[.int .i64 op, .slice (some ⟨b, off, none⟩) 2 c] 24)).heap.size := by omega
  generalize w.alloc (.cells #[.int .i64 op, .slice (some ⟨b, off, none⟩) 2 c] 24) = W at *
  have hS := Old.of ((Below.refl W.heap.size W).alloc (Nat.le_refl _) (.cells #[.int .i64 0, .slice none 0 0] 24))
  go_region_held3 (fun w' => Below W.heap.size W w' ∧ ∀ b o, b < W.heap.size → w'.cell? ⟨b, o, none⟩ = W.cell? ⟨b, o, none⟩) (first | assumption | exact old_drew ‹_› | exact old_alloc ‹_› _ | (refine old_set ‹_› _ _ ?_; simp) | (refine Old.of ?_; go_grown)) (first | fail)
  go_wp2_with (with_reducible change bodyPost _ _ _ Exit.ret _ _; refine bodyPost_ret (v := .agg #[.int .i64 op, .slice (some ⟨W.heap.size + 1, 0, none⟩) 2 2]) (by simp [results, Try.results34, go_sem, *]) rfl ⟨_, rfl, ?_, ?_⟩)
  · exact HO.out.below.trans (Below.mono (by go_grown) HO.out.below.size)
  · exact OwnA.drew (OwnA.made (by simp [cellsA]) (by simp) (by omega))
end Go.Proofs.Ytmlmdbholakioaa
