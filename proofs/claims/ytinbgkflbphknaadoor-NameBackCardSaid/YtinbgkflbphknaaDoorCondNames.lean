/-
  The names of conditions: the array of slices that the program makes anew for each call.
-/
import Derived.Test.YtinbgkflbphknaaDoorCondIs
import Derived.RowKit3
namespace Go.Proofs.YtinbgkflbphknaaDoor
open Go.RowKit

/-- The names of a condition, its own first. -/
def NB (n : Nat) : List ByteArray := match n with
  | 0 => [⟨#[111]⟩]
  | 1 => [⟨#[110, 111]⟩]
  | 2 => [⟨#[98]⟩, ⟨#[99]⟩, ⟨#[110, 97, 101]⟩]
  | 3 => [⟨#[97, 101]⟩, ⟨#[110, 98]⟩, ⟨#[110, 99]⟩]
  | 4 => [⟨#[101]⟩, ⟨#[122]⟩]
  | 5 => [⟨#[110, 101]⟩, ⟨#[110, 122]⟩]
  | 6 => [⟨#[98, 101]⟩, ⟨#[110, 97]⟩]
  | 7 => [⟨#[97]⟩, ⟨#[110, 98, 101]⟩]
  | 8 => [⟨#[115]⟩]
  | 9 => [⟨#[110, 115]⟩]
  | 10 => [⟨#[112]⟩, ⟨#[112, 101]⟩]
  | 11 => [⟨#[110, 112]⟩, ⟨#[112, 111]⟩]
  | 12 => [⟨#[108]⟩, ⟨#[110, 103, 101]⟩]
  | 13 => [⟨#[103, 101]⟩, ⟨#[110, 108]⟩]
  | 14 => [⟨#[108, 101]⟩, ⟨#[110, 103]⟩]
  | 15 => [⟨#[103]⟩, ⟨#[110, 108, 101]⟩]
  | _ => []
/-- Names in memory. -/
def Row (h : Nat) (l : List ByteArray) (w : World) : Prop := h < w.heap.size ∧ ∀ (i : Nat) (b : ByteArray), l[i]? = some b → w.cell? ⟨h, i, none⟩ = some (.string b)
theorem Row.below {h : Nat} {l : List ByteArray} {w w' : World} (hr : Row h l w) (hb : Below w.heap.size w w') : Row h l w' :=
  ⟨Nat.lt_of_lt_of_le hr.1 hb.size, fun i b hi => by rw [hb.cell (p := ⟨h, i, none⟩) hr.1]; exact hr.2 i b hi⟩
/-- A slice over a block of its own. -/
abbrev SL (h k : Nat) : Value := .slice (some ⟨h, 0, none⟩) k k
/-- All that was made since may be written. -/
def Free (w w' : World) : Prop := ∀ b i : Nat, w.heap.size ≤ b → w'.frozen? ⟨b, i, none⟩ = false
theorem frozen_none (w : World) (b i : Nat) (h : w.heap.size ≤ b) : w.frozen? ⟨b, i, none⟩ = false := by
  unfold World.frozen?
  rw [Array.getElem?_eq_none h]
theorem Free.refl (w : World) : Free w w := fun b i h => frozen_none w b i h
theorem Free.alloc {w w' : World} (h : Free w w') (c : Array Value) (t : TypeId) : Free w (w'.alloc (.cells c t)) := fun b i hb => by rw [frozen?_alloc_cells]; exact h b i hb
theorem cell_alloc_lt (w : World) (o : Obj) (b i : Nat) (h : b < w.heap.size) : (w.alloc o).cell? ⟨b, i, none⟩ = w.cell? ⟨b, i, none⟩ := ((Below.refl _ w).alloc (Nat.le_refl _) o).cell (p := ⟨b, i, none⟩) h
theorem cell_new (w : World) (xs : Array Value) (t : TypeId) (b i : Nat) (h : b = w.heap.size) : (w.alloc (.cells xs t)).cell? ⟨b, i, none⟩ = xs[i]? := by
  subst h
  simp
set_option maxHeartbeats 4000000 in
set_option maxRecDepth 100000 in
theorem names_raw (w : World) :
    Calls Tryd.prog 29 #[] w fun e w' => e = .returned (.agg #[SL (w.heap.size + 1) 1, SL (w.heap.size + 1 + 1) 1, SL (w.heap.size + 1 + 1 + 1) 3, SL (w.heap.size + 1 + 1 + 1 + 1) 3, SL (w.heap.size + 1 + 1 + 1 + 1 + 1) 2, SL (w.heap.size + 1 + 1 + 1 + 1 + 1 + 1) 2, SL (w.heap.size + 1 + 1 + 1 + 1 + 1 + 1 + 1) 2, SL (w.heap.size + 1 + 1 + 1 + 1 + 1 + 1 + 1 + 1) 2, SL (w.heap.size + 1 + 1 + 1 + 1 + 1 + 1 + 1 + 1 + 1) 1, SL (w.heap.size + 1 + 1 + 1 + 1 + 1 + 1 + 1 + 1 + 1 + 1) 1, SL (w.heap.size + 1 + 1 + 1 + 1 + 1 + 1 + 1 + 1 + 1 + 1 + 1) 2, SL (w.heap.size + 1 + 1 + 1 + 1 + 1 + 1 + 1 + 1 + 1 + 1 + 1 + 1) 2, SL (w.heap.size + 1 + 1 + 1 + 1 + 1 + 1 + 1 + 1 + 1 + 1 + 1 + 1 + 1) 2, SL (w.heap.size + 1 + 1 + 1 + 1 + 1 + 1 + 1 + 1 + 1 + 1 + 1 + 1 + 1 + 1) 2, SL (w.heap.size + 1 + 1 + 1 + 1 + 1 + 1 + 1 + 1 + 1 + 1 + 1 + 1 + 1 + 1 + 1) 2, SL (w.heap.size + 1 + 1 + 1 + 1 + 1 + 1 + 1 + 1 + 1 + 1 + 1 + 1 + 1 + 1 + 1 + 1) 2]) ∧ (w'.cell? ⟨(w.heap.size + 1), 0, none⟩ = some (.string ((NB 0)[0]?.getD ByteArray.empty)) ∧ w'.cell? ⟨(w.heap.size + 1 + 1), 0, none⟩ = some (.string ((NB 1)[0]?.getD ByteArray.empty)) ∧ w'.cell? ⟨(w.heap.size + 1 + 1 + 1), 0, none⟩ = some (.string ((NB 2)[0]?.getD ByteArray.empty)) ∧ w'.cell? ⟨(w.heap.size + 1 + 1 + 1), 1, none⟩ = some (.string ((NB 2)[1]?.getD ByteArray.empty)) ∧ w'.cell? ⟨(w.heap.size + 1 + 1 + 1), 2, none⟩ = some (.string ((NB 2)[2]?.getD ByteArray.empty)) ∧ w'.cell? ⟨(w.heap.size + 1 + 1 + 1 + 1), 0, none⟩ = some (.string ((NB 3)[0]?.getD ByteArray.empty)) ∧ w'.cell? ⟨(w.heap.size + 1 + 1 + 1 + 1), 1, none⟩ = some (.string ((NB 3)[1]?.getD ByteArray.empty)) ∧ w'.cell? ⟨(w.heap.size + 1 + 1 + 1 + 1), 2, none⟩ = some (.string ((NB 3)[2]?.getD ByteArray.empty)) ∧ w'.cell? ⟨(w.heap.size + 1 + 1 + 1 + 1 + 1), 0, none⟩ = some (.string ((NB 4)[0]?.getD ByteArray.empty)) ∧ w'.cell? ⟨(w.heap.size + 1 + 1 + 1 + 1 + 1), 1, none⟩ = some (.string ((NB 4)[1]?.getD ByteArray.empty)) ∧ w'.cell? ⟨(w.heap.size + 1 + 1 + 1 + 1 + 1 + 1), 0, none⟩ = some (.string ((NB 5)[0]?.getD ByteArray.empty)) ∧ w'.cell? ⟨(w.heap.size + 1 + 1 + 1 + 1 + 1 + 1), 1, none⟩ = some (.string ((NB 5)[1]?.getD ByteArray.empty)) ∧ w'.cell? ⟨(w.heap.size + 1 + 1 + 1 + 1 + 1 + 1 + 1), 0, none⟩ = some (.string ((NB 6)[0]?.getD ByteArray.empty)) ∧ w'.cell? ⟨(w.heap.size + 1 + 1 + 1 + 1 + 1 + 1 + 1), 1, none⟩ = some (.string ((NB 6)[1]?.getD ByteArray.empty)) ∧ w'.cell? ⟨(w.heap.size + 1 + 1 + 1 + 1 + 1 + 1 + 1 + 1), 0, none⟩ = some (.string ((NB 7)[0]?.getD ByteArray.empty)) ∧ w'.cell? ⟨(w.heap.size + 1 + 1 + 1 + 1 + 1 + 1 + 1 + 1), 1, none⟩ = some (.string ((NB 7)[1]?.getD ByteArray.empty)) ∧ w'.cell? ⟨(w.heap.size + 1 + 1 + 1 + 1 + 1 + 1 + 1 + 1 + 1), 0, none⟩ = some (.string ((NB 8)[0]?.getD ByteArray.empty)) ∧ w'.cell? ⟨(w.heap.size + 1 + 1 + 1 + 1 + 1 + 1 + 1 + 1 + 1 + 1), 0, none⟩ = some (.string ((NB 9)[0]?.getD ByteArray.empty)) ∧ w'.cell? ⟨(w.heap.size + 1 + 1 + 1 + 1 + 1 + 1 + 1 + 1 + 1 + 1 + 1), 0, none⟩ = some (.string ((NB 10)[0]?.getD ByteArray.empty)) ∧ w'.cell? ⟨(w.heap.size + 1 + 1 + 1 + 1 + 1 + 1 + 1 + 1 + 1 + 1 + 1), 1, none⟩ = some (.string ((NB 10)[1]?.getD ByteArray.empty)) ∧ w'.cell? ⟨(w.heap.size + 1 + 1 + 1 + 1 + 1 + 1 + 1 + 1 + 1 + 1 + 1 + 1), 0, none⟩ = some (.string ((NB 11)[0]?.getD ByteArray.empty)) ∧ w'.cell? ⟨(w.heap.size + 1 + 1 + 1 + 1 + 1 + 1 + 1 + 1 + 1 + 1 + 1 + 1), 1, none⟩ = some (.string ((NB 11)[1]?.getD ByteArray.empty)) ∧ w'.cell? ⟨(w.heap.size + 1 + 1 + 1 + 1 + 1 + 1 + 1 + 1 + 1 + 1 + 1 + 1 + 1), 0, none⟩ = some (.string ((NB 12)[0]?.getD ByteArray.empty)) ∧ w'.cell? ⟨(w.heap.size + 1 + 1 + 1 + 1 + 1 + 1 + 1 + 1 + 1 + 1 + 1 + 1 + 1), 1, none⟩ = some (.string ((NB 12)[1]?.getD ByteArray.empty)) ∧ w'.cell? ⟨(w.heap.size + 1 + 1 + 1 + 1 + 1 + 1 + 1 + 1 + 1 + 1 + 1 + 1 + 1 + 1), 0, none⟩ = some (.string ((NB 13)[0]?.getD ByteArray.empty)) ∧ w'.cell? ⟨(w.heap.size + 1 + 1 + 1 + 1 + 1 + 1 + 1 + 1 + 1 + 1 + 1 + 1 + 1 + 1), 1, none⟩ = some (.string ((NB 13)[1]?.getD ByteArray.empty)) ∧ w'.cell? ⟨(w.heap.size + 1 + 1 + 1 + 1 + 1 + 1 + 1 + 1 + 1 + 1 + 1 + 1 + 1 + 1 + 1), 0, none⟩ = some (.string ((NB 14)[0]?.getD ByteArray.empty)) ∧ w'.cell? ⟨(w.heap.size + 1 + 1 + 1 + 1 + 1 + 1 + 1 + 1 + 1 + 1 + 1 + 1 + 1 + 1 + 1), 1, none⟩ = some (.string ((NB 14)[1]?.getD ByteArray.empty)) ∧ w'.cell? ⟨(w.heap.size + 1 + 1 + 1 + 1 + 1 + 1 + 1 + 1 + 1 + 1 + 1 + 1 + 1 + 1 + 1 + 1), 0, none⟩ = some (.string ((NB 15)[0]?.getD ByteArray.empty)) ∧ w'.cell? ⟨(w.heap.size + 1 + 1 + 1 + 1 + 1 + 1 + 1 + 1 + 1 + 1 + 1 + 1 + 1 + 1 + 1 + 1), 1, none⟩ = some (.string ((NB 15)[1]?.getD ByteArray.empty))) ∧ Free w w' ∧ Below w.heap.size w w' := by
  go_enter Tryd.func29, Tryd.ntmps29
  go_wp2
  refine bodyPost_ret (v := .agg #[SL (w.heap.size + 1) 1, SL (w.heap.size + 1 + 1) 1, SL (w.heap.size + 1 + 1 + 1) 3, SL (w.heap.size + 1 + 1 + 1 + 1) 3, SL (w.heap.size + 1 + 1 + 1 + 1 + 1) 2, SL (w.heap.size + 1 + 1 + 1 + 1 + 1 + 1) 2, SL (w.heap.size + 1 + 1 + 1 + 1 + 1 + 1 + 1) 2, SL (w.heap.size + 1 + 1 + 1 + 1 + 1 + 1 + 1 + 1) 2, SL (w.heap.size + 1 + 1 + 1 + 1 + 1 + 1 + 1 + 1 + 1) 1, SL (w.heap.size + 1 + 1 + 1 + 1 + 1 + 1 + 1 + 1 + 1 + 1) 1, SL (w.heap.size + 1 + 1 + 1 + 1 + 1 + 1 + 1 + 1 + 1 + 1 + 1) 2, SL (w.heap.size + 1 + 1 + 1 + 1 + 1 + 1 + 1 + 1 + 1 + 1 + 1 + 1) 2, SL (w.heap.size + 1 + 1 + 1 + 1 + 1 + 1 + 1 + 1 + 1 + 1 + 1 + 1 + 1) 2, SL (w.heap.size + 1 + 1 + 1 + 1 + 1 + 1 + 1 + 1 + 1 + 1 + 1 + 1 + 1 + 1) 2, SL (w.heap.size + 1 + 1 + 1 + 1 + 1 + 1 + 1 + 1 + 1 + 1 + 1 + 1 + 1 + 1 + 1) 2, SL (w.heap.size + 1 + 1 + 1 + 1 + 1 + 1 + 1 + 1 + 1 + 1 + 1 + 1 + 1 + 1 + 1 + 1) 2]) (by simp [results, Tryd.results29, go_sem]) rfl ⟨rfl, ?_, by (repeat' (first | with_reducible refine Free.alloc ?_ _ _ | with_reducible exact Free.refl _)), by go_grown⟩
  refine ⟨?_, ?_, ?_, ?_, ?_, ?_, ?_, ?_, ?_, ?_, ?_, ?_, ?_, ?_, ?_, ?_, ?_, ?_, ?_, ?_, ?_, ?_, ?_, ?_, ?_, ?_, ?_, ?_, ?_, ?_⟩
  all_goals simp [NB, cell_alloc_lt, cell_new]
end Go.Proofs.YtinbgkflbphknaaDoor
