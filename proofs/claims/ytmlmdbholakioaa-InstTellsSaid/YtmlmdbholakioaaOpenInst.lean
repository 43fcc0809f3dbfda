/-
  An instruction that came in, by value: a mnemonic and a row of operands, nil let in.
-/
import Derived.Test.YtmlmdbholakioaaOpenArg
import Derived.Test.YtmlmdbholakioaaInsts
import Derived.Deep.Slices
namespace Go.Proofs.Ytmlmdbholakioaa
open Go.ChangeShapes Go.WideShapes Go.ChangeAt Go.RowKit Go.Joins Go.Deep

instance : Inhabited Ar := ⟨⟨0, 0, 0, ⟨0, 0, 0, 0, 0, 0, 0⟩, 0⟩⟩
theorem cells_arg : Try.prog.cellsOf 42 = 11 := by kernel_rfl
theorem list11 {α : Type} {cs : List α} (h : cs.length = 11) : ∃ c0 c1 c2 c3 c4 c5 c6 c7 c8 c9 c10, cs = [c0, c1, c2, c3, c4, c5, c6, c7, c8, c9, c10] := by
  match cs, h with
  | [c0, c1, c2, c3, c4, c5, c6, c7, c8, c9, c10], _ => exact ⟨c0, c1, c2, c3, c4, c5, c6, c7, c8, c9, c10, rfl⟩
theorem arg_of_cells {H : Type} {enc : TypeId × Value → H} {W : World} {base : Nat} {spare : Nat → Bool} {held : Bool} {n : Nat} {cs : List Value} {y : DataW H × List MemPlace} (hl : cs.length = 11) (h : DataW.trod enc Try.prog W base spare held n 42 cs = some y) :
    ∃ a : Ar, cs = AC a ∧ I64 a.m.s ∧ I64 a.n := by
  obtain ⟨c0, c1, c2, c3, c4, c5, c6, c7, c8, c9, c10, rfl⟩ := list11 hl
  obtain ⟨m, y0, y1, y2, y3, h0, h1, h2, h3⟩ := trod_struct4 Try.underlying42 h
  simp only [cells_int, cells_reg, cells_mem, List.drop_zero, List.take_succ_cons, List.take_zero, List.drop_succ_cons] at h0 h1 h2 h3
  obtain ⟨k, rfl, _⟩ := one_int h0
  obtain ⟨⟨rc, rfl, _⟩, rn, rfl, _⟩ := two_ints h1
  obtain ⟨bc, bn, ic, ix, s, d, z, rfl, rfl, rfl, rfl, rfl, rfl, rfl, w4⟩ := seven_ints h2
  obtain ⟨n, rfl, w5⟩ := one_int h3
  exact ⟨⟨k, rc, rn, ⟨bc, bn, ic, ix, s, d, z⟩, n⟩, rfl, w4, w5⟩
theorem array2 {α : Type} {cs : Array α} (h : cs.size = 2) : ∃ c0 c1, cs = #[c0, c1] := by
  obtain ⟨l⟩ := cs
  match l, h with
  | [c0, c1], _ => exact ⟨c0, c1, rfl⟩
theorem cells_args : Try.prog.cellsOf 22 = 1 := by kernel_rfl
theorem cells_inst : Try.prog.cellsOf 24 = 2 := by kernel_rfl
theorem open_inst {H : Type} {enc : TypeId × Value → H} {W : World} {v : Value} {d : DataW H} {p : List MemPlace} {r : Reach} {base : Nat}
    (hv : Value.okWide Try.prog W r base 24 v) (h : DataW.Trod enc Try.prog W 0 (fun _ => true) true 24 v d p) :
    ∃ (op : Int) (A : Option Addr) (c : Nat) (l : List Ar), v = .agg #[.int .i64 op, .slice A l.length c] ∧ Args W W.heap.size A l ∧ Fine l ∧ l.length ≤ c ∧ c ≤ 9223372036854775807 := by
  obtain ⟨cs, rfl, hsz⟩ := okWide_struct Try.underlying24 hv
  obtain ⟨c0, c1, rfl⟩ := array2 (hsz.trans cells_inst)
  obtain ⟨fuel, hf⟩ := h
  obtain ⟨y0, y1, m, _, _, h0, h1⟩ := trod_struct2 Try.underlying24 hf
  simp only [Value.cells, cells_int, cells_args, List.drop_zero, List.take_succ_cons, List.take_zero, List.drop_succ_cons] at h0 h1
  obtain ⟨op, rfl, _⟩ := one_int h0
  rcases open_slice Try.underlying22 h1 with ⟨hcs, _⟩ | ⟨a, len, cap, m, n, D, Pl, hcs, _, hl, hm, hmm, _, hx⟩
  · simp at hcs
    subst hcs
    exact ⟨op, none, 0, [], rfl, .inl rfl, (fun _ h => by cases h), by simp, by simp⟩
  · simp at hcs
    subst hcs
    have hml : len ≤ m := by rw [hmm]; split <;> omega
    rw [cells_arg] at hx
    obtain ⟨f, hfx⟩ := choose_lt (α := Ar) (n := len) (p := fun i y => W.cells? 0 (a.add (i * 11)) 11 = some (AC y) ∧ I64 y.m.s ∧ I64 y.n) (fun i hi => by
      obtain ⟨cs', h2, h3⟩ := hx i (by omega)
      obtain ⟨y, rfl, h4⟩ := arg_of_cells (World.cells?_some h2).2.1 h3
      exact ⟨y, h2, h4⟩)
    refine ⟨op, some a, cap, (List.range len).map f, by simp, ?_, ?_, by simpa using hl, by unfold maxLen at hm; omega⟩
    · by_cases h0 : len = 0
      · left; subst h0; simp
      · obtain ⟨b, off, spot⟩ := a
        have hc := (World.cells?_some (hfx 0 (by omega)).1).2.2 0 (by decide)
        have hspot : spot = none := by
          have : W.cell? (((⟨b, off, spot⟩ : Addr).add (0 * 11)).add 0) = some (.int .i64 (f 0).k) := hc
          simpa [Addr.add] using World.cell?_spot this
        subst hspot
        have hadd : ∀ b o i, (⟨b, o, none⟩ : Addr).add i = ⟨b, o + i, none⟩ := fun b o i => by unfold Addr.add; split <;> simp_all
        refine .inr ⟨b, off, rfl, ?_, fun i y hi j hj => ?_⟩
        · have h1 : W.cell? (((⟨b, off, none⟩ : Addr).add (0 * 11)).add 0) = some (.int .i64 (f 0).k) := hc
          have := World.block_lt_of_cell? W _ h1
          rw [hadd, hadd] at this
          exact this
        · obtain ⟨hi1, hi2⟩ := List.getElem?_eq_some_iff.1 hi
          simp at hi1 hi2
          subst hi2
          have := (World.cells?_some (hfx i hi1).1).2.2 j hj
          rw [hadd, hadd] at this
          exact this
    · intro y hy
      obtain ⟨i, hi, rfl⟩ := List.mem_map.1 hy
      exact (hfx i (List.mem_range.1 hi)).2
end Go.Proofs.Ytmlmdbholakioaa
