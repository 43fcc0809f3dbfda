/-
  A place that came in, by value: two registers and three numbers: seven cells.
  An operand that came in, by value: a kind, a register, a place, a number: eleven cells.
-/
import Derived.Test.YtiiepdgpnnjpiaaDoorFrame0
import Derived.Lib.SmallJoins
section
namespace Go.Proofs.YtiiepdgpnnjpiaaDoor
open Go.ChangeShapes Go.WideShapes Go.ChangeAt Go.RowKit Go.Joins Go.Deep

set_option maxRecDepth 100000
theorem array7 {α : Type} {cs : Array α} (h : cs.size = 7) : ∃ c0 c1 c2 c3 c4 c5 c6, cs = #[c0, c1, c2, c3, c4, c5, c6] := by
  obtain ⟨l⟩ := cs
  match l, h with
  | [c0, c1, c2, c3, c4, c5, c6], _ => exact ⟨c0, c1, c2, c3, c4, c5, c6, rfl⟩
section
variable {H : Type} {enc : TypeId × Value → H} {P : Program} {w : World} {base : Nat} {spare : Nat → Bool} {held : Bool}
theorem trod_struct5 {t : TypeId} {f0 f1 f2 f3 f4 : Field} {fuel : Nat} {cs : List Value} {x : DataW H × List MemPlace} (ht : P.underlying t = some (.struct #[f0, f1, f2, f3, f4])) (h : DataW.trod enc P w base spare held fuel t cs = some x) :
    ∃ n, ∃ y0 y1 y2 y3 y4, DataW.trod enc P w base spare held n f0.type ((cs.drop f0.offset).take (P.cellsOf f0.type)) = some y0 ∧
      DataW.trod enc P w base spare held n f1.type ((cs.drop f1.offset).take (P.cellsOf f1.type)) = some y1 ∧ DataW.trod enc P w base spare held n f2.type ((cs.drop f2.offset).take (P.cellsOf f2.type)) = some y2 ∧
      DataW.trod enc P w base spare held n f3.type ((cs.drop f3.offset).take (P.cellsOf f3.type)) = some y3 ∧ DataW.trod enc P w base spare held n f4.type ((cs.drop f4.offset).take (P.cellsOf f4.type)) = some y4 := by
  obtain ⟨xs, n, _, rfl, hl, hlen, hf⟩ := DataW.trod_struct ht h
  match xs, hlen with
  | [y0, y1, y2, y3, y4], _ => exact ⟨n, y0, y1, y2, y3, y4, by simpa using hf 0 f0 rfl, by simpa using hf 1 f1 rfl, by simpa using hf 2 f2 rfl, by simpa using hf 3 f3 rfl, by simpa using hf 4 f4 rfl⟩
end
theorem one_int {H : Type} {enc : TypeId × Value → H} {W : World} {base : Nat} {spare : Nat → Bool} {held : Bool} {n : Nat} {c : Value} {y : DataW H × List MemPlace} (h : DataW.trod enc Tryd.prog W base spare held n 3 [c] = some y) :
    ∃ a, c = .int .i64 a ∧ I64 a := by
  obtain ⟨a, ha, _, wa⟩ := DataW.trod_int Tryd.underlying3 h
  simp only [List.cons.injEq, and_true] at ha
  exact ⟨a, ha, I64.of wa⟩
theorem cells_int : Tryd.prog.cellsOf 3 = 1 := by kernel_rfl
theorem cells_reg : Tryd.prog.cellsOf 23 = 2 := by kernel_rfl
theorem two_ints {H : Type} {enc : TypeId × Value → H} {W : World} {base : Nat} {spare : Nat → Bool} {held : Bool} {n : Nat} {c c' : Value} {y : DataW H × List MemPlace} (h : DataW.trod enc Tryd.prog W base spare held n 23 [c, c'] = some y) :
    (∃ a, c = .int .i64 a ∧ I64 a) ∧ ∃ a, c' = .int .i64 a ∧ I64 a := by
  obtain ⟨y0, y1, m, _, _, h0, h1⟩ := trod_struct2 Tryd.underlying23 h
  simp only [cells_int, List.drop_zero, List.take_succ_cons, List.take_zero, List.drop_succ_cons] at h0 h1
  exact ⟨one_int h0, one_int h1⟩
theorem open_mem {H : Type} {enc : TypeId × Value → H} {W : World} {v : Value} {d : DataW H} {p : List MemPlace} {r : Reach} {base : Nat}
    (hv : Value.okWide Tryd.prog W r base 25 v) (h : DataW.Trod enc Tryd.prog W 0 (fun _ => true) true 25 v d p) :
    ∃ (bc bn ic ix s d z : Int), v = .agg #[.int .i64 bc, .int .i64 bn, .int .i64 ic, .int .i64 ix, .int .i64 s, .int .i64 d, .int .i64 z] ∧ I64 s := by
  obtain ⟨cs, rfl, hsz⟩ := okWide_struct Tryd.underlying25 hv
  obtain ⟨c0, c1, c2, c3, c4, c5, c6, rfl⟩ := array7 (hsz.trans (show Tryd.prog.cellsOf 25 = 7 by kernel_rfl))
  obtain ⟨fuel, hf⟩ := h
  obtain ⟨n, y0, y1, y2, y3, y4, h0, h1, h2, h3, h4⟩ := trod_struct5 Tryd.underlying25 hf
  simp only [Value.cells, cells_int, cells_reg, List.drop_zero, List.take_succ_cons, List.take_zero, List.drop_succ_cons] at h0 h1 h2 h3 h4
  obtain ⟨⟨a0, rfl, _⟩, a1, rfl, _⟩ := two_ints h0
  obtain ⟨⟨a2, rfl, _⟩, a3, rfl, _⟩ := two_ints h1
  obtain ⟨a4, rfl, w4⟩ := one_int h2
  obtain ⟨a5, rfl, _⟩ := one_int h3
  obtain ⟨a6, rfl, _⟩ := one_int h4
  exact ⟨a0, a1, a2, a3, a4, a5, a6, rfl, w4⟩
end Go.Proofs.YtiiepdgpnnjpiaaDoor
end
section
namespace Go.Proofs.YtiiepdgpnnjpiaaDoor
open Go.ChangeShapes Go.WideShapes Go.ChangeAt Go.RowKit Go.Joins Go.Deep

theorem array11 {α : Type} {cs : Array α} (h : cs.size = 11) : ∃ c0 c1 c2 c3 c4 c5 c6 c7 c8 c9 c10, cs = #[c0, c1, c2, c3, c4, c5, c6, c7, c8, c9, c10] := by
  obtain ⟨l⟩ := cs
  match l, h with
  | [c0, c1, c2, c3, c4, c5, c6, c7, c8, c9, c10], _ => exact ⟨c0, c1, c2, c3, c4, c5, c6, c7, c8, c9, c10, rfl⟩
section
variable {H : Type} {enc : TypeId × Value → H} {P : Program} {w : World} {base : Nat} {spare : Nat → Bool} {held : Bool}
theorem trod_struct4 {t : TypeId} {f0 f1 f2 f3 : Field} {fuel : Nat} {cs : List Value} {x : DataW H × List MemPlace} (ht : P.underlying t = some (.struct #[f0, f1, f2, f3])) (h : DataW.trod enc P w base spare held fuel t cs = some x) :
    ∃ n, ∃ y0 y1 y2 y3, DataW.trod enc P w base spare held n f0.type ((cs.drop f0.offset).take (P.cellsOf f0.type)) = some y0 ∧
      DataW.trod enc P w base spare held n f1.type ((cs.drop f1.offset).take (P.cellsOf f1.type)) = some y1 ∧ DataW.trod enc P w base spare held n f2.type ((cs.drop f2.offset).take (P.cellsOf f2.type)) = some y2 ∧
      DataW.trod enc P w base spare held n f3.type ((cs.drop f3.offset).take (P.cellsOf f3.type)) = some y3 := by
  obtain ⟨xs, n, _, rfl, hl, hlen, hf⟩ := DataW.trod_struct ht h
  match xs, hlen with
  | [y0, y1, y2, y3], _ => exact ⟨n, y0, y1, y2, y3, by simpa using hf 0 f0 rfl, by simpa using hf 1 f1 rfl, by simpa using hf 2 f2 rfl, by simpa using hf 3 f3 rfl⟩
end
theorem cells_mem : Tryd.prog.cellsOf 25 = 7 := by kernel_rfl
theorem seven_ints {H : Type} {enc : TypeId × Value → H} {W : World} {base : Nat} {spare : Nat → Bool} {held : Bool} {n : Nat} {c0 c1 c2 c3 c4 c5 c6 : Value} {y : DataW H × List MemPlace} (h : DataW.trod enc Tryd.prog W base spare held n 25 [c0, c1, c2, c3, c4, c5, c6] = some y) :
    ∃ bc bn ic ix s d z : Int, c0 = .int .i64 bc ∧ c1 = .int .i64 bn ∧ c2 = .int .i64 ic ∧ c3 = .int .i64 ix ∧ c4 = .int .i64 s ∧ c5 = .int .i64 d ∧ c6 = .int .i64 z ∧ I64 s := by
  obtain ⟨m, y0, y1, y2, y3, y4, h0, h1, h2, h3, h4⟩ := trod_struct5 Tryd.underlying25 h
  simp only [cells_int, cells_reg, List.drop_zero, List.take_succ_cons, List.take_zero, List.drop_succ_cons] at h0 h1 h2 h3 h4
  obtain ⟨⟨a0, rfl, _⟩, a1, rfl, _⟩ := two_ints h0
  obtain ⟨⟨a2, rfl, _⟩, a3, rfl, _⟩ := two_ints h1
  obtain ⟨a4, rfl, w4⟩ := one_int h2
  obtain ⟨a5, rfl, _⟩ := one_int h3
  obtain ⟨a6, rfl, _⟩ := one_int h4
  exact ⟨a0, a1, a2, a3, a4, a5, a6, rfl, rfl, rfl, rfl, rfl, rfl, rfl, w4⟩
set_option maxRecDepth 100000 in
theorem open_arg {H : Type} {enc : TypeId × Value → H} {W : World} {v : Value} {d : DataW H} {p : List MemPlace} {r : Reach} {base : Nat}
    (hv : Value.okWide Tryd.prog W r base 27 v) (h : DataW.Trod enc Tryd.prog W 0 (fun _ => true) true 27 v d p) :
    ∃ (k rc rn bc bn ic ix s d z n : Int), v = .agg #[.int .i64 k, .int .i64 rc, .int .i64 rn, .int .i64 bc, .int .i64 bn, .int .i64 ic, .int .i64 ix, .int .i64 s, .int .i64 d, .int .i64 z, .int .i64 n] ∧ I64 s := by
  obtain ⟨cs, rfl, hsz⟩ := okWide_struct Tryd.underlying27 hv
  obtain ⟨c0, c1, c2, c3, c4, c5, c6, c7, c8, c9, c10, rfl⟩ := array11 (hsz.trans (show Tryd.prog.cellsOf 27 = 11 by kernel_rfl))
  obtain ⟨fuel, hf⟩ := h
  obtain ⟨m, y0, y1, y2, y3, h0, h1, h2, h3⟩ := trod_struct4 Tryd.underlying27 hf
  simp only [Value.cells, cells_int, cells_reg, cells_mem, List.drop_zero, List.take_succ_cons, List.take_zero, List.drop_succ_cons] at h0 h1 h2 h3
  obtain ⟨k, rfl, _⟩ := one_int h0
  obtain ⟨⟨rc, rfl, _⟩, rn, rfl, _⟩ := two_ints h1
  obtain ⟨bc, bn, ic, ix, s, d, z, rfl, rfl, rfl, rfl, rfl, rfl, rfl, w4⟩ := seven_ints h2
  obtain ⟨n, rfl, _⟩ := one_int h3
  exact ⟨k, rc, rn, bc, bn, ic, ix, s, d, z, n, rfl, w4⟩
end Go.Proofs.YtiiepdgpnnjpiaaDoor
end
