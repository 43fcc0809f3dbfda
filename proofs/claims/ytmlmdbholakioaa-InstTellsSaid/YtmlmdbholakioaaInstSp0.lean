/-
  Spellings: what both sides tell; lists of instructions in memory.
-/
import Derived.Test.YtmlmdbholakioaaInstSame
namespace Go.Proofs.Ytmlmdbholakioaa
open Go.RowKit

/-- Have two registers other numbers? -/
def nnF (l : List Ar) : Bool :=
  match l with
  | [x, y] => x.rn != y.rn
  | _ => false
def spF (op : Int) (l : List Ar) : Bool := alikeF op l && nnF l
theorem infoInst : (Try.prog.info? 24).map (fun i => (i.zero, i.size, i.bytes)) = some (some (.agg #[.int .i64 0, .slice none 0 0]), 2, 32) := by kernel_rfl
/-- A list of one instruction. -/
def SpOne (base : Nat) (w : World) (v : Value) (op : Int) (L : List Ar) : Prop :=
  ∃ sb cap A c, v = .slice (some ⟨sb, 0, none⟩) 1 cap ∧ base ≤ sb ∧ sb < w.heap.size ∧ w.cell? ⟨sb, 0, none⟩ = some (.int .i64 op) ∧ w.cell? ⟨sb, 1, none⟩ = some (.slice A L.length c) ∧ OwnA base w A L
/-- A list of two. -/
def SpTwo (base : Nat) (w : World) (v : Value) (op : Int) (L M : List Ar) : Prop :=
  ∃ sb cap A c B d, v = .slice (some ⟨sb, 0, none⟩) 2 cap ∧ base ≤ sb ∧ sb < w.heap.size ∧ w.cell? ⟨sb, 0, none⟩ = some (.int .i64 op) ∧ w.cell? ⟨sb, 1, none⟩ = some (.slice A L.length c) ∧ w.cell? ⟨sb, 2, none⟩ = some (.int .i64 op) ∧ w.cell? ⟨sb, 3, none⟩ = some (.slice B M.length d) ∧
    OwnA base w A L ∧ OwnA base w B M ∧ (∀ g, A = some ⟨g, 0, none⟩ → g ≠ sb) ∧ ∀ g, A = some ⟨g, 0, none⟩ → ∀ h, B = some ⟨h, 0, none⟩ → g ≠ h
theorem SpOne.call {base : Nat} {w w' : World} {v : Value} {op : Int} {L : List Ar} (h : SpOne base w v op L) (hb : Below w.heap.size w w') : SpOne base w' v op L := by
  obtain ⟨sb, cap, A, c, h1, h2, h3, h4, h5, h6⟩ := h
  exact ⟨sb, cap, A, c, h1, h2, Nat.lt_of_lt_of_le h3 hb.size, (hb.cell (p := ⟨sb, 0, none⟩) h3).trans h4, (hb.cell (p := ⟨sb, 1, none⟩) h3).trans h5, h6.below hb⟩
theorem SpTwo.call {base : Nat} {w w' : World} {v : Value} {op : Int} {L M : List Ar} (h : SpTwo base w v op L M) (hb : Below w.heap.size w w') : SpTwo base w' v op L M := by
  obtain ⟨sb, cap, A, c, B, d, h1, h2, h3, h4, h5, h6, h7, h8, h9, h10⟩ := h
  exact ⟨sb, cap, A, c, B, d, h1, h2, Nat.lt_of_lt_of_le h3 hb.size, (hb.cell (p := ⟨sb, 0, none⟩) h3).trans h4, (hb.cell (p := ⟨sb, 1, none⟩) h3).trans h5, (hb.cell (p := ⟨sb, 2, none⟩) h3).trans h6, (hb.cell (p := ⟨sb, 3, none⟩) h3).trans h7, h8.below hb, h9.below hb, h10⟩
theorem SpOne.mono {base base' : Nat} {w : World} {v : Value} {op : Int} {L : List Ar} (h : SpOne base w v op L) (hb : base' ≤ base) : SpOne base' w v op L := by
  obtain ⟨sb, cap, A, c, h1, h2, h3, h4, h5, h6⟩ := h
  exact ⟨sb, cap, A, c, h1, by omega, h3, h4, h5, h6.mono hb⟩
theorem SpTwo.mono {base base' : Nat} {w : World} {v : Value} {op : Int} {L M : List Ar} (h : SpTwo base w v op L M) (hb : base' ≤ base) : SpTwo base' w v op L M := by
  obtain ⟨sb, cap, A, c, B, d, h1, h2, h3, h4, h5, h6, h7, h8, h9, h10⟩ := h
  exact ⟨sb, cap, A, c, B, d, h1, by omega, h3, h4, h5, h6, h7, h8.mono hb, h9.mono hb, h10⟩
/-- Where a row of the call's own lies. -/
theorem OwnA.lt {base : Nat} {w : World} {g : Nat} {l : List Ar} (h : OwnA base w (some ⟨g, 0, none⟩) l) (hl : l ≠ []) : base ≤ g ∧ g < w.heap.size := by
  rcases h with h | ⟨g', cs, hg', hge, hgg, _⟩
  · exact absurd h hl
  · simp at hg'
    subst hg'
    exact ⟨hge, (Array.getElem?_eq_some_iff.1 hgg).1⟩
/-- What Spellings tells of an instruction that may be. -/
def SpAny (base : Nat) (w : World) (v : Value) (op : Int) (L : List Ar) : Prop := (spF op L = true → SpTwo base w v op L (swF L)) ∧ (spF op L = false → SpOne base w v op L)
theorem SpAny.one {base : Nat} {w : World} {v : Value} {op : Int} {L : List Ar} (h : spF op L = false) (h1 : SpOne base w v op L) : SpAny base w v op L := ⟨fun e => absurd (h.symm.trans e) (by decide), fun _ => h1⟩
theorem SpAny.two {base : Nat} {w : World} {v : Value} {op : Int} {L : List Ar} (h : spF op L = true) (h1 : SpTwo base w v op L (swF L)) : SpAny base w v op L := ⟨fun _ => h1, fun e => absurd (h.symm.trans e) (by decide)⟩
end Go.Proofs.Ytmlmdbholakioaa
