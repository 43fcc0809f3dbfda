/-
  The ways in which an operand is laid, plainly: heads, displacements, ways; and what bytes tell.
-/
import Derived.Test.YtiiepdgpnnjpiaaDoorArgs
import Derived.Test.YtiiepdgpnnjpiaaDoorFBack
namespace Go.Proofs.YtiiepdgpnnjpiaaDoor
open Go.RowKit

/-- A way: its bytes, X, B. -/
structure Way where
  bs : List Int
  x : Int
  b : Int
/-- What stands ahead of a displacement, but for mod and the middle field. -/
structure Hd where
  rm : Int
  sib : List Int
  x : Int
  b : Int
  base : Int
  alone : Bool
def sibF (ic ix s base : Int) : List Int := if noneF ic ix then [32 + base] else [64 * shiftF s + 8 * lowF ic ix + base]
def indexedH (ic ix s : Int) : Hd := ⟨4, sibF ic ix s 5, highF ic ix, 0, 0, true⟩
def basedH (bc bn ic ix s : Int) : Hd := ⟨4, sibF ic ix s (lowF bc bn), highF ic ix, highF bc bn, lowF bc bn, false⟩
def headsF (m : Pl) : List Hd :=
  if m.bc = 8 then [⟨5, [], 0, 0, 0, true⟩]
  else if noneF m.bc m.bn then [indexedH m.ic m.ix m.s]
  else if noneF m.ic m.ix = false then [basedH m.bc m.bn m.ic m.ix m.s]
  else (if lowF m.bc m.bn = 4 then [] else [⟨lowF m.bc m.bn, [], 0, highF m.bc m.bn, lowF m.bc m.bn, false⟩]) ++ basedH m.bc m.bn 0 0 0 :: (if m.bn = 4 then [] else [indexedH m.bc m.bn 1])
/-- The displacements: each with its mod. -/
def tailsF (alone : Bool) (base d : Int) : List (Int × List Int) :=
  if alone then [(0, bytesOf d 4)] else (if d = 0 ∧ ¬ base = 5 then [(0, [])] else []) ++ (if fitsB d 8 then [(1, bytesOf d 1)] else []) ++ [(2, bytesOf d 4)]
def wayF (f : Int) (h : Hd) (t : Int × List Int) : Way := ⟨(64 * t.1 + 8 * f + h.rm) :: (h.sib ++ t.2), h.x, h.b⟩
def waysF (f : Int) (m : Pl) : List Way := (headsF m).flatMap fun h => (tailsF h.alone h.base m.d).map (wayF f h)
def regWay (f rc rn : Int) : Way := ⟨[192 + 8 * f + lowF rc rn], 0, highF rc rn⟩
/-- The error, and the ways. -/
def allE (f : Int) (a : Ar) : Int := if f < 0 ∨ 7 < f then 5 else if argF a = 0 then (if a.k = 1 ∨ a.k = 2 then 0 else 2) else argF a
def allF (f : Int) (a : Ar) : List Way := if allE f a = 0 then (if a.k = 1 then [regWay f a.rc a.rn] else waysF f (canonF a.m)) else []

theorem shiftF_range (s : Int) : 0 ≤ shiftF s ∧ shiftF s ≤ 3 := by unfold shiftF; (repeat' split) <;> omega
theorem low_range (c n : Int) : 0 ≤ lowF c n ∧ lowF c n ≤ 7 := by unfold lowF; split <;> omega
theorem high_range (c n : Int) : 0 ≤ highF c n ∧ highF c n ≤ 1 := by
  unfold highF
  split
  · rename_i h; have := validF_n h; omega
  · omega
theorem sibF_bytes (ic ix s base : Int) (h : 0 ≤ base ∧ base ≤ 7) : isBytes (sibF ic ix s base) ∧ (sibF ic ix s base).length = 1 := by
  have h1 := shiftF_range s
  have h2 := low_range ic ix
  unfold sibF isBytes
  split
  · refine ⟨fun z hz => ?_, rfl⟩
    simp at hz; omega
  · refine ⟨fun z hz => ?_, rfl⟩
    simp at hz; omega
/-- A head as it may be. -/
structure HdOk (h : Hd) : Prop where
  rm : 0 ≤ h.rm ∧ h.rm ≤ 7
  sib : isBytes h.sib ∧ h.sib.length ≤ 1
  x : 0 ≤ h.x ∧ h.x ≤ 1
  b : 0 ≤ h.b ∧ h.b ≤ 1
  base : 0 ≤ h.base ∧ h.base ≤ 7
theorem indexedH_ok (ic ix s : Int) : HdOk (indexedH ic ix s) :=
  ⟨by simp [indexedH], ⟨(sibF_bytes ic ix s 5 (by omega)).1, by simp [indexedH, (sibF_bytes ic ix s 5 (by omega)).2]⟩, high_range _ _, by simp [indexedH], by simp [indexedH]⟩
theorem basedH_ok (bc bn ic ix s : Int) : HdOk (basedH bc bn ic ix s) :=
  ⟨by simp [basedH], ⟨(sibF_bytes ic ix s _ (low_range bc bn)).1, by simp [basedH, (sibF_bytes ic ix s _ (low_range bc bn)).2]⟩, high_range _ _, high_range _ _, low_range _ _⟩
theorem headsF_ok (m : Pl) : ∀ h ∈ headsF m, HdOk h := by
  intro h hh
  unfold headsF at hh
  split at hh
  · simp at hh; subst hh; exact ⟨by simp, by simp [isBytes], by simp, by simp, by simp⟩
  split at hh
  · simp at hh; subst hh; exact indexedH_ok _ _ _
  split at hh
  · simp at hh; subst hh; exact basedH_ok _ _ _ _ _
  · simp only [List.mem_append, List.mem_cons] at hh
    rcases hh with hh | rfl | hh
    · split at hh
      · cases hh
      · simp at hh; subst hh; exact ⟨low_range _ _, by simp [isBytes], by simp, high_range _ _, low_range _ _⟩
    · exact basedH_ok _ _ _ _ _
    · split at hh
      · cases hh
      · simp at hh; subst hh; exact indexedH_ok _ _ _
theorem headsF_len (m : Pl) : 1 ≤ (headsF m).length ∧ (headsF m).length ≤ 3 := by
  unfold headsF
  (repeat' split) <;> simp
theorem tailsF_ok (al : Bool) (base d : Int) : ∀ t ∈ tailsF al base d, 0 ≤ t.1 ∧ t.1 ≤ 2 ∧ isBytes t.2 ∧ t.2.length ≤ 4 := by
  intro t ht
  have h4 : isBytes (bytesOf d 4) := bytesOf_range d 4
  have h1 : isBytes (bytesOf d 1) := bytesOf_range d 1
  unfold tailsF at ht
  split at ht
  · simp at ht; subst ht; exact ⟨by simp, by simp, h4, by simp [bytesOf_length]⟩
  · simp only [List.mem_append] at ht
    rcases ht with (ht | ht) | ht
    · split at ht
      · simp at ht; subst ht; exact ⟨by simp, by simp, by simp [isBytes], by simp⟩
      · cases ht
    · split at ht
      · simp at ht; subst ht; exact ⟨by simp, by simp, h1, by simp [bytesOf_length]⟩
      · cases ht
    · simp at ht; subst ht; exact ⟨by simp, by simp, h4, by simp [bytesOf_length]⟩
theorem tailsF_len (al : Bool) (base d : Int) : 1 ≤ (tailsF al base d).length ∧ (tailsF al base d).length ≤ 3 := by
  unfold tailsF
  (repeat' split) <;> simp
theorem wayF_bytes {f : Int} {h : Hd} {t : Int × List Int} (hf : 0 ≤ f ∧ f ≤ 7) (hh : HdOk h) (ht : 0 ≤ t.1 ∧ t.1 ≤ 2 ∧ isBytes t.2 ∧ t.2.length ≤ 4) : isBytes (wayF f h t).bs := by
  intro z hz
  simp only [wayF, List.mem_cons, List.mem_append] at hz
  have := hh.rm
  rcases hz with rfl | hz | hz
  · omega
  · exact hh.sib.1 z hz
  · exact ht.2.2.1 z hz

/-! ### what bytes tell -/
/-- The middle field, a register's number, a place, how many bytes. -/
structure Sn where
  f : Int
  r : Int
  m : Pl
  n : Nat
def zeroM : Pl := ⟨0, 0, 0, 0, 0, 0, 0⟩
/-- The error, the registers of a place, how many bytes of SIB. -/
def regsF (mod rm x b : Int) (l : List Int) : Int × Pl × Nat :=
  if rm = 4 then
    match l with
    | [] => (9, zeroM, 0)
    | s :: _ =>
      if s / 8 % 8 + 8 * x = 4 ∧ ¬ s / 64 = 0 ∨ mod = 0 ∧ s % 8 = 5 ∧ b = 1 then (4, zeroM, 1)
      else (0, ⟨if mod = 0 ∧ s % 8 = 5 then 0 else 5, if mod = 0 ∧ s % 8 = 5 then 0 else 8 * b + s % 8, if s / 8 % 8 + 8 * x = 4 then 0 else 5, if s / 8 % 8 + 8 * x = 4 then 0 else 8 * x + s / 8 % 8, if s / 8 % 8 + 8 * x = 4 then 0 else 2 ^ (s / 64).toNat, 0, 0⟩, 1)
  else if x = 1 ∨ mod = 0 ∧ rm = 5 ∧ b = 1 then (4, zeroM, 0)
  else if mod = 0 ∧ rm = 5 then (0, ⟨8, 0, 0, 0, 0, 0, 0⟩, 0)
  else (0, ⟨5, 8 * b + rm, 0, 0, 0, 0, 0⟩, 0)
def widthF (mod : Int) : Nat := if mod = 1 then 1 else if mod = 2 then 4 else 0
def dispN (l : List Int) (k n : Nat) : Int := if n = 0 then 0 else getN l k n true
/-- The error, a place's canon, how many bytes behind ModRM. -/
def placeF (mod rm x b : Int) (l : List Int) : Int × Pl × Nat :=
  let r := regsF mod rm x b l
  if r.1 = 0 then
    let n := widthF (if r.2.1.bc = 5 then mod else 2)
    if l.length < r.2.2 + n then (9, zeroM, 0) else (0, canonF { r.2.1 with d := dispN l r.2.2 n }, r.2.2 + n)
  else (r.1, zeroM, 0)
def zeroS : Sn := ⟨0, 0, zeroM, 0⟩
def readF (x b : Int) (l : List Int) : Int × Sn :=
  match l with
  | [] => (9, zeroS)
  | c :: r =>
    if c / 64 = 3 then (if x = 1 then (4, zeroS) else (0, ⟨c / 8 % 8, 8 * b + c % 8, zeroM, 1⟩))
    else
      let p := placeF (c / 64) (c % 8) x b r
      if p.1 = 0 then (0, ⟨c / 8 % 8, -1, p.2.1, 1 + p.2.2⟩) else (p.1, zeroS)
end Go.Proofs.YtiiepdgpnnjpiaaDoor
