/-
  Operands, plainly: a canon may be, is its own, is the same; what does not count does not matter.
-/
import Derived.Test.YtnchamgnllnflaaCanonOwn
import Derived.Test.YtnchamgnllnflaaArgSame
namespace Go.Proofs.Ytnchamgnllnflaa
open Go.RowKit

theorem eqA_refl (p : Ar) : eqA p p = true := by simp [eqA]
theorem aout_reg {rc rn n : Int} {m : Pl} (h : argF ⟨1, rc, rn, m, n⟩ = 0) : aoutF ⟨1, rc, rn, m, n⟩ = ⟨1, rc, rn, ⟨0, 0, 0, 0, 0, 0, 0⟩, 0⟩ := by
  unfold aoutF; rw [if_pos h, if_pos rfl]
theorem aout_mem {rc rn n : Int} {m : Pl} (h : argF ⟨2, rc, rn, m, n⟩ = 0) : aoutF ⟨2, rc, rn, m, n⟩ = ⟨2, 0, 0, canonF m, 0⟩ := by
  have hc : checkF m = 0 := by simpa [argF] using h
  unfold aoutF; rw [if_pos h, if_neg (by simp), if_pos rfl, outF_is hc]
theorem aout_rest {k rc rn n : Int} {m : Pl} (h1 : ¬ k = 1) (h2 : ¬ k = 2) (h : argF ⟨k, rc, rn, m, n⟩ = 0) : aoutF ⟨k, rc, rn, m, n⟩ = ⟨k, 0, 0, ⟨0, 0, 0, 0, 0, 0, 0⟩, n⟩ := by
  unfold aoutF; rw [if_pos h, if_neg h1, if_neg h2]
theorem aout_not {a : Ar} (h : ¬ argF a = 0) : aoutF a = ⟨0, 0, 0, ⟨0, 0, 0, 0, 0, 0, 0⟩, 0⟩ := by unfold aoutF; rw [if_neg h]
theorem asizeF_not {a : Ar} (h : ¬ argF a = 0) : asizeF a = 0 := by unfold asizeF; rw [if_neg h]
theorem asame_not {a b : Ar} (h : ¬ argF a = 0) : asameF a b = false := by simp [asameF, h]
/-- Of what counts in it alone an operand is told. -/
theorem reg_same (rc rn : Int) (m m' : Pl) (n n' : Int) : argF ⟨1, rc, rn, m, n⟩ = argF ⟨1, rc, rn, m', n'⟩ := rfl
theorem mem_same (m : Pl) (rc rn n rc' rn' n' : Int) : argF ⟨2, rc, rn, m, n⟩ = argF ⟨2, rc', rn', m, n'⟩ := rfl
theorem rest_same {k : Int} (h1 : ¬ k = 1) (h2 : ¬ k = 2) (n rc rn rc' rn' : Int) (m m' : Pl) : argF ⟨k, rc, rn, m, n⟩ = argF ⟨k, rc', rn', m', n⟩ := by
  simp [argF, h1, h2]
theorem asame_of_out {a b : Ar} (ha : argF a = 0) (hb : argF b = 0) (h : aoutF a = aoutF b) : asameF a b = true := by simp [asameF, ha, hb, h, eqA_refl]
end Go.Proofs.Ytnchamgnllnflaa
