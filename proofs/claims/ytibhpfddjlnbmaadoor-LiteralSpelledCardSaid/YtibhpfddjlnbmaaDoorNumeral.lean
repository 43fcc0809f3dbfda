/-
  Numerals, plainly: the digits of a number in a base, the highest first.
-/
import Derived.Test.YtibhpfddjlnbmaaDoorLit
import Derived.Lib.ItoaNum
namespace Go.Proofs.YtibhpfddjlnbmaaDoor
open Go.RowKit

/-- The byte of a digit. -/
def dc (d : Nat) : Int := if d < 10 then 48 + d else 87 + d
def digs (b u : Nat) : List Int := if _h : 2 ≤ b ∧ b ≤ u then digs b (u / b) ++ [dc (u % b)] else [dc u]
termination_by u
decreasing_by exact Nat.div_lt_self (by omega) (by omega)
theorem digs_small {b u : Nat} (h : u < b) : digs b u = [dc u] := by rw [digs, dif_neg (by omega)]
theorem digs_big {b u : Nat} (hb : 2 ≤ b) (h : b ≤ u) : digs b u = digs b (u / b) ++ [dc (u % b)] := by rw [digs, dif_pos ⟨hb, h⟩]
theorem dc_range {d : Nat} (h : d < 16) : 0 ≤ dc d ∧ dc d < 256 := by unfold dc; split <;> omega
theorem digs_range {b : Nat} (hb : 2 ≤ b) (hb2 : b ≤ 16) (u : Nat) : ∀ z ∈ digs b u, 0 ≤ z ∧ z < 256 := by
  induction u using Nat.strongRecOn with
  | _ u ih =>
    intro z hz
    rcases Nat.lt_or_ge u b with h | h
    · rw [digs_small h] at hz; simp at hz; subst hz; exact dc_range (by omega)
    · rw [digs_big hb h, List.mem_append] at hz
      rcases hz with hz | hz
      · exact ih (u / b) (Nat.div_lt_self (by omega) (by omega)) z hz
      · simp at hz; subst hz; exact dc_range (by have := Nat.mod_lt u (by omega : 0 < b); omega)
theorem digs_ne (b u : Nat) : digs b u ≠ [] := by rw [digs]; split <;> simp
theorem digs_length {b : Nat} (hb : 2 ≤ b) (n : Nat) : ∀ u, u < b ^ (n + 1) → (digs b u).length ≤ n + 1 := by
  induction n with
  | zero => intro u hu; rw [digs_small (by simpa using hu)]; simp
  | succ n ih =>
    intro u hu
    rcases Nat.lt_or_ge u b with h | h
    · rw [digs_small h]; simp
    · rw [digs_big hb h, List.length_append]
      have := ih (u / b) (by rw [Nat.div_lt_iff_lt_mul (by omega), ← Nat.pow_succ]; exact hu)
      simp; omega
theorem decDigits_digs (u : Nat) : (Lib.decDigits u).map (fun b => (b.toNat : Int)) = digs 10 u := by
  induction u using Nat.strongRecOn with
  | _ u ih =>
    rcases Nat.lt_or_ge u 10 with h | h
    · rw [Lib.decDigits_one h, digs_small h]
      simp [dc, h]; omega
    · rw [Lib.decDigits, dif_neg (by omega), digs_big (by omega) h, List.map_append, ih _ (Nat.div_lt_self (by omega) (by omega))]
      have : u % 10 < 10 := Nat.mod_lt _ (by omega)
      simp [dc, this]; omega
/-- A number's size. -/
def mag (n : Int) : Nat := n.natAbs
/-- What Hex and Dec tell. -/
def told (b : Nat) (before : List Int) (n : Int) : List Int := (if n < 0 then 45 :: before else before) ++ digs b (mag n)
def hexT (n : Int) : List Int := told 16 [48, 120] n
def decT (n : Int) : List Int := told 10 [] n
theorem told_range {b : Nat} (hb : 2 ≤ b) (hb2 : b ≤ 16) {before : List Int} (h : ∀ z ∈ before, 0 ≤ z ∧ z < 256) (n : Int) : ∀ z ∈ told b before n, 0 ≤ z ∧ z < 256 := by
  intro z hz
  unfold told at hz
  rw [List.mem_append] at hz
  rcases hz with hz | hz
  · split at hz
    · rcases List.mem_cons.1 hz with rfl | hz
      · omega
      · exact h z hz
    · exact h z hz
  · exact digs_range hb hb2 _ z hz
end Go.Proofs.YtibhpfddjlnbmaaDoor
