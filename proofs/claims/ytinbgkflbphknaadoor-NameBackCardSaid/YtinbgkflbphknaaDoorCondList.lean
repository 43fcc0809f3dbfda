/-
  A condition's names: the program's list of them, a name's place in it.
-/
import Derived.Test.YtinbgkflbphknaaDoorCondNames
namespace Go.Proofs.YtinbgkflbphknaaDoor
open Go.RowKit

theorem row1 {h : Nat} {a : ByteArray} {w : World} (h0 : w.cell? ⟨h, 0, none⟩ = some (.string a)) : Row h [a] w := by
  refine ⟨World.block_lt_of_cell? w _ h0, fun i b hi => ?_⟩
  rcases i with _ | i
  · simp at hi; subst hi; exact h0
  · simp at hi
theorem row2 {h : Nat} {a b : ByteArray} {w : World} (h0 : w.cell? ⟨h, 0, none⟩ = some (.string a)) (h1 : w.cell? ⟨h, 1, none⟩ = some (.string b)) : Row h [a, b] w := by
  refine ⟨World.block_lt_of_cell? w _ h0, fun i b hi => ?_⟩
  rcases i with _ | _ | i
  · simp at hi; subst hi; exact h0
  · simp at hi; subst hi; exact h1
  · simp at hi
theorem row3 {h : Nat} {a b c : ByteArray} {w : World} (h0 : w.cell? ⟨h, 0, none⟩ = some (.string a)) (h1 : w.cell? ⟨h, 1, none⟩ = some (.string b)) (h2 : w.cell? ⟨h, 2, none⟩ = some (.string c)) : Row h [a, b, c] w := by
  refine ⟨World.block_lt_of_cell? w _ h0, fun i b hi => ?_⟩
  rcases i with _ | _ | _ | i
  · simp at hi; subst hi; exact h0
  · simp at hi; subst hi; exact h1
  · simp at hi; subst hi; exact h2
  · simp at hi
theorem index_at {xs : Array Value} {k : Nat} {v : Value} (h : xs[k]? = some v) (hk : k < 16) (w : World) :
    (Instr.index 45 (.agg xs) (.int .i64 (k : Int))).run Tryd.prog w = .ok v w := by
  have h1 : (0 : Int) ≤ k ∧ (k : Int) < (16 : Nat) := by omega
  simp [Instr.index, run_underlying Tryd.underlying45, asIntOf, h1, go_sem, h, part]
  intro; omega
theorem names_any (w : World) :
    Calls Tryd.prog 29 #[] w fun e w' => ∃ xs : Array Value, e = .returned (.agg xs) ∧ Hid (∀ k : Nat, k < 16 → ∃ h, xs[k]? = some (SL h (NB k).length) ∧ w.heap.size ≤ h ∧ Row h (NB k) w') ∧ Hid (Free w w') ∧ Below w.heap.size w w' := by
  refine (names_raw w).mono fun e w' ⟨he, ⟨c0_0, c1_0, c2_0, c2_1, c2_2, c3_0, c3_1, c3_2, c4_0, c4_1, c5_0, c5_1, c6_0, c6_1, c7_0, c7_1, c8_0, c9_0, c10_0, c10_1, c11_0, c11_1, c12_0, c12_1, c13_0, c13_1, c14_0, c14_1, c15_0, c15_1⟩, hf, hb⟩ => ⟨_, he, hid fun k hk => ?_, hid hf, hb⟩
  have : k = 0 ∨ k = 1 ∨ k = 2 ∨ k = 3 ∨ k = 4 ∨ k = 5 ∨ k = 6 ∨ k = 7 ∨ k = 8 ∨ k = 9 ∨ k = 10 ∨ k = 11 ∨ k = 12 ∨ k = 13 ∨ k = 14 ∨ k = 15 := by omega
  rcases this with rfl | rfl | rfl | rfl | rfl | rfl | rfl | rfl | rfl | rfl | rfl | rfl | rfl | rfl | rfl | rfl
  · exact ⟨_, rfl, by omega, row1 c0_0⟩
  · exact ⟨_, rfl, by omega, row1 c1_0⟩
  · exact ⟨_, rfl, by omega, row3 c2_0 c2_1 c2_2⟩
  · exact ⟨_, rfl, by omega, row3 c3_0 c3_1 c3_2⟩
  · exact ⟨_, rfl, by omega, row2 c4_0 c4_1⟩
  · exact ⟨_, rfl, by omega, row2 c5_0 c5_1⟩
  · exact ⟨_, rfl, by omega, row2 c6_0 c6_1⟩
  · exact ⟨_, rfl, by omega, row2 c7_0 c7_1⟩
  · exact ⟨_, rfl, by omega, row1 c8_0⟩
  · exact ⟨_, rfl, by omega, row1 c9_0⟩
  · exact ⟨_, rfl, by omega, row2 c10_0 c10_1⟩
  · exact ⟨_, rfl, by omega, row2 c11_0 c11_1⟩
  · exact ⟨_, rfl, by omega, row2 c12_0 c12_1⟩
  · exact ⟨_, rfl, by omega, row2 c13_0 c13_1⟩
  · exact ⟨_, rfl, by omega, row2 c14_0 c14_1⟩
  · exact ⟨_, rfl, by omega, row2 c15_0 c15_1⟩
/-- The names of any number; none if it is no condition. -/
def namesF (n : Int) : List ByteArray := if isF n then NB n.toNat else []
/-- Its own name; nothing if it is no condition. -/
def ownF (n : Int) : ByteArray := (namesF n).headD ByteArray.empty
theorem NB_length (k : Nat) (hk : k < 16) : 1 ≤ (NB k).length ∧ (NB k).length ≤ 3 := by
  have : ∀ k : Fin 16, 1 ≤ (NB k.val).length ∧ (NB k.val).length ≤ 3 := by decide
  exact this ⟨k, hk⟩
theorem namesF_in {k : Nat} (hk : k < 16) : namesF (k : Int) = NB k := by
  unfold namesF; rw [if_pos (by simp [isF]; omega)]; rfl
theorem isF_nat {n : Int} (h : isF n = true) : ∃ k : Nat, n = k ∧ k < 16 := by
  simp [isF] at h; exact ⟨n.toNat, by omega, by omega⟩
theorem nat_isF {k : Nat} (hk : k < 16) : isF (k : Int) = true := by simp [isF]; omega
/-- A list of strings that a slice reads as. -/
def Strs (B : Nat) (A : Option Addr) (l : List ByteArray) (w : World) : Prop := (l = [] ∧ A = none) ∨ ∃ h, A = some ⟨h, 0, none⟩ ∧ B ≤ h ∧ Row h l w
theorem Strs.below {B : Nat} {A : Option Addr} {l : List ByteArray} {w w' : World} (hs : Strs B A l w) (hb : Below w.heap.size w w') : Strs B A l w' := by
  rcases hs with h | ⟨h, h1, h2, h3⟩
  · exact .inl h
  · exact .inr ⟨h, h1, h2, h3.below hb⟩
theorem cnames_any (n : Int) (w : World) :
    Calls Tryd.prog 20 #[.int .i64 n] w fun e w' => ∃ A, e = .returned (.slice A (namesF n).length (namesF n).length) ∧ Hid (Strs w.heap.size A (namesF n) w') ∧ Hid (Free w w') ∧ Below w.heap.size w w' := by
  cases h : isF n
  · have H := hid (show namesF n = [] by simp [namesF, h])
    have H1 := hid h
    clear h
    go_enter Tryd.func20, Tryd.ntmps20
    go_wp2_with (go_at_call 28; refine (is_of H1.out _).mono ?_; rintro e w1 ⟨rfl, rfl⟩)
    go_returns
    exact ⟨none, by simp [H.out], hid (.inl ⟨H.out, rfl⟩), hid (Free.refl _), Below.refl _ _⟩
  · obtain ⟨k, rfl, hk⟩ := isF_nat h
    clear h
    go_enter Tryd.func20, Tryd.ntmps20
    go_wp2_with (first | (go_at_call 28; refine (is_of (nat_isF hk) _).mono ?_; rintro e w1 ⟨rfl, rfl⟩) | (go_at_call 29; refine (names_any _).mono ?_; rintro e w1 ⟨xs, rfl, HX, HF, hb1⟩; obtain ⟨h, hx, hge, hrow⟩ := HX.out k hk; have ix := index_at hx hk; have HR := hid hrow; clear hx hrow))
    go_returns
    exact ⟨_, by rw [namesF_in hk]; rfl, hid (.inr ⟨h, rfl, hge, by rw [namesF_in hk]; exact HR.out⟩), HF, hb1⟩
end Go.Proofs.YtinbgkflbphknaaDoor
