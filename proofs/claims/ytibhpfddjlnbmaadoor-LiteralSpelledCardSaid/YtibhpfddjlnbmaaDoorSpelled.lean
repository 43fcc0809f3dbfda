/-
  The walk of LiteralSpelled.
-/
import Derived.Test.YtibhpfddjlnbmaaDoorIs
import Derived.Test.YtibhpfddjlnbmaaDoorSpell
import Derived.Maps.AppendAt
namespace Go.Proofs.YtibhpfddjlnbmaaDoor
open Go.RowKit

/-- Two rows lie in two blocks. -/
def Apart (v u : Value) : Prop := ∀ g, v.ownBlock = some g → u.ownBlock ≠ some g
theorem Apart.symm {v u : Value} (h : Apart v u) : Apart u v := fun g h1 h2 => h g h2 h1
theorem Apart.kept {v u : Value} (h : Apart v u) : u.ownBlock = none ∨ u.ownBlock ≠ v.ownBlock := by
  cases hu : u.ownBlock with
  | none => exact .inl rfl
  | some g => exact .inr fun e => h g e.symm hu
theorem Apart.next {v u v' : Value} {S T : Nat} (h : Apart v u) (hlt : ∀ g, u.ownBlock = some g → g < S) (hST : S ≤ T) (hat : v'.ownBlock = v.ownBlock ∨ v'.ownBlock = some T) : Apart v' u := by
  intro g h1 h2
  rcases hat with e | e
  · exact h g (by rw [← e]; exact h1) h2
  · have := hlt g h2
    rw [h1] at e
    cases e
    omega
theorem Apart.nil (v : Value) : Apart v (.slice none 0 0) := fun g _ h => by simp [Value.ownBlock] at h
theorem take_ch {s : ByteArray} {k E : Nat} (hk : k < E) (hE : E ≤ s.size) : ((nums s).take E).take (k + 1) = ((nums s).take E).take k ++ [ch s k] := by
  have hl : k < ((nums s).take E).length := by rw [List.length_take, nums_length]; omega
  rw [List.take_succ_eq_append_getElem hl]
  congr 2
  have : k < (nums s).length := by rw [nums_length]; omega
  unfold ch
  rw [List.getElem_take, List.getElem?_eq_getElem this]
  rfl
theorem spelled_out (s : ByteArray) (w : World) (ht : Tabs w) (hs : s.size ≤ 9223372036854775807) (h : s.size = 0 ∨ 100 < s.size ∨ ch s 0 < 48 ∨ 57 < ch s 0) :
    Calls Tryd.prog 6 #[.string s] w fun e w' => e = .returned (.bool true) ∧ Below w.heap.size w w' := by
  have HT := hid ht
  clear ht
  have hb := get_ch s
  by_cases h0 : s.size = 0
  · go_enter Tryd.func6, Tryd.ntmps6
    go_wp2_with (go_at_call 11; refine (awake_any _ HT.out).mono ?_; rintro e w1 ⟨rfl, hb1⟩)
    go_ret
    exact ⟨rfl, hb1⟩
  · have e0 : ((s.size : Int) == 0) = false := beq_eq_false_iff_ne.2 (by omega)
    by_cases h1 : 100 < s.size
    · go_enter Tryd.func6, Tryd.ntmps6
      go_wp2_with (go_at_call 11; refine (awake_any _ HT.out).mono ?_; rintro e w1 ⟨rfl, hb1⟩)
      go_ret
      exact ⟨rfl, hb1⟩
    · have hp : 0 < s.size := by omega
      rcases (show ch s 0 < 48 ∨ 57 < ch s 0 by omega) with h2 | h2
      all_goals
        clear h
        go_enter Tryd.func6, Tryd.ntmps6
        go_wp2_with (go_at_call 11; refine (awake_any _ HT.out).mono ?_; rintro e w1 ⟨rfl, hb1⟩)
        go_ret
        exact ⟨rfl, hb1⟩
set_option maxHeartbeats 2000000 in
set_option maxRecDepth 100000 in
theorem spelled_bad (s : ByteArray) (w : World) (ht : Tabs w) (h0 : 0 < s.size) (h1 : s.size ≤ 100) (h2 : 48 ≤ ch s 0) (h3 : ch s 0 ≤ 57) (er p : Int) (h : scan (nums s) 0 = (0, 0, er, p)) (he : er ≠ 0) (hp : 0 ≤ p) (hps : p ≤ s.size) :
    Calls Tryd.prog 6 #[.string s] w fun e w' => e = .returned (.bool true) ∧ Below w.heap.size w w' := by
  have HT := hid ht
  have hb := get_ch s
  have hc : ∀ w, Calls Tryd.prog 9 #[.string s, .int .i64 0] w fun e w' => e = .returned (.tuple #[.int .i64 0, .int .i64 0, .agg #[.int .i64 er, .int .i64 p]]) ∧ Below w.heap.size w w' := fun w => by
    have := scan_any s 0 w (by omega)
    rw [h] at this
    exact this
  have C := hid hc
  have e0 : ((s.size : Int) == 0) = false := beq_eq_false_iff_ne.2 (by omega)
  have e1 : (er == 0) = false := by simp [he]
  have e2 : (er != 0) = true := by simp [he]
  clear ht h hc he
  go_enter Tryd.func6, Tryd.ntmps6
  go_wp2_with (first | (go_at_call 11; refine (awake_any _ HT.out).mono ?_; rintro e w1 ⟨rfl, hb1⟩) | (go_at_call 9; (with_reducible refine (C.out _).mono ?_); rintro e w2 ⟨rfl, hb2⟩))
  go_ret
  exact ⟨rfl, (hb1.trans (hb2.mono hb1.size)).alloc (Nat.le_trans hb1.size hb2.size) _⟩
end Go.Proofs.YtibhpfddjlnbmaaDoor
