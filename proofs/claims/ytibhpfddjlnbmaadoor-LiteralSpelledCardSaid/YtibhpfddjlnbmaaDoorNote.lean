/-
  The base of a word, and where its digits stand.
-/
import Derived.Test.YtibhpfddjlnbmaaDoorWord
import Derived.Outline
namespace Go.Proofs.YtibhpfddjlnbmaaDoor
open Go.RowKit

def lo (c : Int) : Int := if 65 ≤ c ∧ c ≤ 90 then c + 32 else c
theorem lower2 (s : ByteArray) (w : World) (h : 2 ≤ s.size) (h0 : ch s 0 < 128) (h1 : ch s 1 < 128) :
    Calls Tryd.prog 35 #[.string (s.extract 0 2)] w fun e w' => ∃ B : ByteArray, e = .returned (.string B) ∧ nums B = [lo (ch s 0), lo (ch s 1)] ∧ Below w.heap.size w w' := by
  have hn : nums (s.extract 0 2) = [ch s 0, ch s 1] := by
    rw [nums_extract, List.drop_zero]
    have e0 := drop_ch s 0 (by omega)
    have e1 := drop_ch s 1 (by omega)
    rw [List.drop_zero] at e0
    rw [e0, e1]; rfl
  have hl : (s.extract 0 2).data.toList.length = 2 := by
    have := congrArg List.length hn
    rw [nums_length] at this
    exact this
  obtain ⟨b0, b1, hb⟩ : ∃ b0 b1, (s.extract 0 2).data.toList = [b0, b1] := by
    match (s.extract 0 2).data.toList, hl with
    | [x, y], _ => exact ⟨x, y, rfl⟩
  have hn' := hn
  unfold nums at hn'
  rw [hb] at hn'
  simp only [List.map_cons, List.map_nil, List.cons.injEq, and_true] at hn'
  have low : ∀ b : UInt8, ((Lib.lowerB b).toNat : Int) = lo (b.toNat : Int) := fun b => by
    cases hu : Lib.isUpperB b
    · rw [Lib.lowerB_of_not b hu]
      rw [Lib.isUpperB_int] at hu
      unfold lo; simp at hu; split <;> omega
    · rw [Lib.lowerB_int b hu]
      rw [Lib.isUpperB_int] at hu
      unfold lo; simp at hu; rw [if_pos (by omega)]
  refine (Tryd.strings_ToLower_ascii (s.extract 0 2) w ?_ ?_).mono fun e w' he => ⟨_, he.1, ?_, he.2⟩
  · have : (s.extract 0 2).size = 2 := hl
    omega
  · intro j b hj
    rw [hb] at hj
    rcases j with _ | _ | j
    · simp at hj; subst hj; omega
    · simp at hj; subst hj; omega
    · simp at hj
  · unfold nums Lib.toLowerA
    rw [hb]
    simp [low, hn'.1, hn'.2]
theorem note_big {s : ByteArray} (h : 2 < s.size) : note (nums s) =
    if (ch s 0 == 48 && (ch s 1 == 120 || ch s 1 == 88)) = true then (16, 2, s.size)
    else if (ch s (s.size - 1) == 104 || ch s (s.size - 1) == 72) = true then (16, 0, s.size - 1)
    else if (ch s 0 == 48 && (ch s 1 == 98 || ch s 1 == 66)) = true then (2, 2, s.size)
    else if (ch s 0 == 48 && (ch s 1 == 111 || ch s 1 == 79)) = true then (8, 2, s.size) else (10, 0, s.size) := by
  unfold note ch
  simp only [nums_length, h, decide_true, Bool.true_and]
theorem note_small {s : ByteArray} (h : ¬ 2 < s.size) : note (nums s) =
    if (ch s (s.size - 1) == 104 || ch s (s.size - 1) == 72) = true then (16, 0, s.size - 1) else (10, 0, s.size) := by
  unfold note ch
  simp only [nums_length, h, decide_false, Bool.false_and]
  simp
theorem toList_nums (B : ByteArray) : B.toList.map (fun b => (b.toNat : Int)) = nums B := by rw [ByteArray.toList_eq]; rfl
theorem two_eq {B : ByteArray} {c0 c1 : Int} (h : nums B = [lo c0, lo c1]) (a b : UInt8) (A : Int) (hA : (a.toNat : Int) = A) (m M : Int) (hb : (b.toNat : Int) = m) (hlo : ∀ c, lo c = m ↔ c = m ∨ c = M) (h0 : ∀ c, lo c = A ↔ c = A) :
    (B.toList == [a, b]) = (c0 == A && (c1 == m || c1 == M)) := by
  have e : B.toList.map (fun b => (b.toNat : Int)) = [lo c0, lo c1] := by rw [toList_nums, h]
  have inj : ∀ x y : UInt8, (x.toNat : Int) = y.toNat → x = y := fun x y h => UInt8.toNat_inj.1 (by omega)
  rw [Bool.eq_iff_iff]
  simp only [beq_iff_eq, Bool.and_eq_true, Bool.or_eq_true]
  rw [← hlo, ← h0]
  constructor
  · intro hl
    rw [hl] at e
    simp only [List.map_cons, List.map_nil, List.cons.injEq, and_true] at e
    exact ⟨by rw [← e.1, hA], by rw [← e.2, hb]⟩
  · rintro ⟨h1, h2⟩
    rw [h1, h2, ← hA, ← hb] at e
    rcases hl : B.toList with _ | ⟨x, _ | ⟨y, _ | ⟨z, r⟩⟩⟩
    · rw [hl] at e; simp at e
    · rw [hl] at e; simp at e
    · rw [hl] at e
      simp only [List.map_cons, List.map_nil, List.cons.injEq, and_true] at e
      rw [inj x a e.1, inj y b e.2]
    · rw [hl] at e; simp at e
theorem ch_low {s : ByteArray} (hw : ∀ z ∈ nums s, z < 128) (k : Nat) : ch s k < 128 := by
  unfold ch
  rcases Nat.lt_or_ge k (nums s).length with h | h
  · rw [List.getElem?_eq_getElem h]; exact hw _ (List.getElem_mem h)
  · rw [List.getElem?_eq_none h]; simp
theorem note_any (s : ByteArray) (w : World) (hs : s.size ≤ 9223372036854775807) (h1 : 1 ≤ s.size) (hw : ∀ z ∈ nums s, z < 128) :
    Calls Tryd.prog 30 #[.string s] w fun e w' => e = .returned (.tuple #[.int .u64 (note (nums s)).1, .int .i64 ((note (nums s)).2.1 : Int), .int .i64 ((note (nums s)).2.2 : Int)]) ∧ Below w.heap.size w w' := by
  have hb := get_ch s
  have l0 := ch_low hw 0
  have l1 := ch_low hw 1
  clear hw
  by_cases h2 : 2 < s.size
  · have L0 := hid l0
    have L1 := hid l1
    have HN := hid (note_big h2)
    clear l0 l1
    cases e1 : ch s (s.size - 1) == 104
    all_goals
      cases e2 : ch s (s.size - 1) == 72
      all_goals
        have E1 := hid e1
        have E2 := hid e2
        go_enter Tryd.func30, Tryd.ntmps30
        go_wp2_with (go_at_call 35; refine (lower2 _ _ (by omega) L0.out L1.out).mono ?_; rintro e w1 ⟨B, rfl, hB, hbel⟩)
        all_goals
          have EX := two_eq hB 48 120 48 rfl 120 88 rfl (by intro c; unfold lo; split <;> omega) (by intro c; unfold lo; split <;> omega)
          have EB := two_eq hB 48 98 48 rfl 98 66 rfl (by intro c; unfold lo; split <;> omega) (by intro c; unfold lo; split <;> omega)
          have EO := two_eq hB 48 111 48 rfl 111 79 rfl (by intro c; unfold lo; split <;> omega) (by intro c; unfold lo; split <;> omega)
          go_returns
          refine ⟨?_, hbel⟩
          rw [HN.out, ← EX, ← EB, ← EO, E1.out, E2.out]
          first | (simp [*]; done) | (simp [*]; omega)
  · have HN := hid (note_small h2)
    clear l0 l1
    cases e1 : ch s (s.size - 1) == 104
    all_goals
      cases e2 : ch s (s.size - 1) == 72
      all_goals
        have E1 := hid e1
        have E2 := hid e2
        go_enter Tryd.func30, Tryd.ntmps30
        go_wp2
        all_goals
          go_returns
          refine ⟨?_, Below.refl _ _⟩
          rw [HN.out, E1.out, E2.out]
          first | (simp [*]; done) | (simp [*]; omega)
end Go.Proofs.YtibhpfddjlnbmaaDoor
