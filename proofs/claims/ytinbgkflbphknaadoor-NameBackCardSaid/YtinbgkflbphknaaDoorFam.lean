/-
  The mnemonics that hang on a condition: the program's three families, a text's beginning cut off, the mnemonic of another name.
-/
import Derived.Test.YtinbgkflbphknaaDoorCondParse
import Derived.Test.YtinbgkflbphknaaDoorShelf
namespace Go.Proofs.YtinbgkflbphknaaDoor
open Go.RowKit

/-- The three families, as the program has them: how they begin, the first, the last. -/
abbrev FAMS : Value := .agg #[.string ⟨#[106]⟩, .int .i64 68, .int .i64 83, .string ⟨#[115, 101, 116]⟩, .int .i64 84, .int .i64 99, .string ⟨#[99, 109, 111, 118]⟩, .int .i64 100, .int .i64 115]
theorem families_any (w : World) :
    Calls Tryd.prog 27 #[] w fun e w' => e = .returned FAMS ∧ Below w.heap.size w w' := by
  go_enter Tryd.func27, Tryd.ntmps27
  go_wp2
  go_returns
  exact ⟨rfl, (Below.refl _ w).alloc (Nat.le_refl _) _⟩
/-- Whether a text begins with another one; what stands behind. -/
def begF (s p : ByteArray) : Bool := Lib.hasPrefix s.data.toList p.data.toList
def restF (s p : ByteArray) : ByteArray := s.extract p.size s.size
theorem begF_size {s p : ByteArray} (h : begF s p = true) : p.size ≤ s.size := by
  have h' := (Lib.hasPrefix_raw s p).trans h
  simp at h'
  exact h'.1
theorem prefix_of {s p : ByteArray} {b : Bool} (h : begF s p = b) (w : World) :
    Calls Tryd.prog 40 #[.string s, .string p] w fun e w' => e = .returned (.bool b) ∧ w = w' := by
  refine (Tryd.stringslite_HasPrefix s p w).mono ?_
  rintro e w' ⟨rfl, rfl⟩
  exact ⟨by rw [← h]; rfl, rfl⟩
abbrev cutV (s p : ByteArray) (b : Bool) : Value := .tuple #[.string (bif b then restF s p else s), .bool b]
theorem lite_of {s p : ByteArray} {b : Bool} (h : begF s p = b) (w : World) :
    Calls Tryd.prog 35 #[.string s, .string p] w fun e w' => e = .returned (cutV s p b) ∧ w = w' := by
  cases b with
  | false =>
    have H := hid h
    clear h
    go_enter Tryd.func35, Tryd.ntmps35
    go_wp2_with (go_at_call 40; refine (prefix_of H.out _).mono ?_; rintro e w1 ⟨rfl, rfl⟩)
    go_returns
    exact ⟨rfl, rfl⟩
  | true =>
    have hz := begF_size h
    have H := hid h
    clear h
    go_enter Tryd.func35, Tryd.ntmps35
    go_wp2_with (go_at_call 40; refine (prefix_of H.out _).mono ?_; rintro e w1 ⟨rfl, rfl⟩)
    go_returns
    exact ⟨rfl, rfl⟩
theorem cut_of {s p : ByteArray} {b : Bool} (h : begF s p = b) (w : World) :
    Calls Tryd.prog 31 #[.string s, .string p] w fun e w' => e = .returned (cutV s p b) ∧ w = w' := by
  have H := hid h
  clear h
  go_enter Tryd.func31, Tryd.ntmps31
  go_wp2_with (go_at_call 35; refine (lite_of H.out _).mono ?_; rintro e w1 ⟨rfl, rfl⟩)
  go_returns
  exact ⟨rfl, rfl⟩

/-- How a family begins, its first number. -/
def famP (k : Nat) : ByteArray := match k with | 0 => ⟨#[106]⟩ | 1 => ⟨#[115, 101, 116]⟩ | _ => ⟨#[99, 109, 111, 118]⟩
def famN (k : Nat) : Int := match k with | 0 => 68 | 1 => 84 | _ => 100
def tryF (s : ByteArray) (k : Nat) : Option Int := if begF s (famP k) then (parseF (restF s (famP k))).map (fun n => famN k + n) else none
/-- The mnemonic of another name. -/
def otherF (s : ByteArray) : Option Int := ((tryF s 0).or (tryF s 1)).or (tryF s 2)
abbrev OV (o : Option Int) : Value := match o with
  | none => .tuple #[.int .i64 0, .bool false]
  | some n => .tuple #[.int .i64 n, .bool true]
theorem parse_of {s : ByteArray} {o : Option Nat} (h : parseF s = o) (w : World) :
    Calls Tryd.prog 32 #[.string s] w fun e w' => e = .returned (PV o) ∧ Below w.heap.size w w' := by
  have := parse_any s w
  rw [h] at this
  exact this
theorem fromF_lt (s : ByteArray) : ∀ (j n k : Nat), fromF s n j = some k → k < n + j := by
  intro j
  induction j with
  | zero => intro n k h; simp [fromF] at h
  | succ j ih =>
    intro n k h
    rw [fromF] at h
    split at h
    · simp at h; omega
    · have := ih _ _ h; omega
theorem parseF_lt {s : ByteArray} {n : Nat} (h : parseF s = some n) : n < 16 := by
  have := fromF_lt s 16 0 n h
  omega
theorem try_no {s : ByteArray} {k : Nat} (h : begF s (famP k) = false) : tryF s k = none := by simp [tryF, h]
theorem try_none {s : ByteArray} {k : Nat} (h : parseF (restF s (famP k)) = none) : tryF s k = none := by simp [tryF, h]
theorem try_some {s : ByteArray} {k n : Nat} (h : begF s (famP k) = true) (hp : parseF (restF s (famP k)) = some n) : tryF s k = some (famN k + n) := by simp [tryF, h, hp]
theorem other_at {s : ByteArray} {k : Nat} {o : Int} (hk : k < 3) (h : ∀ j, j < k → tryF s j = none) (ho : tryF s k = some o) : otherF s = some o := by
  rw [otherF]
  obtain rfl | rfl | rfl : k = 0 ∨ k = 1 ∨ k = 2 := by omega
  · rw [ho]; rfl
  · rw [h 0 (by omega), ho]; rfl
  · rw [h 0 (by omega), h 1 (by omega), ho]; rfl
theorem other_no {s : ByteArray} (h : ∀ j, j < 3 → tryF s j = none) : otherF s = none := by
  rw [otherF, h 0 (by omega), h 1 (by omega), h 2 (by omega)]; rfl
theorem more {s : ByteArray} {k : Nat} (h : ∀ j, j < k → tryF s j = none) (hk : tryF s k = none) : ∀ j, j < k + 1 → tryF s j = none := fun j hj => by
  rcases Nat.lt_or_ge j k with h' | h'
  · exact h j h'
  · rw [show j = k by omega]; exact hk
theorem fams0 (w : World) : (Instr.index 43 FAMS (.int .i64 0)).run Tryd.prog w = .ok (.agg #[.string ⟨#[106]⟩, .int .i64 68, .int .i64 83]) w := by kernel_rfl
theorem fams1 (w : World) : (Instr.index 43 FAMS (.int .i64 1)).run Tryd.prog w = .ok (.agg #[.string ⟨#[115, 101, 116]⟩, .int .i64 84, .int .i64 99]) w := by kernel_rfl
theorem fams2 (w : World) : (Instr.index 43 FAMS (.int .i64 2)).run Tryd.prog w = .ok (.agg #[.string ⟨#[99, 109, 111, 118]⟩, .int .i64 100, .int .i64 115]) w := by kernel_rfl
set_option maxRecDepth 100000 in
set_option maxHeartbeats 1000000 in
theorem other_any (s : ByteArray) (w : World) :
    Calls Tryd.prog 23 #[.string s] w fun e w' => e = .returned (OV (otherF s)) ∧ Below w.heap.size w w' := by
  go_enter Tryd.func23, Tryd.ntmps23
  go_wp2_with (go_at_call 27; refine (families_any _).mono ?_; rintro e w1 ⟨rfl, hb1⟩)
  have HB := hid hb1
  clear hb1
  have i0 := fams0
  have i1 := fams1
  have i2 := fams2
  go_loopw [11] (fun i wr => ∃ k : Nat, k ≤ 3 ∧ i = .int .i64 k ∧ Hid (Below w.heap.size w wr) ∧ Hid (∀ j, j < k → tryF s j = none)) (fun i _ => 3 - (intOf i).toNat)
  case atStart => exact ⟨0, by omega, rfl, HB, hid (by omega)⟩
  case round =>
    obtain ⟨k, hk, rfl, HB, HT⟩ := hrel
    obtain rfl | rfl | rfl | rfl : k = 0 ∨ k = 1 ∨ k = 2 ∨ k = 3 := by omega
    · cases hc : begF s ⟨#[106]⟩
      · have HC := hid hc
        have HM := hid (more HT.out (try_no (k := 0) hc))
        clear hc
        go_wp2_with (go_at_call 31; refine (cut_of HC.out _).mono ?_; rintro e w1 ⟨rfl, rfl⟩)
        go_roundw
        case rel => exact ⟨1, by omega, by simp, hid (HB.out.alloc HB.out.size _), HM⟩
        case measure => simp [intOf]
      · cases hp : parseF (restF s ⟨#[106]⟩) with
        | none =>
          have HC := hid hc
          have HP := hid hp
          have HM := hid (more HT.out (try_none (k := 0) hp))
          clear hc hp
          go_wp2_with (first | (go_at_call 31; refine (cut_of HC.out _).mono ?_; rintro e w1 ⟨rfl, rfl⟩) | (go_at_call 32; refine (parse_of HP.out _).mono ?_; rintro e w2 ⟨rfl, hb2⟩; obtain ⟨hc, hf⟩ := bcell hb2; have hlt : wr.heap.size < w2.heap.size := by have := hb2.size; simp at this; omega))
          go_roundw
          case rel => exact ⟨1, by omega, by simp, hid ((HB.out.alloc HB.out.size _).trans (hb2.mono (by have := HB.out.size; simp; omega))), HM⟩
          case measure => simp [intOf]
        | some n =>
          have hn := parseF_lt hp
          have HC := hid hc
          have HP := hid hp
          have HM := hid (other_at (by omega) HT.out (try_some (k := 0) hc hp))
          clear hc hp
          go_wp2_with (first | (go_at_call 31; refine (cut_of HC.out _).mono ?_; rintro e w1 ⟨rfl, rfl⟩) | (go_at_call 32; refine (parse_of HP.out _).mono ?_; rintro e w2 ⟨rfl, hb2⟩; obtain ⟨hc, hf⟩ := bcell hb2; have hlt : wr.heap.size < w2.heap.size := by have := hb2.size; simp at this; omega))
          go_returns
          exact ⟨by rw [HM.out]; rfl, (HB.out.alloc HB.out.size _).trans (hb2.mono (by have := HB.out.size; simp; omega))⟩
    · cases hc : begF s ⟨#[115, 101, 116]⟩
      · have HC := hid hc
        have HM := hid (more HT.out (try_no (k := 1) hc))
        clear hc
        go_wp2_with (go_at_call 31; refine (cut_of HC.out _).mono ?_; rintro e w1 ⟨rfl, rfl⟩)
        go_roundw
        case rel => exact ⟨2, by omega, by simp, hid (HB.out.alloc HB.out.size _), HM⟩
        case measure => simp [intOf]
      · cases hp : parseF (restF s ⟨#[115, 101, 116]⟩) with
        | none =>
          have HC := hid hc
          have HP := hid hp
          have HM := hid (more HT.out (try_none (k := 1) hp))
          clear hc hp
          go_wp2_with (first | (go_at_call 31; refine (cut_of HC.out _).mono ?_; rintro e w1 ⟨rfl, rfl⟩) | (go_at_call 32; refine (parse_of HP.out _).mono ?_; rintro e w2 ⟨rfl, hb2⟩; obtain ⟨hc, hf⟩ := bcell hb2; have hlt : wr.heap.size < w2.heap.size := by have := hb2.size; simp at this; omega))
          go_roundw
          case rel => exact ⟨2, by omega, by simp, hid ((HB.out.alloc HB.out.size _).trans (hb2.mono (by have := HB.out.size; simp; omega))), HM⟩
          case measure => simp [intOf]
        | some n =>
          have hn := parseF_lt hp
          have HC := hid hc
          have HP := hid hp
          have HM := hid (other_at (by omega) HT.out (try_some (k := 1) hc hp))
          clear hc hp
          go_wp2_with (first | (go_at_call 31; refine (cut_of HC.out _).mono ?_; rintro e w1 ⟨rfl, rfl⟩) | (go_at_call 32; refine (parse_of HP.out _).mono ?_; rintro e w2 ⟨rfl, hb2⟩; obtain ⟨hc, hf⟩ := bcell hb2; have hlt : wr.heap.size < w2.heap.size := by have := hb2.size; simp at this; omega))
          go_returns
          exact ⟨by rw [HM.out]; rfl, (HB.out.alloc HB.out.size _).trans (hb2.mono (by have := HB.out.size; simp; omega))⟩
    · cases hc : begF s ⟨#[99, 109, 111, 118]⟩
      · have HC := hid hc
        have HM := hid (more HT.out (try_no (k := 2) hc))
        clear hc
        go_wp2_with (go_at_call 31; refine (cut_of HC.out _).mono ?_; rintro e w1 ⟨rfl, rfl⟩)
        go_roundw
        case rel => exact ⟨3, by omega, by simp, hid (HB.out.alloc HB.out.size _), HM⟩
        case measure => simp [intOf]
      · cases hp : parseF (restF s ⟨#[99, 109, 111, 118]⟩) with
        | none =>
          have HC := hid hc
          have HP := hid hp
          have HM := hid (more HT.out (try_none (k := 2) hp))
          clear hc hp
          go_wp2_with (first | (go_at_call 31; refine (cut_of HC.out _).mono ?_; rintro e w1 ⟨rfl, rfl⟩) | (go_at_call 32; refine (parse_of HP.out _).mono ?_; rintro e w2 ⟨rfl, hb2⟩; obtain ⟨hc, hf⟩ := bcell hb2; have hlt : wr.heap.size < w2.heap.size := by have := hb2.size; simp at this; omega))
          go_roundw
          case rel => exact ⟨3, by omega, by simp, hid ((HB.out.alloc HB.out.size _).trans (hb2.mono (by have := HB.out.size; simp; omega))), HM⟩
          case measure => simp [intOf]
        | some n =>
          have hn := parseF_lt hp
          have HC := hid hc
          have HP := hid hp
          have HM := hid (other_at (by omega) HT.out (try_some (k := 2) hc hp))
          clear hc hp
          go_wp2_with (first | (go_at_call 31; refine (cut_of HC.out _).mono ?_; rintro e w1 ⟨rfl, rfl⟩) | (go_at_call 32; refine (parse_of HP.out _).mono ?_; rintro e w2 ⟨rfl, hb2⟩; obtain ⟨hc, hf⟩ := bcell hb2; have hlt : wr.heap.size < w2.heap.size := by have := hb2.size; simp at this; omega))
          go_returns
          exact ⟨by rw [HM.out]; rfl, (HB.out.alloc HB.out.size _).trans (hb2.mono (by have := HB.out.size; simp; omega))⟩
    · have HO := hid (other_no HT.out)
      go_wp2_with fail
      go_returns
      exact ⟨by rw [HO.out]; rfl, HB.out⟩
end Go.Proofs.YtinbgkflbphknaaDoor
