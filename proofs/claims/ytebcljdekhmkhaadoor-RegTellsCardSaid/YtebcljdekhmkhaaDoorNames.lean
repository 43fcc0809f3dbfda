/-
  The names of registers: the texts of each class, divided; a text compared with a name.
-/
import Derived.Test.YtebcljdekhmkhaaDoorReg
import Derived.Test.YtebcljdekhmkhaaDoorShelf
import Derived.Deep.QuietTactic
namespace Go.Proofs.YtebcljdekhmkhaaDoor
open Go.RowKit

/-- A small letter for a capital one. -/
def lo (c : Int) : Int := if 65 ≤ c ∧ c ≤ 90 then c + 32 else c
def lower (x : List Int) : List Int := x.map lo
theorem small_any (c : Int) (w : World) (h0 : 0 ≤ c) (h1 : c < 256) :
    Calls Tryd.prog 38 #[.int .u8 c] w fun e w' => e = .returned (.int .u8 (lo c)) ∧ w' = w := by
  go_enter Tryd.func38, Tryd.ntmps38
  go_wp2
  all_goals go_ret
  all_goals exact ⟨ret_i (by unfold lo; (repeat' split) <;> first | omega | (simp only [IntKind.wrap_u8]; omega)), rfl⟩
/-- The names of the first eight. -/
def old8 : List (List Int) := [[97, 120], [99, 120], [100, 120], [98, 120], [115, 112], [98, 112], [115, 105], [100, 105]]
/-- Numerals of one or two digits. -/
def dec2 (n : Int) : List Int := if n < 10 then [48 + n] else [48 + n / 10, 48 + n % 10]
def fromTo (a : Nat) (k : Nat) : List Int := (List.range k).map fun i => ((a + i : Nat) : Int)
def NM (c : Int) : List (List Int) :=
  if c = 1 then [[97, 108], [99, 108], [100, 108], [98, 108]] ++ (old8.drop 4).map (· ++ [108]) ++ (fromTo 8 8).map (fun n => 114 :: dec2 n ++ [98])
  else if c = 2 then [[97, 104], [99, 104], [100, 104], [98, 104]]
  else if c = 3 then old8 ++ (fromTo 8 8).map (fun n => 114 :: dec2 n ++ [119])
  else if c = 4 then old8.map (101 :: ·) ++ (fromTo 8 8).map (fun n => 114 :: dec2 n ++ [100])
  else if c = 5 then old8.map (114 :: ·) ++ (fromTo 8 8).map (fun n => 114 :: dec2 n)
  else if c = 6 then (fromTo 0 16).map (fun n => 120 :: 109 :: 109 :: dec2 n)
  else if c = 7 then (fromTo 0 16).map (fun n => 121 :: 109 :: 109 :: dec2 n)
  else if c = 8 then [[114, 105, 112]] else []
theorem classes (c : Int) : c = 1 ∨ c = 2 ∨ c = 3 ∨ c = 4 ∨ c = 5 ∨ c = 6 ∨ c = 7 ∨ c = 8 ∨ (c ≠ 1 ∧ c ≠ 2 ∧ c ≠ 3 ∧ c ≠ 4 ∧ c ≠ 5 ∧ c ≠ 6 ∧ c ≠ 7 ∧ c ≠ 8) := by omega
theorem NM_none {c : Int} (h : c ≠ 1 ∧ c ≠ 2 ∧ c ≠ 3 ∧ c ≠ 4 ∧ c ≠ 5 ∧ c ≠ 6 ∧ c ≠ 7 ∧ c ≠ 8) : NM c = [] := by simp [NM, h]
theorem span_none {c : Int} (h : c ≠ 1 ∧ c ≠ 2 ∧ c ≠ 3 ∧ c ≠ 4 ∧ c ≠ 5 ∧ c ≠ 6 ∧ c ≠ 7 ∧ c ≠ 8) : spanF c = (0, 0) := by simp [spanF, h]
theorem NM_length (c : Int) : ((NM c).length : Int) = (spanF c).2 := by
  rcases classes c with rfl | rfl | rfl | rfl | rfl | rfl | rfl | rfl | h
  all_goals first | decide +kernel | (rw [NM_none h, span_none h]; rfl)
/-- Bytes of a list as numbers. -/
def numsL (l : List UInt8) : List Int := l.map fun b => (b.toNat : Int)
/-- A text whose words are the names of a class. -/
def TextOf (c : Int) (T : ByteArray) : Prop := T.size < 1000 ∧ (T.data.toList.all fun b => decide (b.toNat < 128)) = true ∧ (Lib.fields T.data.toList).map numsL = NM c
set_option maxRecDepth 100000 in
theorem text_any (c : Int) (w : World) :
    Calls Tryd.prog 36 #[.int .i64 c] w fun e w' => ∃ T : ByteArray, e = .returned (.string T) ∧ TextOf c T ∧ w' = w := by
  rcases classes c with rfl | rfl | rfl | rfl | rfl | rfl | rfl | rfl | h
  case inr.inr.inr.inr.inr.inr.inr.inr =>
    have HN := hid (NM_none h)
    obtain ⟨h1, h2, h3, h4, h5, h6, h7, h8⟩ := h
    go_enter Tryd.func36, Tryd.ntmps36
    go_wp2
    go_ret
    exact ⟨_, rfl, ⟨by decide, by decide, by rw [HN.out]; rfl⟩, rfl⟩
  all_goals
    go_enter Tryd.func36, Tryd.ntmps36
    go_wp2
    go_ret
    exact ⟨_, rfl, ⟨by decide +kernel, by decide +kernel, by decide +kernel⟩, rfl⟩
theorem lower_cons (c : Int) (x : List Int) : lower (c :: x) = lo c :: lower x := rfl
theorem list_beq_step {a b : Int} (x y : List Int) : ((a :: x) == (b :: y)) = (a == b && x == y) := rfl
set_option maxHeartbeats 1000000 in
theorem same_any (s t : ByteArray) (w : World) (hs : s.size ≤ 9223372036854775807) :
    Calls Tryd.prog 34 #[.string s, .string t] w fun e w' => e = .returned (.bool (lower (nums s) == nums t)) ∧ Below w.heap.size w w' := by
  by_cases hst : s.size = t.size
  · have hbs := get_ch s
    have hbt := get_ch t
    have e1 : ((s.size : Int) != (t.size : Int)) = false := by simp [hst]
    have HST := hid hst
    clear hst
    go_enter Tryd.func34, Tryd.ntmps34
    go_wp2
    go_loopw [13] (fun i wr => ∃ k : Nat, k ≤ s.size ∧ i = .int .i64 k ∧ Below w.heap.size w wr ∧ Hid ((lower (nums s) == nums t) = (lower ((nums s).drop k) == (nums t).drop k))) (fun i _ => s.size - (intOf i).toNat)
    case atStart => exact ⟨0, by omega, rfl, Below.refl _ _, hid rfl⟩
    case round =>
      obtain ⟨k, hk, rfl, hbel, HR⟩ := hrel
      by_cases hlt : k < s.size
      · have hkt : k < t.size := by have := HST.out; omega
        have hc := ch_range s k
        have hd := ch_range t k
        have H2 := hid (show (lower (nums s) == nums t) = (lo (ch s k) == ch t k && lower ((nums s).drop (k + 1)) == (nums t).drop (k + 1)) by
          rw [HR.out, drop_ch s k hlt, drop_ch t k hkt, lower_cons, list_beq_step])
        have HB := hid hbel
        clear hbel HR
        cases he : lo (ch s k) == ch t k
        · have hne : (lo (ch s k) != ch t k) = true := by simp [bne, he]
          rw [he] at H2
          go_wp2_with fail
          go_quiet ((go_at_call 38; exact Calls.quiet_of_same (small_any _ _ hc.1 hc.2)))
          go_wp2
          go_ret
          exact ⟨ret_b (by rw [H2.out]; rfl), bdrewN HB.out _⟩
        · have hne : (lo (ch s k) != ch t k) = false := by simp [bne, he]
          rw [he] at H2
          go_wp2_with fail
          go_quiet ((go_at_call 38; exact Calls.quiet_of_same (small_any _ _ hc.1 hc.2)))
          go_wp2
          go_roundw
          case rel => exact ⟨k + 1, by omega, by go_num, bdrewN HB.out _, hid (by rw [H2.out]; rfl)⟩
          case measure => simp [intOf]; omega
      · have H2 := hid (show (lower (nums s) == nums t) = true by
          rw [HR.out, List.drop_of_length_le (by rw [nums_length]; omega), List.drop_of_length_le (by rw [nums_length]; have := HST.out; omega)]; rfl)
        go_wp2
        go_ret
        exact ⟨ret_b H2.out.symm, hbel⟩
  · have e1 : ((s.size : Int) != (t.size : Int)) = true := by simp; omega
    have H2 := hid (show (lower (nums s) == nums t) = false by
      rw [beq_eq_false_iff_ne]; intro h; have := congrArg List.length h; rw [nums_length] at this; simp [lower, nums_length] at this; exact hst this)
    go_enter Tryd.func34, Tryd.ntmps34
    go_wp2
    go_ret
    exact ⟨ret_b H2.out.symm, Below.refl _ _⟩

/-! ### the names of a class, in memory -/
theorem tabIs_below {P : Program} {w w' : World} {name : String} {k : IntKind} {zs : List Int} (h : Lib.TabIs P w name k zs) {B : Nat} (hB : B = w.heap.size) (hb : Below B w w') : Lib.TabIs P w' name k zs := by
  subst hB
  unfold Lib.TabIs World.var? at *
  cases hg : P.globalNamed name with
  | none => simp [hg] at h
  | some g =>
    simp only [hg, Option.bind_some] at h ⊢
    have hlt : g < w.heap.size := by
      rcases Nat.lt_or_ge g w.heap.size with h' | h'
      · exact h'
      · rw [Array.getElem?_eq_none h'] at h; simp at h
    rw [hb.block g hlt]
    exact h
abbrev Tab (w : World) : Prop := Lib.TabIs Tryd.prog w "strings.asciiSpace" .u8 Lib.asciiSpaceTab
theorem Tab.below {w w' : World} (h : Tab w) (hb : Below w.heap.size w w') : Tab w' := tabIs_below h rfl hb
theorem text_of {c : Int} (w : World) :
    Calls Tryd.prog 36 #[.int .i64 c] w fun e w' => ∃ T : ByteArray, e = .returned (.string T) ∧ Hid (TextOf c T) ∧ w = w' :=
  (text_any c w).mono fun _ _ ⟨T, h1, h2, h3⟩ => ⟨T, h1, hid h2, h3.symm⟩
/-- A list of strings as lists of numbers. -/
def namesOf (l : List (List UInt8)) : List ByteArray := l.map fun x => ⟨x.toArray⟩
theorem fields_of {c : Int} {T : ByteArray} (h : TextOf c T) (w : World) (ht : Tab w) :
    Calls Tryd.prog 35 #[.string T] w fun e w' => ∃ l : List ByteArray, l.map nums = NM c ∧ e = .returned (.slice (some ⟨w.heap.size, 0, none⟩) l.length l.length) ∧ w' = w.alloc (.cells (l.map Value.string).toArray 9) := by
  obtain ⟨h1, h2, h3⟩ := h
  refine (Tryd.strings_Fields T w (by omega) (fun j b hj => ?_) ht).mono fun e w' ⟨he, hw⟩ => ⟨namesOf (Lib.fields T.data.toList), ?_, ?_, ?_⟩
  · have := List.all_eq_true.1 h2 b (List.mem_of_getElem? hj)
    simpa using this
  · rw [← h3]; unfold namesOf; rw [List.map_map]; rfl
  · rw [he]; simp [namesOf]
  · rw [hw]; simp [namesOf, Function.comp_def]
theorem names_any (c : Int) (w : World) (ht : Tab w) :
    Calls Tryd.prog 29 #[.int .i64 c] w fun e w' => ∃ l : List ByteArray, l.map nums = NM c ∧ e = .returned (.slice (some ⟨w.heap.size, 0, none⟩) l.length l.length) ∧ w' = w.alloc (.cells (l.map Value.string).toArray 9) := by
  have HT := hid ht
  clear ht
  go_enter Tryd.func29, Tryd.ntmps29
  go_wp2_with (first | (go_at_call 36; refine (text_of _).mono ?_; rintro e w' ⟨T, rfl, HX, rfl⟩) | (go_at_call 35; refine (fields_of HX.out _ HT.out).mono ?_; rintro e w' ⟨l, hl, rfl, rfl⟩))
  go_ret
  exact ⟨l, hl, rfl, rfl⟩
end Go.Proofs.YtebcljdekhmkhaaDoor
