/-
  Package vex' small functions and the document's: which map may be, a bit, prefixes and their numbers.
-/
import Derived.Test.YtllnjmpakkodnaaVxPlain
import Derived.Test.YtllnjmpakkodnaaOwn
import Derived.BigQuiet
namespace Go.Proofs.Ytllnjmpakkodnaa
open Go.RowKit
set_option maxRecDepth 100000

theorem ismap_any (n : Int) (w : World) :
    Calls Try.prog 26 #[.int .i64 n] w fun e w' => e = .returned (.bool (mapF n)) ∧ w = w' := by
  by_cases h1 : 1 ≤ n
  · go_enter Try.func26, Try.ntmps26
    go_wp2
    all_goals go_returns
    all_goals exact ⟨by simp_all [mapF], rfl⟩
  · go_enter Try.func26, Try.ntmps26
    go_wp2
    all_goals go_returns
    all_goals exact ⟨by simp [mapF]; omega, rfl⟩
theorem ismap_of {n : Int} {b : Bool} (h : mapF n = b) (w : World) :
    Calls Try.prog 26 #[.int .i64 n] w fun e w' => e = .returned (.bool b) ∧ w = w' := by rw [← h]; exact ismap_any n w
theorem bit_any (n : Int) (w : World) :
    Calls Try.prog 29 #[.int .i64 n] w fun e w' => e = .returned (.bool (bitF n)) ∧ w = w' := by
  by_cases h1 : n = 0
  · subst h1
    go_enter Try.func29, Try.ntmps29
    go_wp2
    go_ret
    exact ⟨rfl, rfl⟩
  · have h2 : (n == 0) = false := by simpa using h1
    go_enter Try.func29, Try.ntmps29
    go_wp2
    all_goals go_returns
    all_goals exact ⟨by simp [bitF, *], rfl⟩
theorem bit_of {n : Int} {b : Bool} (h : bitF n = b) (w : World) :
    Calls Try.prog 29 #[.int .i64 n] w fun e w' => e = .returned (.bool b) ∧ w = w' := by rw [← h]; exact bit_any n w
theorem rpp_any (n : Int) (w : World) :
    Calls Try.prog 24 #[.int .i64 n] w fun e w' => e = .returned (.int .i64 (ppF n)) ∧ w = w' := by
  have HD : ppF n = if n = 1 then 1 else if n = 4 then 2 else if n = 2 then 3 else 0 := rfl
  have H := hid HD
  clear HD
  by_cases h1 : n = 1
  · subst h1
    go_enter Try.func24, Try.ntmps24
    go_wp2
    go_ret
    exact ⟨rfl, rfl⟩
  by_cases h2 : n = 4
  · subst h2
    go_enter Try.func24, Try.ntmps24
    go_wp2
    go_ret
    exact ⟨rfl, rfl⟩
  by_cases h3 : n = 2
  · subst h3
    go_enter Try.func24, Try.ntmps24
    go_wp2
    go_ret
    exact ⟨rfl, rfl⟩
  have e1 : (n == 1) = false := by simpa using h1
  have e2 : (n == 4) = false := by simpa using h2
  have e3 : (n == 2) = false := by simpa using h3
  have H0 := hid (show ppF n = 0 by rw [H.out, if_neg h1, if_neg h2, if_neg h3])
  clear h1 h2 h3
  go_enter Try.func24, Try.ntmps24
  go_wp2
  go_ret
  exact ⟨ret_i H0.out.symm, rfl⟩
theorem rpre_any (n : Int) (w : World) :
    Calls Try.prog 32 #[.int .i64 n] w fun e w' => e = .returned (.int .i64 (preF n)) ∧ w = w' := by
  have HD : preF n = if n = 1 then 1 else if n = 2 then 4 else if n = 3 then 2 else 0 := rfl
  have H := hid HD
  clear HD
  by_cases h1 : n = 1
  · subst h1
    go_enter Try.func32, Try.ntmps32
    go_wp2
    go_ret
    exact ⟨rfl, rfl⟩
  by_cases h2 : n = 2
  · subst h2
    go_enter Try.func32, Try.ntmps32
    go_wp2
    go_ret
    exact ⟨rfl, rfl⟩
  by_cases h3 : n = 3
  · subst h3
    go_enter Try.func32, Try.ntmps32
    go_wp2
    go_ret
    exact ⟨rfl, rfl⟩
  have e1 : (n == 1) = false := by simpa using h1
  have e2 : (n == 2) = false := by simpa using h2
  have e3 : (n == 3) = false := by simpa using h3
  have H0 := hid (show preF n = 0 by rw [H.out, if_neg h1, if_neg h2, if_neg h3])
  clear h1 h2 h3
  go_enter Try.func32, Try.ntmps32
  go_wp2
  go_ret
  exact ⟨ret_i H0.out.symm, rfl⟩
/-- A slice of n cells at the head of block g. -/
abbrev SL (g n : Nat) : Value := .slice (some ⟨g, 0, none⟩) n n
/-- The prefixes, by their numbers. -/
abbrev PB (g : Nat) : Blk := ⟨g, #[.int .i64 0, .int .i64 1, .int .i64 4, .int .i64 2], 3⟩
theorem prefixes_any (w : World) :
    Calls Try.prog 28 #[] w fun e w' => e = .returned (SL w.heap.size 4) ∧ w' = w.alloc (.cells #[.int .i64 0, .int .i64 1, .int .i64 4, .int .i64 2] 3) := by
  go_enter Try.func28, Try.ntmps28
  go_wp2
  go_ret
  exact ⟨rfl, rfl⟩
/-- Where a prefix stands among them. -/
def idxF (n : Int) : Int := if n = 0 then 0 else if n = 1 then 1 else if n = 4 then 2 else if n = 2 then 3 else -1
theorem idx_pp {n : Int} (h : n = 0 ∨ n = 1 ∨ n = 4 ∨ n = 2) : idxF n = ppF n := by rcases h with rfl | rfl | rfl | rfl <;> rfl
theorem idx_ok (n : Int) : decide (0 ≤ idxF n) = preOk n := by
  unfold idxF preOk
  by_cases h0 : n = 0
  · subst h0; rfl
  by_cases h1 : n = 1
  · subst h1; rfl
  by_cases h4 : n = 4
  · subst h4; rfl
  by_cases h2 : n = 2
  · subst h2; rfl
  simp [h0, h1, h4, h2]
/-- The four stand in a block. -/
def Four (w : World) (g : Nat) : Prop := w.cell? ⟨g, 0, none⟩ = some (.int .i64 0) ∧ w.cell? ⟨g, 1, none⟩ = some (.int .i64 1) ∧ w.cell? ⟨g, 2, none⟩ = some (.int .i64 4) ∧ w.cell? ⟨g, 3, none⟩ = some (.int .i64 2)
theorem index_any (g : Nat) (n : Int) (w : World) (h : Four w g) :
    Calls Try.prog 36 #[SL g 4, .int .i64 n] w fun e w' => e = .returned (.int .i64 (idxF n)) ∧ w = w' := by
  have H := hid (show idxF n = if n = 0 then 0 else if n = 1 then 1 else if n = 4 then 2 else if n = 2 then 3 else -1 from rfl)
  obtain ⟨c0, c1, c2, c3⟩ := h
  go_enter Try.func36, Try.ntmps36
  go_wp2
  go_loopw [8] (fun i wr => w = wr ∧ (i = .int .i64 0 ∨ (i = .int .i64 1 ∧ Hid (¬ n = 0)) ∨ (i = .int .i64 2 ∧ Hid (¬ n = 0 ∧ ¬ n = 1)) ∨ (i = .int .i64 3 ∧ Hid (¬ n = 0 ∧ ¬ n = 1 ∧ ¬ n = 4)) ∨ (i = .int .i64 4 ∧ Hid (¬ n = 0 ∧ ¬ n = 1 ∧ ¬ n = 4 ∧ ¬ n = 2)))) (fun i _ => 4 - (intOf i).toNat)
  case atStart => exact ⟨rfl, .inl rfl⟩
  case round =>
    obtain ⟨rfl, rfl | ⟨rfl, hp⟩ | ⟨rfl, hp⟩ | ⟨rfl, hp⟩ | ⟨rfl, hp⟩⟩ := hrel
    · by_cases h0 : n = 0
      · subst h0
        go_wp2
        go_ret
        exact ⟨rfl, rfl⟩
      · have e0 : (n == 0) = false := by simpa using h0
        have h0 := hid h0
        go_wp2
        go_roundw
        case rel => exact ⟨trivial, .inr (.inl ⟨by go_num, h0⟩)⟩
        case measure => simp [intOf]
    · by_cases h0 : n = 1
      · subst h0
        go_wp2
        go_ret
        exact ⟨rfl, rfl⟩
      · have e0 : (n == 1) = false := by simpa using h0
        have h0 := hid h0
        go_wp2
        go_roundw
        case rel => exact ⟨trivial, .inr (.inr (.inl ⟨by go_num, hid ⟨hp.out, h0.out⟩⟩))⟩
        case measure => simp [intOf]
    · by_cases h0 : n = 4
      · subst h0
        go_wp2
        go_ret
        exact ⟨rfl, rfl⟩
      · have e0 : (n == 4) = false := by simpa using h0
        have h0 := hid h0
        go_wp2
        go_roundw
        case rel => exact ⟨trivial, .inr (.inr (.inr (.inl ⟨by go_num, hid ⟨hp.out.1, hp.out.2, h0.out⟩⟩)))⟩
        case measure => simp [intOf]
    · by_cases h0 : n = 2
      · subst h0
        go_wp2
        go_ret
        exact ⟨rfl, rfl⟩
      · have e0 : (n == 2) = false := by simpa using h0
        have h0 := hid h0
        go_wp2
        go_roundw
        case rel => exact ⟨trivial, .inr (.inr (.inr (.inr ⟨by go_num, hid ⟨hp.out.1, hp.out.2.1, hp.out.2.2, h0.out⟩⟩)))⟩
        case measure => simp [intOf]
    · go_wp2
      go_ret
      exact ⟨ret_i (by rw [H.out, if_neg hp.out.1, if_neg hp.out.2.1, if_neg hp.out.2.2.1, if_neg hp.out.2.2.2]), rfl⟩
theorem contains_any (g : Nat) (n : Int) (w : World) (h : Four w g) :
    Calls Try.prog 27 #[SL g 4, .int .i64 n] w fun e w' => e = .returned (.bool (preOk n)) ∧ w = w' := by
  have HF := hid h
  have HI := hid (idx_ok n)
  clear h
  go_enter Try.func27, Try.ntmps27
  go_wp2_with (go_at_call 36; refine (index_any g n _ HF.out).mono ?_; rintro e w1 ⟨rfl, rfl⟩)
  go_ret
  exact ⟨ret_b HI.out, rfl⟩
end Go.Proofs.Ytllnjmpakkodnaa
