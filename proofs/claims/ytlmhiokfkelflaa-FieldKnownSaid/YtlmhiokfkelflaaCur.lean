/-
  Cursors: one that is nil, one that nobody opened.
-/
import Derived.Test.YtlmhiokfkelflaaAwake
import Derived.Deep.QuietTactic
import Derived.BigQuiet
namespace Go.Proofs.Ytlmhiokfkelflaa
open Go.RowKit
/-- A pointer to a cursor that is none: nil, or not opened. -/
def NoCur (w : World) (a : Option Addr) : Prop := a = none ∨ ∃ g, a = some ⟨g, 0, none⟩ ∧ w.cell? ⟨g, 18, none⟩ = some (.bool false)
theorem NoCur.below {w w' : World} {a : Option Addr} (h : NoCur w a) (hb : Below w.heap.size w w') : NoCur w' a := by
  rcases h with rfl | ⟨g, rfl, hc⟩
  · exact .inl rfl
  · refine .inr ⟨g, rfl, ?_⟩
    have hl := World.block_lt_of_cell? w _ hc
    rw [hb.cell hl]; exact hc
theorem NoCur.drewN {w : World} {a : Option Addr} (h : NoCur w a) (n : Nat) : NoCur (w.drewN n) a := h
theorem valid_no (a : Option Addr) (w : World) (h : NoCur w a) :
    Calls Try.prog 40 #[.pointer a] w fun e w' => e = .returned (.bool false) ∧ w = w' := by
  rcases h with rfl | ⟨g, rfl, hc⟩
  · go_enter Try.func40, Try.ntmps40
    go_wp2
    go_ret
    exact ⟨rfl, rfl⟩
  · go_enter Try.func40, Try.ntmps40
    go_wp2
    go_ret
    exact ⟨rfl, rfl⟩
theorem reads_no (a : Option Addr) (w : World) (h : NoCur w a) :
    Calls Try.prog 38 #[.pointer a] w fun e w' => e = .returned (.bool false) ∧ w = w' := by
  have H := hid h
  clear h
  go_enter Try.func38, Try.ntmps38
  go_wp2_with (go_at_call 40; refine (valid_no _ _ H.out).mono ?_; rintro e w' ⟨rfl, rfl⟩)
  go_ret
  exact ⟨rfl, rfl⟩
theorem int_no (a : Option Addr) (size : Int) (sg : Bool) (w : World) (h : NoCur w a) :
    Calls Try.prog 26 #[.pointer a, .int .i64 size, .bool sg] w fun e w' => e = .returned (.int .i64 0) ∧ w = w' := by
  have H := hid h
  clear h
  go_enter Try.func26, Try.ntmps26
  go_wp2_with (go_at_call 38; refine (reads_no _ _ H.out).mono ?_; rintro e w' ⟨rfl, rfl⟩)
  go_ret
  exact ⟨rfl, rfl⟩
theorem byte_no (a : Option Addr) (w : World) (h : NoCur w a) :
    Calls Try.prog 27 #[.pointer a] w fun e w' => e = .returned (.int .i64 0) ∧ w = w' := by
  have H := hid h
  clear h
  go_enter Try.func27, Try.ntmps27
  go_wp2_with (go_at_call 26; refine (int_no _ _ _ _ H.out).mono ?_; rintro e w' ⟨rfl, rfl⟩)
  go_ret
  exact ⟨rfl, rfl⟩
theorem at_no (a : Option Addr) (w : World) (h : NoCur w a) :
    Calls Try.prog 28 #[.pointer a] w fun e w' => e = .returned (.int .i64 0) ∧ w = w' := by
  have H := hid h
  clear h
  go_enter Try.func28, Try.ntmps28
  go_wp2_with (go_at_call 40; refine (valid_no _ _ H.out).mono ?_; rintro e w' ⟨rfl, rfl⟩)
  go_ret
  exact ⟨rfl, rfl⟩
theorem err_no (a : Option Addr) (w : World) (h : NoCur w a) :
    Calls Try.prog 29 #[.pointer a] w fun e w' => e = .returned (.int .i64 1) ∧ w = w' := by
  have H := hid h
  clear h
  go_enter Try.func29, Try.ntmps29
  go_wp2_with (go_at_call 40; refine (valid_no _ _ H.out).mono ?_; rintro e w' ⟨rfl, rfl⟩)
  go_ret
  exact ⟨rfl, rfl⟩
/-- The same, the world told the other way about: for a region that draws its order. -/
theorem same_back {P : Program} {f : FuncId} {args : Array Value} {w : World} {v : Value} (h : Calls P f args w fun e w' => e = .returned v ∧ w = w') : Calls P f args w fun e w' => e = .returned v ∧ w' = w :=
  h.mono fun _ _ h => ⟨h.1, h.2.symm⟩
theorem peek_no (a : Option Addr) (w : World) (h : NoCur w a) :
    Calls Try.prog 25 #[.pointer a] w fun e w' => e = .returned (.tuple #[.int .i64 0, .bool false]) ∧ ∃ n, w' = w.drewN n := by
  have H := hid h
  clear h
  go_enter Try.func25, Try.ntmps25
  go_wp2_with fail
  go_quiet ((go_at_call 38; exact Calls.quiet_of_same (same_back (reads_no _ _ (H.out.drewN _)))))
  go_wp2
  go_ret2
  exact ⟨rfl, _, rfl⟩
end Go.Proofs.Ytlmhiokfkelflaa
