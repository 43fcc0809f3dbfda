/-
  What the statements on mnemonics share: contracts at known answers; is, awake.
-/
import Derived.Test.YtinbgkflbphknaaDoorOpParse
import Derived.Test.YtinbgkflbphknaaDoorOpCond
namespace Go.Proofs.YtinbgkflbphknaaDoor
open Go.RowKit

theorem opname_of {n : Int} {s : ByteArray} (h : nmF n = s) (w : World) :
    Calls Tryd.prog 15 #[.int .i64 n] w fun e w' => e = .returned (.string s) ∧ Below w.heap.size w w' := by
  have := opname_any n w
  rw [h] at this
  exact this
theorem op_of {s : ByteArray} {o : Option Int} (h : opF s = o) (w : World) :
    Calls Tryd.prog 7 #[.string s] w fun e w' => e = .returned (OV o) ∧ Below w.heap.size w w' := by
  have := opparse_any s w
  rw [h] at this
  exact this
theorem imm7_of {n : Int} {p : Int × Bool} (h : immG n = p) (w : World) :
    Calls Tryd.prog 11 #[.int .i64 n] w fun e w' => e = .returned (IV p) ∧ w = w' := by
  have := imm7_any n w
  rw [h] at this
  exact this
theorem rimm7_of {n : Int} {p : Int × Bool} (h : immG n = p) (w : World) :
    Calls Tryd.prog 12 #[.int .i64 n] w fun e w' => e = .returned (IV p) ∧ w = w' := by
  have := rimm7_any n w
  rw [h] at this
  exact this
/-- Whether a text is read as a mnemonic. -/
theorem is_yes {s : ByteArray} {n : Int} (h : opF s = some n) (w : World) :
    Calls Tryd.prog 18 #[.string s, .int .i64 n] w fun e w' => e = .returned (.bool true) ∧ Below w.heap.size w w' := by
  have H := hid h
  clear h
  go_enter Tryd.func18, Tryd.ntmps18
  go_wp2_with fail
  refine (op_of H.out _).mono ?_
  rintro e w1 ⟨rfl, hb⟩
  go_wp2_with fail
  go_ret
  exact ⟨rfl, hb⟩
theorem awake_any (w : World) : Calls Tryd.prog 17 #[] w fun e w' => e = .returned (.bool true) ∧ Below w.heap.size w w' := by
  go_enter Tryd.func17, Tryd.ntmps17
  go_wp2_with fail
  refine (opname_of (n := 1) (s := ⟨#[97, 100, 100]⟩) (by decide +kernel) _).mono ?_
  rintro e w1 ⟨rfl, hb⟩
  have B1 := hid (hb)
  clear hb
  go_wp2_with fail
  refine (is_yes (s := ⟨#[108, 101, 97]⟩) (n := 12) (by decide +kernel) _).mono ?_
  rintro e w2 ⟨rfl, hb⟩
  have B2 := hid (B1.out.trans (hb.mono B1.out.size))
  clear hb
  go_wp2_with fail
  refine (is_yes (s := ⟨#[106, 122]⟩) (n := 72) (by decide +kernel) _).mono ?_
  rintro e w3 ⟨rfl, hb⟩
  have B3 := hid (B2.out.trans (hb.mono B2.out.size))
  clear hb
  go_wp2_with fail
  refine (valid_of (n := 322) (b := true) (by decide) _).mono ?_
  rintro e w4 ⟨rfl, rfl⟩
  go_wp2_with fail
  refine (valid_of (n := 323) (b := false) (by decide) _).mono ?_
  rintro e w5 ⟨rfl, rfl⟩
  go_wp2_with fail
  go_ret
  exact ⟨rfl, B3.out⟩
end Go.Proofs.YtinbgkflbphknaaDoor
