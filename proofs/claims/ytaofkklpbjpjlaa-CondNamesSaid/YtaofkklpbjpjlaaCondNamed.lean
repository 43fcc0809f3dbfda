/-
  What the statements on conditions share: contracts at known answers; awake.
-/
import Derived.Test.YtaofkklpbjpjlaaCondKit
import Derived.Test.YtaofkklpbjpjlaaCondRef
namespace Go.Proofs.Ytaofkklpbjpjlaa
open Go.RowKit

theorem parse_of {s : ByteArray} {v : Value} (h : PV (parseF s) = v) (w : World) :
    Calls Try.prog 9 #[.string s] w fun e w' => e = .returned v ∧ Below w.heap.size w w' := by
  have := parse_any s w
  rw [h] at this
  exact this
theorem cname_of {n : Int} {s : ByteArray} (h : ownF n = s) (w : World) :
    Calls Try.prog 14 #[.int .i64 n] w fun e w' => e = .returned (.string s) ∧ Below w.heap.size w w' := by
  have := cname_any n w
  rw [h] at this
  exact this
theorem not_of {n m : Int} (h : notF n = m) (w : World) :
    Calls Try.prog 15 #[.int .i64 n] w fun e w' => e = .returned (.int .i64 m) ∧ w = w' := by
  have := not_any n w
  rw [h] at this
  exact this
theorem swap_of {n m : Int} (h : swapF n = m) (w : World) :
    Calls Try.prog 17 #[.int .i64 n] w fun e w' => e = .returned (.int .i64 m) ∧ w = w' := by
  have := swap_any n w
  rw [h] at this
  exact this
theorem holds_of {n : Int} {c z s o p b : Bool} (h : holdsF n c z s o p = b) (w : World) :
    Calls Try.prog 19 #[.int .i64 n, FL c z s o p] w fun e w' => e = .returned (.bool b) ∧ Below w.heap.size w w' := by
  have := holds_any n c z s o p w
  rw [h] at this
  exact this
set_option maxHeartbeats 400000 in
theorem awake_any (w : World) : Calls Try.prog 21 #[] w fun e w' => e = .returned (.bool true) ∧ Below w.heap.size w w' := by
  go_enter Try.func21, Try.ntmps21
  go_wp2_with fail
  refine (parse_of (s := ⟨#[110, 103, 101]⟩) (v := .tuple #[.int .i64 12, .bool true]) (by rw [show parseF ⟨#[110, 103, 101]⟩ = some 12 by decide +kernel]; rfl) _).mono ?_
  rintro e w1 ⟨rfl, hb1⟩
  have B1 := hid hb1
  clear hb1
  go_wp2_with fail
  refine (cname_of (n := 4) (s := ⟨#[101]⟩) (by decide +kernel) _).mono ?_
  rintro e w2 ⟨rfl, hb2⟩
  have B2 := hid (B1.out.trans (hb2.mono B1.out.size))
  clear hb2
  go_wp2_with (first | (go_at_call 15; refine (not_of (n := 4) (m := 5) (by decide +kernel) _).mono ?_; rintro e w3 ⟨rfl, rfl⟩) | (go_at_call 17; refine (swap_of (n := 2) (m := 7) (by decide +kernel) _).mono ?_; rintro e w3 ⟨rfl, rfl⟩))
  refine (holds_of (n := 6) (c := false) (z := true) (s := false) (o := false) (p := false) (b := true) (by decide +kernel) _).mono ?_
  rintro e w4 ⟨rfl, hb4⟩
  have B4 := hid (B2.out.trans (hb4.mono B2.out.size))
  clear hb4
  go_wp2_with fail
  go_ret
  exact ⟨rfl, B4.out⟩
end Go.Proofs.Ytaofkklpbjpjlaa
