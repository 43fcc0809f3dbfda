/-
  The number that any number says, below another one (the statements' Pick).
-/
import Derived.Test.YtiiepdgpnnjpiaaDoorBase
namespace Go.Proofs.YtiiepdgpnnjpiaaDoor
open Go.RowKit

def U8 (n : Int) : Prop := 0 ≤ n ∧ n < 256
theorem U8.of {n : Int} (h : (Lit.int .u8 n).wf = true) : U8 n := by
  have h' := h
  simp [Lit.wf, IntKind.min, IntKind.max, IntKind.signed, IntKind.bits] at h'
  exact ⟨by omega, by omega⟩
theorem pick_any (x m : Int) (w : World) (hm : 1 ≤ m) (hx : I64 m) :
    Calls Tryd.prog 23 #[.int .i64 x, .int .i64 m] w fun e w' => e = .returned (.int .i64 (x % m)) ∧ w = w' := by
  by_cases h : x.tmod m < 0
  · have H := hid (pick_neg hm hx h)
    clear hx
    go_enter Tryd.func23, Tryd.ntmps23
    go_wp2
    go_ret
    exact ⟨ret_i H.out, rfl⟩
  · have H := hid (pick_pos hm h)
    clear hx
    go_enter Tryd.func23, Tryd.ntmps23
    go_wp2
    go_ret
    exact ⟨ret_i H.out, rfl⟩
end Go.Proofs.YtiiepdgpnnjpiaaDoor
