/-
  The walk of OperandImm.
-/
import Derived.Test.YtnchamgnllnflaaArgLaw
namespace Go.Proofs.Ytnchamgnllnflaa
open Go.RowKit

theorem imm_law (n b : Int) (s : Bool) (w : World) (hn : I64 n) (_hb : I64 b) :
    Calls Try.prog 4 #[.int .i64 n, .int .i64 b, .bool s] w fun e w' => e = .returned (.bool true) ∧ Below w.heap.size w w' := by
  obtain ⟨v, hv⟩ : ∃ v, immV n b s = v := ⟨_, rfl⟩
  obtain ⟨k, hk⟩ : ∃ k, immE n b = k := ⟨_, rfl⟩
  have HV := hid hv
  have HK := hid hk
  have HN := hid hn
  clear hv hk hn _hb
  go_enter Try.func4, Try.ntmps4
  go_wp2_with fail
  refine (imm_of HN.out HV.out HK.out _).mono ?_
  rintro e w1 ⟨rfl, hb1⟩
  go_wp2_with fail
  refine (rimm_of HN.out HV.out HK.out _).mono ?_
  rintro e w2 ⟨rfl, rfl⟩
  go_wp2_with (go_at_call 16; refine (awake_any _).mono ?_; rintro e w2 ⟨rfl, hb2⟩)
  go_returns
  exact ⟨by trivial, hb1.trans (hb2.mono hb1.size)⟩
end Go.Proofs.Ytnchamgnllnflaa
