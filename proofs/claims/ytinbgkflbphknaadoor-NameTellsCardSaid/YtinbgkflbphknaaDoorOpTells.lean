/-
  The walk of NameTells.
-/
import Derived.Test.YtinbgkflbphknaaDoorOpAwake
import Derived.Test.YtinbgkflbphknaaDoorOpRefParse
namespace Go.Proofs.YtinbgkflbphknaaDoor
open Go.RowKit

theorem rop_of {s : ByteArray} {o : Option Int} (h : opF s = o) (w : World) :
    Calls Tryd.prog 8 #[.string s] w fun e w' => e = .returned (OV o) ∧ Below w.heap.size w w' := by
  have := ropparse_any s w
  rw [h] at this
  exact this
theorem ropname_of {n : Int} {s : ByteArray} (h : nmF n = s) (w : World) :
    Calls Tryd.prog 16 #[.int .i64 n] w fun e w' => e = .returned (.string s) ∧ Below w.heap.size w w' := by
  have := ropname_any n w
  rw [h] at this
  exact this
set_option maxRecDepth 100000 in
set_option maxHeartbeats 1000000 in
theorem tells_law (n : Int) (s : ByteArray) (w : World) (_ : I64 n) (_ : s.size ≤ 9223372036854775807) : Calls Tryd.prog 3 #[.int .i64 n, .string s] w fun e w' => e = .returned (.bool true) ∧ Below w.heap.size w w' := by
  by_cases hl : (100 : Int) < s.size
  · go_enter Tryd.func3, Tryd.ntmps3
    go_wp2
    go_ret
    exact ⟨rfl, Below.refl _ _⟩
  obtain ⟨⟨b, sg⟩, hp⟩ : ∃ p, immG n = p := ⟨_, rfl⟩
  obtain ⟨t, ht⟩ : ∃ t, nmF n = t := ⟨_, rfl⟩
  have HP := hid hp
  have HT := hid ht
  clear hp ht
  cases ho : opF s
  all_goals cases hc : condF n
  all_goals cases hv : okF n
  all_goals
    have HO := hid ho
    have HC := hid hc
    have HV := hid hv
    clear ho hc hv
    go_enter Tryd.func3, Tryd.ntmps3
    go_wp2_with fail
    refine (op_of HO.out _).mono ?_
    rintro e w1 ⟨rfl, hb⟩
    have B1 := hid (hb)
    clear hb
    go_wp2_with fail
    refine (rop_of HO.out _).mono ?_
    rintro e w2 ⟨rfl, hb⟩
    have B2 := hid (B1.out.trans (hb.mono B1.out.size))
    clear hb
    go_wp2_with fail
    refine (opcond_of HC.out _).mono ?_
    rintro e w3 ⟨rfl, hb⟩
    have B3 := hid (B2.out.trans (hb.mono B2.out.size))
    clear hb
    go_wp2_with fail
    refine (ropcond_of HC.out _).mono ?_
    rintro e w4 ⟨rfl, hb⟩
    have B4 := hid (B3.out.trans (hb.mono B3.out.size))
    clear hb
    go_wp2_with fail
    refine (imm7_of HP.out _).mono ?_
    rintro e w5 ⟨rfl, rfl⟩
    go_wp2_with fail
    refine (rimm7_of HP.out _).mono ?_
    rintro e w6 ⟨rfl, rfl⟩
    go_wp2_with fail
    refine (valid_of HV.out _).mono ?_
    rintro e w7 ⟨rfl, rfl⟩
    go_wp2_with fail
    refine (rvalid_of HV.out _).mono ?_
    rintro e w8 ⟨rfl, rfl⟩
    go_wp2_with fail
    refine (opname_of HT.out _).mono ?_
    rintro e w9 ⟨rfl, hb⟩
    have B9 := hid (B4.out.trans (hb.mono B4.out.size))
    clear hb
    go_wp2_with fail
    refine (ropname_of HT.out _).mono ?_
    rintro e w10 ⟨rfl, hb⟩
    have B10 := hid (B9.out.trans (hb.mono B9.out.size))
    clear hb
    go_wp2_with fail
    refine (awake_any _).mono ?_
    rintro e w11 ⟨rfl, hb⟩
    have B11 := hid (B10.out.trans (hb.mono B10.out.size))
    clear hb
    go_wp2_with fail
    go_ret
    exact ⟨rfl, B11.out⟩
end Go.Proofs.YtinbgkflbphknaaDoor
