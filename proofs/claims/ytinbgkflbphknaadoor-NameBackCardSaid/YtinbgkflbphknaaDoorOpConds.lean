/-
  The walk of NameConds.
-/
import Derived.Test.YtinbgkflbphknaaDoorOpAwake
import Derived.Test.YtinbgkflbphknaaDoorPick
namespace Go.Proofs.YtinbgkflbphknaaDoor
open Go.RowKit

theorem pick_of {x m k : Int} (hm : 1 ≤ m) (hx : I64 m) (h : x % m = k) (w : World) :
    Calls Tryd.prog 21 #[.int .i64 x, .int .i64 m] w fun e w' => e = .returned (.int .i64 k) ∧ w = w' := by
  have := pick_any x m w hm hx
  rw [h] at this
  exact this
theorem cnames_of {k : Nat} (hk : k < 16) (w : World) :
    Calls Tryd.prog 20 #[.int .i64 k] w fun e w' => ∃ h, e = .returned (.slice (some ⟨h, 0, none⟩) (NB k).length (NB k).length) ∧ Hid (Row h (NB k) w') ∧ Below w.heap.size w w' := by
  refine (cnames_any k w).mono ?_
  rintro e w' ⟨A, rfl, HS, _, hb⟩
  rw [namesF_in hk] at HS ⊢
  rcases HS.out with ⟨h0, _⟩ | ⟨h, rfl, _, hr⟩
  · have := (NB_length k hk).1
    rw [h0] at this; simp at this
  · exact ⟨h, rfl, hid hr, hb⟩
theorem conds_read : ∀ k, k < 16 → ∀ b ∈ NB k, opF (⟨#[106]⟩ ++ b) = some (68 + (k : Int)) ∧ opF (⟨#[115, 101, 116]⟩ ++ b) = some (84 + (k : Int)) ∧ opF (⟨#[99, 109, 111, 118]⟩ ++ b) = some (100 + (k : Int)) := by decide +kernel
theorem conds_size : ∀ k, k < 16 → ∀ b ∈ NB k, b.size ≤ 3 := by decide +kernel
set_option maxRecDepth 100000 in
set_option maxHeartbeats 1000000 in
theorem conds_law (n which : Int) (w : World) (_ : I64 n) (_ : I64 which) : Calls Tryd.prog 5 #[.int .i64 n, .int .i64 which] w fun e w' => e = .returned (.bool true) ∧ Below w.heap.size w w' := by
  obtain ⟨k, hk, hk16⟩ : ∃ k : Nat, n % 16 = k ∧ k < 16 := ⟨(n % 16).toNat, by omega, by omega⟩
  obtain ⟨hl1, hl3⟩ := NB_length k hk16
  obtain ⟨j, hj, hjl⟩ : ∃ j : Nat, which % ((NB k).length : Int) = j ∧ j < (NB k).length := by
    have h0 := Int.emod_nonneg which (show ((NB k).length : Int) ≠ 0 by omega)
    have h1 := Int.emod_lt_of_pos which (show (0 : Int) < ((NB k).length : Int) by omega)
    exact ⟨(which % ((NB k).length : Int)).toNat, by omega, by omega⟩
  obtain ⟨b, hb⟩ : ∃ b, (NB k)[j]? = some b := ⟨_, List.getElem?_eq_getElem hjl⟩
  obtain ⟨h1, h2, h3⟩ := conds_read k hk16 b (List.mem_of_getElem? hb)
  have HP := hid (pick_of (by omega) (by unfold I64; omega) hk)
  have HQ := hid (pick_of (show (1 : Int) ≤ ((NB k).length : Int) by omega) (by unfold I64; omega) hj)
  have H1 := hid h1
  have H2 := hid h2
  have H3 := hid h3
  have HB := hid hb
  have HC0 := hid (cond_at0 (n := 68 + (k : Int)) (by omega) (by omega))
  have HC1 := hid (cond_at1 (n := 84 + (k : Int)) (by omega) (by omega))
  have HC2 := hid (cond_at2 (n := 100 + (k : Int)) (by omega) (by omega))
  have el : ((((NB k).length : Nat) : Int) == 0) = false := by rw [beq_eq_false_iff_ne]; omega
  have hj2 : (j : Int) < ((NB k).length : Int) := by omega
  have z0 : b.size ≤ 3 := conds_size k hk16 b (List.mem_of_getElem? hb)
  have z1 : (ByteArray.mk #[106]).size = 1 := rfl
  have z2 : (ByteArray.mk #[115, 101, 116]).size = 3 := rfl
  have z3 : (ByteArray.mk #[99, 109, 111, 118]).size = 4 := rfl
  clear hk hj h1 h2 h3 hb
  go_enter Tryd.func5, Tryd.ntmps5
  go_wp2_with fail
  refine (awake_any _).mono ?_
  rintro e w1 ⟨rfl, hb⟩
  have B1 := hid (hb)
  clear hb
  go_wp2_with fail
  refine (HP.out _).mono ?_
  rintro e w2 ⟨rfl, rfl⟩
  go_wp2_with fail
  refine (cnames_of hk16 _).mono ?_
  rintro e w3 ⟨h, rfl, HR, hb⟩
  have B3 := hid (B1.out.trans (hb.mono B1.out.size))
  clear hb
  have hcell := HR.out.2 j b HB.out
  go_wp2_with fail
  refine (HQ.out _).mono ?_
  rintro e w4 ⟨rfl, rfl⟩
  go_wp2_with fail
  refine (opcond_of HC0.out _).mono ?_
  rintro e w5 ⟨rfl, hb⟩
  have B5 := hid (B3.out.trans (hb.mono B3.out.size))
  clear hb
  go_wp2_with fail
  refine (opcond_of HC1.out _).mono ?_
  rintro e w6 ⟨rfl, hb⟩
  have B6 := hid (B5.out.trans (hb.mono B5.out.size))
  clear hb
  go_wp2_with fail
  refine (opcond_of HC2.out _).mono ?_
  rintro e w7 ⟨rfl, hb⟩
  have B7 := hid (B6.out.trans (hb.mono B6.out.size))
  clear hb
  go_wp2_with fail
  refine (is_yes H1.out _).mono ?_
  rintro e w8 ⟨rfl, hb⟩
  have B8 := hid (B7.out.trans (hb.mono B7.out.size))
  clear hb
  go_wp2_with fail
  refine (is_yes H2.out _).mono ?_
  rintro e w9 ⟨rfl, hb⟩
  have B9 := hid (B8.out.trans (hb.mono B8.out.size))
  clear hb
  go_wp2_with fail
  refine (is_yes H3.out _).mono ?_
  rintro e w10 ⟨rfl, hb⟩
  have B10 := hid (B9.out.trans (hb.mono B9.out.size))
  clear hb
  go_wp2_with fail
  go_ret
  exact ⟨rfl, B10.out⟩
end Go.Proofs.YtinbgkflbphknaaDoor
