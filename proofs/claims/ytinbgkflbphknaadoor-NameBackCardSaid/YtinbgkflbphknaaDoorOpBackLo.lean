/-
  The walk of NameBack: where the number is so: lo.
-/
import Derived.Test.YtinbgkflbphknaaDoorOpBack0
namespace Go.Proofs.YtinbgkflbphknaaDoor
open Go.RowKit

set_option maxRecDepth 100000 in
set_option maxHeartbeats 1000000 in
theorem back_lo_a {n other : Int} {s t : ByteArray} (hs : s.size ≤ 100) (HT : Hid (nmF n = t)) (hz : t.size ≤ 100) (HG : Hid (∀ i, i < t.size → (97 ≤ ch t i ∧ ch t i ≤ 122) ∨ (1 ≤ i ∧ 48 ≤ ch t i ∧ ch t i ≤ 57)))
    (HV : Hid (okF n = false)) (h1 : n < 1) (he : (t.toList == []) = true) (HS : Hid (opF s = none)) (w : World) :
    Calls Tryd.prog 4 #[.int .i64 n, .int .i64 other, .string s] w fun e w' => e = .returned (.bool true) ∧ Below w.heap.size w w' := by
  have hs1 : ¬ ((100 : Int) < (s.size : Int)) := by omega
  have hb8 := get_ch t
  go_enter Tryd.func4, Tryd.ntmps4
  go_wp2_with fail
  refine (awake_any _).mono ?_
  rintro e w1 ⟨rfl, hb⟩
  have B1 := hid (hb)
  clear hb
  go_wp2_with fail
  refine (opname_of HT.out _).mono ?_
  rintro e w2 ⟨rfl, hb⟩
  have B2 := hid (B1.out.trans (hb.mono B1.out.size))
  clear hb
  go_wp2_with fail
  refine (valid_of HV.out _).mono ?_
  rintro e w3 ⟨rfl, rfl⟩
  go_wp2_with fail
  refine (valid_of HV.out _).mono ?_
  rintro e w4 ⟨rfl, rfl⟩
  go_wp2_with fail
  go_loop [9] (fun i => ∃ k : Nat, k ≤ t.size ∧ i = .int .i64 k) (fun i => t.size - (intOf i).toNat)
  case atStart => exact ⟨0, by omega, rfl⟩
  case round =>
    obtain ⟨k, hk, rfl⟩ := hrel
    by_cases hlt : k < t.size
    · rcases HG.out k hlt with ⟨g1, g2⟩ | ⟨g0, g1, g2⟩
      · go_wp2_with fail
        go_round
        case rel => exact ⟨k + 1, by omega, by go_num⟩
        case measure => simp [intOf]; omega
      · have g3 : ¬ (97 ≤ ch t k) := by omega
        have g4 : ((k : Int) == 0) = false := by rw [beq_eq_false_iff_ne]; omega
        go_wp2_with fail
        go_round
        case rel => exact ⟨k + 1, by omega, by go_num⟩
        case measure => simp [intOf]; omega
    · clear hb8
      go_wp2_with fail
      refine (op_of HS.out _).mono ?_
      rintro e v1 ⟨rfl, hb⟩
      have C1 := hid (B2.out.trans (hb.mono B2.out.size))
      clear hb
      go_wp2_with fail
      go_ret
      exact ⟨rfl, C1.out⟩
set_option maxRecDepth 100000 in
set_option maxHeartbeats 1000000 in
theorem back_lo_b0 {n other : Int} {s t : ByteArray} (hs : s.size ≤ 100) (HT : Hid (nmF n = t)) (hz : t.size ≤ 100) (HG : Hid (∀ i, i < t.size → (97 ≤ ch t i ∧ ch t i ≤ 122) ∨ (1 ≤ i ∧ 48 ≤ ch t i ∧ ch t i ≤ 57)))
    (HV : Hid (okF n = false)) (h1 : n < 1) (he : (t.toList == []) = true) {m : Int} {q : ByteArray} (HS : Hid (opF s = some m)) (HVm : Hid (okF m = true)) (HMn : Hid (nmF m = q)) (hq : (q.toList == s.toList) = true) (HC : Hid (condF m = none)) (w : World) :
    Calls Tryd.prog 4 #[.int .i64 n, .int .i64 other, .string s] w fun e w' => e = .returned (.bool true) ∧ Below w.heap.size w w' := by
  have hs1 : ¬ ((100 : Int) < (s.size : Int)) := by omega
  have hb8 := get_ch t
  go_enter Tryd.func4, Tryd.ntmps4
  go_wp2_with fail
  refine (awake_any _).mono ?_
  rintro e w1 ⟨rfl, hb⟩
  have B1 := hid (hb)
  clear hb
  go_wp2_with fail
  refine (opname_of HT.out _).mono ?_
  rintro e w2 ⟨rfl, hb⟩
  have B2 := hid (B1.out.trans (hb.mono B1.out.size))
  clear hb
  go_wp2_with fail
  refine (valid_of HV.out _).mono ?_
  rintro e w3 ⟨rfl, rfl⟩
  go_wp2_with fail
  refine (valid_of HV.out _).mono ?_
  rintro e w4 ⟨rfl, rfl⟩
  go_wp2_with fail
  go_loop [9] (fun i => ∃ k : Nat, k ≤ t.size ∧ i = .int .i64 k) (fun i => t.size - (intOf i).toNat)
  case atStart => exact ⟨0, by omega, rfl⟩
  case round =>
    obtain ⟨k, hk, rfl⟩ := hrel
    by_cases hlt : k < t.size
    · rcases HG.out k hlt with ⟨g1, g2⟩ | ⟨g0, g1, g2⟩
      · go_wp2_with fail
        go_round
        case rel => exact ⟨k + 1, by omega, by go_num⟩
        case measure => simp [intOf]; omega
      · have g3 : ¬ (97 ≤ ch t k) := by omega
        have g4 : ((k : Int) == 0) = false := by rw [beq_eq_false_iff_ne]; omega
        go_wp2_with fail
        go_round
        case rel => exact ⟨k + 1, by omega, by go_num⟩
        case measure => simp [intOf]; omega
    · clear hb8
      go_wp2_with fail
      refine (op_of HS.out _).mono ?_
      rintro e v1 ⟨rfl, hb⟩
      have C1 := hid (B2.out.trans (hb.mono B2.out.size))
      clear hb
      go_wp2_with fail
      refine (opcond_of HC.out _).mono ?_
      rintro e v2 ⟨rfl, hb⟩
      have C2 := hid (C1.out.trans (hb.mono C1.out.size))
      clear hb
      go_wp2_with fail
      refine (valid_of HVm.out _).mono ?_
      rintro e v3 ⟨rfl, rfl⟩
      go_wp2_with fail
      refine (opname_of HMn.out _).mono ?_
      rintro e v4 ⟨rfl, hb⟩
      have C4 := hid (C2.out.trans (hb.mono C2.out.size))
      clear hb
      go_wp2_with fail
      go_ret
      exact ⟨rfl, C4.out⟩
set_option maxRecDepth 100000 in
set_option maxHeartbeats 1000000 in
theorem back_lo_b1 {n other : Int} {s t : ByteArray} (hs : s.size ≤ 100) (HT : Hid (nmF n = t)) (hz : t.size ≤ 100) (HG : Hid (∀ i, i < t.size → (97 ≤ ch t i ∧ ch t i ≤ 122) ∨ (1 ≤ i ∧ 48 ≤ ch t i ∧ ch t i ≤ 57)))
    (HV : Hid (okF n = false)) (h1 : n < 1) (he : (t.toList == []) = true) {m d : Int} {q : ByteArray} (HS : Hid (opF s = some m)) (HVm : Hid (okF m = true)) (HMn : Hid (nmF m = q)) (hq : (q.toList == s.toList) = true) (HC : Hid (condF m = some d)) (w : World) :
    Calls Tryd.prog 4 #[.int .i64 n, .int .i64 other, .string s] w fun e w' => e = .returned (.bool true) ∧ Below w.heap.size w w' := by
  have hs1 : ¬ ((100 : Int) < (s.size : Int)) := by omega
  have hb8 := get_ch t
  go_enter Tryd.func4, Tryd.ntmps4
  go_wp2_with fail
  refine (awake_any _).mono ?_
  rintro e w1 ⟨rfl, hb⟩
  have B1 := hid (hb)
  clear hb
  go_wp2_with fail
  refine (opname_of HT.out _).mono ?_
  rintro e w2 ⟨rfl, hb⟩
  have B2 := hid (B1.out.trans (hb.mono B1.out.size))
  clear hb
  go_wp2_with fail
  refine (valid_of HV.out _).mono ?_
  rintro e w3 ⟨rfl, rfl⟩
  go_wp2_with fail
  refine (valid_of HV.out _).mono ?_
  rintro e w4 ⟨rfl, rfl⟩
  go_wp2_with fail
  go_loop [9] (fun i => ∃ k : Nat, k ≤ t.size ∧ i = .int .i64 k) (fun i => t.size - (intOf i).toNat)
  case atStart => exact ⟨0, by omega, rfl⟩
  case round =>
    obtain ⟨k, hk, rfl⟩ := hrel
    by_cases hlt : k < t.size
    · rcases HG.out k hlt with ⟨g1, g2⟩ | ⟨g0, g1, g2⟩
      · go_wp2_with fail
        go_round
        case rel => exact ⟨k + 1, by omega, by go_num⟩
        case measure => simp [intOf]; omega
      · have g3 : ¬ (97 ≤ ch t k) := by omega
        have g4 : ((k : Int) == 0) = false := by rw [beq_eq_false_iff_ne]; omega
        go_wp2_with fail
        go_round
        case rel => exact ⟨k + 1, by omega, by go_num⟩
        case measure => simp [intOf]; omega
    · clear hb8
      go_wp2_with fail
      refine (op_of HS.out _).mono ?_
      rintro e v1 ⟨rfl, hb⟩
      have C1 := hid (B2.out.trans (hb.mono B2.out.size))
      clear hb
      go_wp2_with fail
      refine (opcond_of HC.out _).mono ?_
      rintro e v2 ⟨rfl, hb⟩
      have C2 := hid (C1.out.trans (hb.mono C1.out.size))
      clear hb
      go_wp2_with fail
      refine (valid_of HVm.out _).mono ?_
      rintro e v3 ⟨rfl, rfl⟩
      go_wp2_with fail
      refine (opname_of HMn.out _).mono ?_
      rintro e v4 ⟨rfl, hb⟩
      have C4 := hid (C2.out.trans (hb.mono C2.out.size))
      clear hb
      go_wp2_with fail
      go_ret
      exact ⟨rfl, C4.out⟩
set_option maxRecDepth 100000 in
set_option maxHeartbeats 1000000 in
theorem back_lo_c {n other : Int} {s t : ByteArray} (hs : s.size ≤ 100) (HT : Hid (nmF n = t)) (hz : t.size ≤ 100) (HG : Hid (∀ i, i < t.size → (97 ≤ ch t i ∧ ch t i ≤ 122) ∨ (1 ≤ i ∧ 48 ≤ ch t i ∧ ch t i ≤ 57)))
    (HV : Hid (okF n = false)) (h1 : n < 1) (he : (t.toList == []) = true) {m : Int} {c : Nat} {q : ByteArray} (HS : Hid (opF s = some m)) (HVm : Hid (okF m = true)) (HMn : Hid (nmF m = q)) (hq : (q.toList == s.toList) = false) (hc : c < 16) (HC : Hid (condF m = some (c : Int))) (HEn : Hid (endsF s (NB c) = true)) (w : World) :
    Calls Tryd.prog 4 #[.int .i64 n, .int .i64 other, .string s] w fun e w' => e = .returned (.bool true) ∧ Below w.heap.size w w' := by
  have hs1 : ¬ ((100 : Int) < (s.size : Int)) := by omega
  have hb8 := get_ch t
  go_enter Tryd.func4, Tryd.ntmps4
  go_wp2_with fail
  refine (awake_any _).mono ?_
  rintro e w1 ⟨rfl, hb⟩
  have B1 := hid (hb)
  clear hb
  go_wp2_with fail
  refine (opname_of HT.out _).mono ?_
  rintro e w2 ⟨rfl, hb⟩
  have B2 := hid (B1.out.trans (hb.mono B1.out.size))
  clear hb
  go_wp2_with fail
  refine (valid_of HV.out _).mono ?_
  rintro e w3 ⟨rfl, rfl⟩
  go_wp2_with fail
  refine (valid_of HV.out _).mono ?_
  rintro e w4 ⟨rfl, rfl⟩
  go_wp2_with fail
  go_loop [9] (fun i => ∃ k : Nat, k ≤ t.size ∧ i = .int .i64 k) (fun i => t.size - (intOf i).toNat)
  case atStart => exact ⟨0, by omega, rfl⟩
  case round =>
    obtain ⟨k, hk, rfl⟩ := hrel
    by_cases hlt : k < t.size
    · rcases HG.out k hlt with ⟨g1, g2⟩ | ⟨g0, g1, g2⟩
      · go_wp2_with fail
        go_round
        case rel => exact ⟨k + 1, by omega, by go_num⟩
        case measure => simp [intOf]; omega
      · have g3 : ¬ (97 ≤ ch t k) := by omega
        have g4 : ((k : Int) == 0) = false := by rw [beq_eq_false_iff_ne]; omega
        go_wp2_with fail
        go_round
        case rel => exact ⟨k + 1, by omega, by go_num⟩
        case measure => simp [intOf]; omega
    · clear hb8
      go_wp2_with fail
      refine (op_of HS.out _).mono ?_
      rintro e v1 ⟨rfl, hb⟩
      have C1 := hid (B2.out.trans (hb.mono B2.out.size))
      clear hb
      go_wp2_with fail
      refine (opcond_of HC.out _).mono ?_
      rintro e v2 ⟨rfl, hb⟩
      have C2 := hid (C1.out.trans (hb.mono C1.out.size))
      clear hb
      go_wp2_with fail
      refine (valid_of HVm.out _).mono ?_
      rintro e v3 ⟨rfl, rfl⟩
      go_wp2_with fail
      refine (opname_of HMn.out _).mono ?_
      rintro e v4 ⟨rfl, hb⟩
      have C4 := hid (C2.out.trans (hb.mono C2.out.size))
      clear hb
      go_wp2_with fail
      refine (cnames_of hc _).mono ?_
      rintro e v5 ⟨h, rfl, HR, hb⟩
      have C5 := hid (C4.out.trans (hb.mono C4.out.size))
      clear hb
      have HZ := hid ((NB_length c hc).2)
      go_wp2_with fail
      refine (ends_of' HEn.out HR.out HZ.out hs).mono ?_
      rintro e v6 ⟨rfl, hb⟩
      have C6 := hid (C5.out.trans (hb.mono C5.out.size))
      clear hb
      go_wp2_with fail
      go_ret
      exact ⟨rfl, C6.out⟩
end Go.Proofs.YtinbgkflbphknaaDoor
