/-
  The document's Hex and Dec.
-/
import Derived.Test.YtibhpfddjlnbmaaDoorTold
import Derived.Deep.QuietTactic
import Derived.BigQuiet
namespace Go.Proofs.YtibhpfddjlnbmaaDoor
open Go.RowKit

def pre (b v : Nat) : List Int := if v = 0 then [] else digs b v
theorem digs_next {b : Nat} (hb : 2 ≤ b) (v : Nat) : digs b v = pre b (v / b) ++ [dc (v % b)] := by
  unfold pre
  rcases Nat.lt_or_ge v b with h | h
  · rw [digs_small h, Nat.div_eq_of_lt h, if_pos rfl, Nat.mod_eq_of_lt h]; rfl
  · rw [digs_big hb h, if_neg (by have := Nat.div_pos h (by omega); omega)]
theorem pre_next {b v : Nat} (hb : 2 ≤ b) (hv : 0 < v) : pre b v = pre b (v / b) ++ [dc (v % b)] := by
  rw [← digs_next hb v]; unfold pre; rw [if_neg (by omega)]
def D16 : ByteArray := ⟨#[48, 49, 50, 51, 52, 53, 54, 55, 56, 57, 97, 98, 99, 100, 101, 102]⟩
theorem D16_one_fin : ∀ d : Fin 16, nums (D16.extract d.val (d.val + 1)) = [dc d.val] := by decide +kernel
theorem D16_one {d : Nat} (h : d < 16) : nums (D16.extract d (d + 1)) = [dc d] := D16_one_fin ⟨d, h⟩
/-- What holds between rounds. -/
def TellInv (b u v : Nat) (S : ByteArray) : Prop := (S.size = 0 ∧ v = u) ∨ (S.size ≠ 0 ∧ digs b u = pre b v ++ nums S)
theorem TellInv.next {b u v : Nat} {S : ByteArray} (hb : 2 ≤ b) (hb16 : b ≤ 16) (h : TellInv b u v S) (hv : 0 < v ∨ S.size = 0) : TellInv b u (v / b) (D16.extract (v % b) (v % b + 1) ++ S) := by
  have hm : v % b < 16 := Nat.lt_of_lt_of_le (Nat.mod_lt _ (by omega)) hb16
  have hd := D16_one hm
  have hsz : (D16.extract (v % b) (v % b + 1)).size = 1 := by rw [← nums_length, hd]; rfl
  refine .inr ⟨by rw [ByteArray.size_append]; omega, ?_⟩
  rw [nums_append, hd]
  rcases h with ⟨h0, rfl⟩ | ⟨h0, h1⟩
  · have : nums S = [] := by have := nums_length S; rw [h0] at this; exact List.eq_nil_of_length_eq_zero this
    rw [this, digs_next hb]; simp
  · rw [h1, pre_next hb (by omega)]; simp
theorem TellInv.done {b u : Nat} {S : ByteArray} (h : TellInv b u 0 S) (h0 : S.size ≠ 0) : nums S = digs b u := by
  rcases h with ⟨h1, _⟩ | ⟨_, h1⟩
  · exact absurd h1 h0
  · rw [h1]; rfl
theorem TellInv.small {b u v : Nat} {S : ByteArray} (hb : b = 10 ∨ b = 16) (hu : u < 18446744073709551616) (h : TellInv b u v S) : S.size ≤ 20 := by
  rcases h with ⟨h0, _⟩ | ⟨_, h1⟩
  · omega
  · have := digs_twenty hb hu
    rw [h1, List.length_append, nums_length] at this
    omega
theorem empty_list {S : ByteArray} (h : S.size = 0) : S.toList = [] := by
  have : S.toList.length = 0 := by rw [ByteArray.toList_eq]; exact h
  exact List.eq_nil_of_length_eq_zero this
theorem ne_list {S : ByteArray} (h : S.size ≠ 0) : S.toList.isEmpty = false := by
  rw [ByteArray.toList_eq]
  cases hl : S.data.toList with
  | nil => exact absurd (by have := congrArg List.length hl; simpa using this : S.size = 0) h
  | cons a r => rfl
set_option maxHeartbeats 4000000 in
set_option maxRecDepth 100000 in
theorem tell_neg (n : Int) (b : Nat) (B : ByteArray) (hb : b = 10 ∨ b = 16) (hn : I64 n) (hB : B.size ≤ 2) (h : n < 0) (w : World) :
    Calls Tryd.prog 28 #[.int .i64 n, .int .u64 b, .string B] w fun e w' => ∃ T : ByteArray, e = .returned (.string T) ∧ nums T = told b (nums B) n ∧ Below w.heap.size w w' := by
  have H2 := hid (told_neg (b := b) (before := nums B) h)
  have hw : IntKind.u64.wrap (-IntKind.u64.wrap n) = ((mag n : Nat) : Int) := by
    rw [IntKind.wrap_u64, IntKind.wrap_u64]; unfold mag; unfold I64 at hn; omega
  have hm : mag n < 18446744073709551616 := by unfold mag; unfold I64 at hn; omega
  have hbl : 2 ≤ b := by omega
  have hbh : b ≤ 16 := by omega
  have HB0 := hid hb
  clear hn hb
  go_enter Tryd.func28, Tryd.ntmps28
  go_name_bytes_deep 12 DG hDG
  have eDG : DG = D16 := hDG.symm
  subst eDG
  clear hDG
  go_wp2
  go_loopw [7, 9] (fun a s wr => ∃ (v : Nat) (S : ByteArray), a = .int .u64 v ∧ s = .string S ∧ v ≤ mag n ∧ Hid (TellInv b (mag n) v S) ∧ Below w.heap.size w wr) (fun a s _ => (intOf a).toNat + (match s with | .string S => if S.size = 0 then 1 else 0 | _ => 0))
  case atStart => exact ⟨mag n, _, rfl, rfl, by omega, hid (.inl ⟨rfl, rfl⟩), Below.refl _ _⟩
  case round =>
    obtain ⟨v, S, rfl, rfl, hv, HI, hbel⟩ := hrel
    have hS := HI.out.small HB0.out hm
    have HB := hid hbel
    clear hbel
    obtain ⟨m, hmm⟩ : ∃ m : Nat, m = v % b := ⟨_, rfl⟩
    have hm16 : m < 16 := by rw [hmm]; exact Nat.lt_of_lt_of_le (Nat.mod_lt _ (by omega)) hbh
    have e1 : (v : Int).tmod b = m := by rw [Int.tmod_eq_emod_of_nonneg (by omega), hmm]; rfl
    have e2 : (v : Int) % b = m := by rw [hmm]; rfl
    have e3 : IntKind.u64.wrap ((m : Int) + 1) = (m : Int) + 1 := by rw [IntKind.wrap_u64]; omega
    have hsl : ∀ W, (Instr.slice 9 (.string D16) (some (.int .u64 m)) (some (.int .u64 ((m : Int) + 1))) none).run Tryd.prog W = .ok (.string (D16.extract m (m + 1))) W := fun W => by
      rw [run_slice_string W 9 D16 .u64 .u64 _ _ Tryd.underlying9 (by omega) (by omega) (by rw [show D16.size = 16 from rfl]; omega)]
      rw [show ((m : Int)).toNat = m by omega, show ((m : Int) + 1).toNat = m + 1 by omega]
    have hsz : (D16.extract m (m + 1)).size = 1 := by rw [← nums_length, D16_one hm16]; rfl
    have HM := hid hmm
    clear hmm
    obtain ⟨q, hq⟩ : ∃ q : Nat, q = v / b := ⟨_, rfl⟩
    have hqv : q ≤ v := by rw [hq]; exact Nat.div_le_self _ _
    have e4 : (v : Int).tdiv b = q := by rw [Int.tdiv_eq_ediv_of_nonneg (by omega), hq]; rfl
    have e5 : (v : Int) / b = q := by rw [hq]; rfl
    have e6 : IntKind.u64.wrap (q : Int) = q := by rw [IntKind.wrap_u64]; omega
    have HD := hid hq
    have HV := hid hv
    have HQ := hid hqv
    clear hq hv hqv
    by_cases hv0 : 0 < v
    · have HV0 := hid hv0
      go_wp2_with fail
      go_region
      all_goals
        go_wp2_with fail
        go_roundw
        case rel => exact ⟨q, _, rfl, rfl, Nat.le_trans HQ.out HV.out, hid (by rw [HM.out, HD.out]; exact HI.out.next hbl hbh (.inl HV0.out)), HB.out.drew⟩
        case measure =>
          have := Nat.div_lt_self HV0.out (show 1 < b by omega)
          simp [intOf, ByteArray.size_append, hsz]
          rw [← HD.out] at this; omega
    · have H00 := hid (show v = 0 by omega)
      by_cases hS0 : S.size = 0
      · have l1 := empty_list hS0
        have l2 : S.toList.isEmpty = true := by rw [l1]; rfl
        have HS0 := hid hS0
        go_wp2_with fail
        go_region
        all_goals
          go_wp2_with fail
          go_roundw
          case rel => exact ⟨q, _, rfl, rfl, Nat.le_trans HQ.out HV.out, hid (by rw [HM.out, HD.out]; exact HI.out.next hbl hbh (.inr HS0.out)), HB.out.drew⟩
          case measure =>
            have := HQ.out; have := H00.out
            simp [intOf, ByteArray.size_append, hsz, HS0.out]; omega
      · have l2 := ne_list hS0
        have l3 : (!S.toList.isEmpty) = true := by rw [l2]; rfl
        have l4 : (S.toList == []) = false := by cases hl : S.toList with
          | nil => rw [hl] at l2; cases l2
          | cons a r => rfl
        have HS := hid ((show TellInv b (mag n) 0 S by have := HI.out; rw [H00.out] at this; exact this).done hS0)
        clear hS0
        go_wp2_with fail
        go_ret
        exact ⟨_, rfl, by rw [H2.out, nums_append, nums_append, HS.out]; rfl, HB.out⟩
theorem nums_nil : nums ⟨#[]⟩ = [] := rfl
set_option maxHeartbeats 4000000 in
set_option maxRecDepth 100000 in
theorem tell_pos (n : Int) (b : Nat) (B : ByteArray) (hb : b = 10 ∨ b = 16) (hn : I64 n) (hB : B.size ≤ 2) (h : ¬ n < 0) (w : World) :
    Calls Tryd.prog 28 #[.int .i64 n, .int .u64 b, .string B] w fun e w' => ∃ T : ByteArray, e = .returned (.string T) ∧ nums T = told b (nums B) n ∧ Below w.heap.size w w' := by
  have H2 := hid (told_pos (b := b) (before := nums B) h)
  have hw : IntKind.u64.wrap n = ((mag n : Nat) : Int) := by
    rw [IntKind.wrap_u64]; unfold mag; unfold I64 at hn; omega
  have hm : mag n < 18446744073709551616 := by unfold mag; unfold I64 at hn; omega
  have hbl : 2 ≤ b := by omega
  have hbh : b ≤ 16 := by omega
  have HB0 := hid hb
  clear hn hb
  go_enter Tryd.func28, Tryd.ntmps28
  go_name_bytes_deep 12 DG hDG
  have eDG : DG = D16 := hDG.symm
  subst eDG
  clear hDG
  go_wp2
  go_loopw [7, 9] (fun a s wr => ∃ (v : Nat) (S : ByteArray), a = .int .u64 v ∧ s = .string S ∧ v ≤ mag n ∧ Hid (TellInv b (mag n) v S) ∧ Below w.heap.size w wr) (fun a s _ => (intOf a).toNat + (match s with | .string S => if S.size = 0 then 1 else 0 | _ => 0))
  case atStart => exact ⟨mag n, _, rfl, rfl, by omega, hid (.inl ⟨rfl, rfl⟩), Below.refl _ _⟩
  case round =>
    obtain ⟨v, S, rfl, rfl, hv, HI, hbel⟩ := hrel
    have hS := HI.out.small HB0.out hm
    have HB := hid hbel
    clear hbel
    obtain ⟨m, hmm⟩ : ∃ m : Nat, m = v % b := ⟨_, rfl⟩
    have hm16 : m < 16 := by rw [hmm]; exact Nat.lt_of_lt_of_le (Nat.mod_lt _ (by omega)) hbh
    have e1 : (v : Int).tmod b = m := by rw [Int.tmod_eq_emod_of_nonneg (by omega), hmm]; rfl
    have e2 : (v : Int) % b = m := by rw [hmm]; rfl
    have e3 : IntKind.u64.wrap ((m : Int) + 1) = (m : Int) + 1 := by rw [IntKind.wrap_u64]; omega
    have hsl : ∀ W, (Instr.slice 9 (.string D16) (some (.int .u64 m)) (some (.int .u64 ((m : Int) + 1))) none).run Tryd.prog W = .ok (.string (D16.extract m (m + 1))) W := fun W => by
      rw [run_slice_string W 9 D16 .u64 .u64 _ _ Tryd.underlying9 (by omega) (by omega) (by rw [show D16.size = 16 from rfl]; omega)]
      rw [show ((m : Int)).toNat = m by omega, show ((m : Int) + 1).toNat = m + 1 by omega]
    have hsz : (D16.extract m (m + 1)).size = 1 := by rw [← nums_length, D16_one hm16]; rfl
    have HM := hid hmm
    clear hmm
    obtain ⟨q, hq⟩ : ∃ q : Nat, q = v / b := ⟨_, rfl⟩
    have hqv : q ≤ v := by rw [hq]; exact Nat.div_le_self _ _
    have e4 : (v : Int).tdiv b = q := by rw [Int.tdiv_eq_ediv_of_nonneg (by omega), hq]; rfl
    have e5 : (v : Int) / b = q := by rw [hq]; rfl
    have e6 : IntKind.u64.wrap (q : Int) = q := by rw [IntKind.wrap_u64]; omega
    have HD := hid hq
    have HV := hid hv
    have HQ := hid hqv
    clear hq hv hqv
    by_cases hv0 : 0 < v
    · have HV0 := hid hv0
      go_wp2_with fail
      go_region
      all_goals
        go_wp2_with fail
        go_roundw
        case rel => exact ⟨q, _, rfl, rfl, Nat.le_trans HQ.out HV.out, hid (by rw [HM.out, HD.out]; exact HI.out.next hbl hbh (.inl HV0.out)), HB.out.drew⟩
        case measure =>
          have := Nat.div_lt_self HV0.out (show 1 < b by omega)
          simp [intOf, ByteArray.size_append, hsz]
          rw [← HD.out] at this; omega
    · have H00 := hid (show v = 0 by omega)
      by_cases hS0 : S.size = 0
      · have l1 := empty_list hS0
        have l2 : S.toList.isEmpty = true := by rw [l1]; rfl
        have HS0 := hid hS0
        go_wp2_with fail
        go_region
        all_goals
          go_wp2_with fail
          go_roundw
          case rel => exact ⟨q, _, rfl, rfl, Nat.le_trans HQ.out HV.out, hid (by rw [HM.out, HD.out]; exact HI.out.next hbl hbh (.inr HS0.out)), HB.out.drew⟩
          case measure =>
            have := HQ.out; have := H00.out
            simp [intOf, ByteArray.size_append, hsz, HS0.out]; omega
      · have l2 := ne_list hS0
        have l3 : (!S.toList.isEmpty) = true := by rw [l2]; rfl
        have l4 : (S.toList == []) = false := by cases hl : S.toList with
          | nil => rw [hl] at l2; cases l2
          | cons a r => rfl
        have HS := hid ((show TellInv b (mag n) 0 S by have := HI.out; rw [H00.out] at this; exact this).done hS0)
        clear hS0
        go_wp2_with fail
        go_ret
        exact ⟨_, rfl, by rw [H2.out]; simp [nums_append, HS.out, nums_nil], HB.out⟩
theorem tell_any (n : Int) (b : Nat) (B : ByteArray) (hb : b = 10 ∨ b = 16) (hn : I64 n) (hB : B.size ≤ 2) (w : World) :
    Calls Tryd.prog 28 #[.int .i64 n, .int .u64 b, .string B] w fun e w' => ∃ T : ByteArray, e = .returned (.string T) ∧ nums T = told b (nums B) n ∧ Below w.heap.size w w' := by
  by_cases h : n < 0
  · exact tell_neg n b B hb hn hB h w
  · exact tell_pos n b B hb hn hB h w
theorem rhex_any (n : Int) (hn : I64 n) (w : World) :
    Calls Tryd.prog 13 #[.int .i64 n] w fun e w' => ∃ T : ByteArray, e = .returned (.string T) ∧ nums T = hexT n ∧ Below w.heap.size w w' := by
  have c := fun (w : World) => tell_any n 16 ⟨#[48, 120]⟩ (.inr rfl) hn (by decide) w
  have C := hid c
  clear c hn
  go_enter Tryd.func13, Tryd.ntmps13
  go_wp2_with (go_at_call 28; refine (C.out _).mono ?_; rintro e w1 ⟨T, rfl, hT, hb1⟩)
  go_ret
  exact ⟨_, rfl, hT, hb1⟩
theorem rdec_any (n : Int) (hn : I64 n) (w : World) :
    Calls Tryd.prog 15 #[.int .i64 n] w fun e w' => ∃ T : ByteArray, e = .returned (.string T) ∧ nums T = decT n ∧ Below w.heap.size w w' := by
  have c := fun (w : World) => tell_any n 10 ⟨#[]⟩ (.inl rfl) hn (by decide) w
  have C := hid c
  clear c hn
  go_enter Tryd.func15, Tryd.ntmps15
  go_wp2_with (go_at_call 28; refine (C.out _).mono ?_; rintro e w1 ⟨T, rfl, hT, hb1⟩)
  go_ret
  exact ⟨_, rfl, hT, hb1⟩
end Go.Proofs.YtibhpfddjlnbmaaDoor
