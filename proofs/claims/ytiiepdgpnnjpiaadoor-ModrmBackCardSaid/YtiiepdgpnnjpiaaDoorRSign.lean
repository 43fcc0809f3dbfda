/-
  The document's answer: so many bytes by their sign; widths, registers.
-/
import Derived.Test.YtiiepdgpnnjpiaaDoorRdPlaces
import Derived.Test.YtiiepdgpnnjpiaaDoorCanonRefs
import Derived.OwnWalk
namespace Go.Proofs.YtiiepdgpnnjpiaaDoor
open Go.RowKit
set_option maxRecDepth 100000

theorem le_drop {zs : List Int} {k : Nat} (h : k < zs.length) : le (zs.drop k) = zs[k]?.getD 0 + 256 * le (zs.drop (k + 1)) := by
  rw [List.drop_eq_getElem_cons h, List.getElem?_eq_getElem h]
  rfl
theorem le_small {zs : List Int} (hz : isBytes zs) (hl : zs.length ≤ 4) (k : Nat) : 0 ≤ le (zs.drop k) ∧ le (zs.drop k) < 4294967296 := by
  have h := le_bound (zs.drop k) (hz.drop k)
  refine ⟨h.1, Int.lt_of_lt_of_le h.2 ?_⟩
  have : (zs.drop k).length ≤ 4 := by rw [List.length_drop]; omega
  have : (zs.drop k).length = 0 ∨ (zs.drop k).length = 1 ∨ (zs.drop k).length = 2 ∨ (zs.drop k).length = 3 ∨ (zs.drop k).length = 4 := by omega
  rcases this with e | e | e | e | e <;> rw [e] <;> decide
theorem sgn_one {zs : List Int} (hl : zs.length = 1) (hz : isBytes zs) : sgn (le zs) 8 = if (128 : Int) ≤ zs[0]?.getD 0 then le zs - 256 else le zs := by
  match zs, hl with
  | [z], _ =>
    have h0 := hz z (by simp)
    have e : sgn (le [z]) 8 = (le [z] + 128) % 256 - 128 := by unfold sgn; rw [if_pos ⟨by omega, by omega⟩]; rfl
    rw [e]
    simp [le]
    split <;> omega
theorem sgn_four {zs : List Int} (hl : zs.length = 4) (hz : isBytes zs) : sgn (le zs) 32 = if (128 : Int) ≤ zs[3]?.getD 0 then le zs - 4294967296 else le zs := by
  match zs, hl with
  | [z0, z1, z2, z3], _ =>
    have h0 := hz z0 (by simp)
    have h1 := hz z1 (by simp)
    have h2 := hz z2 (by simp)
    have h3 := hz z3 (by simp)
    have e : sgn (le [z0, z1, z2, z3]) 32 = (le [z0, z1, z2, z3] + 2147483648) % 4294967296 - 2147483648 := by unfold sgn; rw [if_pos ⟨by omega, by omega⟩]; rfl
    rw [e]
    simp [le]
    split <;> omega
set_option maxHeartbeats 1000000 in
theorem rsign_1 (b off c : Nat) (zs : List Int) (w : World) (hz : isBytes zs) (hl : zs.length = 1) (hc : ∀ i, i < 1 → w.cell? ⟨b, off + i, none⟩ = some (.int .u8 (zs[i]?.getD 0))) :
    Calls Tryd.prog 63 #[.slice (some ⟨b, off, none⟩) 1 c] w fun e w' => e = .returned (.int .i64 (sgn (le zs) 8)) ∧ w = w' := by
  have HC := hid hc
  have HZ := hid hz
  have HL := hid hl
  clear hc
  have hlast := HC.out 0 (by decide)
  try rw [Nat.add_zero] at hlast
  have hlr := hz.getD 0
  have hE := sgn_one hl hz
  generalize zs[0]?.getD 0 = zl at hE hlast hlr
  have HE := hid hE
  clear hE hl hz
  go_enter Tryd.func63, Tryd.ntmps63
  go_wp2_with fail
  go_loop [3, 4] (fun n i => ∃ k : Nat, k ≤ 1 ∧ i = .int .i64 ((k : Int) - 1) ∧ n = .int .i64 (le (zs.drop k))) (fun _ i => (intOf i + 1).toNat)
  case atStart => exact ⟨1, by omega, by go_num, by rw [List.drop_eq_nil_iff.2 (by rw [HL.out]; decide)]; rfl⟩
  case round =>
    obtain ⟨k, hk, rfl, rfl⟩ := hrel
    by_cases hk0 : k = 0
    · subst hk0
      have hs2 : 0 ≤ le zs ∧ le zs < 4294967296 := by have := le_small HZ.out (by rw [HL.out]; decide) 0; rwa [List.drop_zero] at this
      go_wp2
      all_goals go_returns
      all_goals
        refine ⟨?_, rfl⟩
        first | exact ret_i (by rw [HE.out, if_pos (by omega)]) | exact ret_i (by rw [HE.out, if_neg (by omega)])
    · obtain ⟨j, rfl⟩ : ∃ j, k = j + 1 := ⟨k - 1, by omega⟩
      have hcell := HC.out j (by omega)
      have hr := HZ.out.getD j
      have HS := hid (le_small HZ.out (by rw [HL.out]; decide) (j + 1))
      have hs2 := HS.out
      have HD := hid (le_drop (zs := zs) (k := j) (by rw [HL.out]; omega))
      go_wp2
      go_round
      case rel => exact ⟨j, by omega, by go_num, by first | (rw [HD.out]; go_num) | rw [HD.out]⟩
      case measure => simp [intOf]
set_option maxHeartbeats 1000000 in
theorem rsign_4 (b off c : Nat) (zs : List Int) (w : World) (hz : isBytes zs) (hl : zs.length = 4) (hc : ∀ i, i < 4 → w.cell? ⟨b, off + i, none⟩ = some (.int .u8 (zs[i]?.getD 0))) :
    Calls Tryd.prog 63 #[.slice (some ⟨b, off, none⟩) 4 c] w fun e w' => e = .returned (.int .i64 (sgn (le zs) 32)) ∧ w = w' := by
  have HC := hid hc
  have HZ := hid hz
  have HL := hid hl
  clear hc
  have hlast := HC.out 3 (by decide)
  try rw [Nat.add_zero] at hlast
  have hlr := hz.getD 3
  have hE := sgn_four hl hz
  generalize zs[3]?.getD 0 = zl at hE hlast hlr
  have HE := hid hE
  clear hE hl hz
  go_enter Tryd.func63, Tryd.ntmps63
  go_wp2_with fail
  go_loop [3, 4] (fun n i => ∃ k : Nat, k ≤ 4 ∧ i = .int .i64 ((k : Int) - 1) ∧ n = .int .i64 (le (zs.drop k))) (fun _ i => (intOf i + 1).toNat)
  case atStart => exact ⟨4, by omega, by go_num, by rw [List.drop_eq_nil_iff.2 (by rw [HL.out]; decide)]; rfl⟩
  case round =>
    obtain ⟨k, hk, rfl, rfl⟩ := hrel
    by_cases hk0 : k = 0
    · subst hk0
      have hs2 : 0 ≤ le zs ∧ le zs < 4294967296 := by have := le_small HZ.out (by rw [HL.out]; decide) 0; rwa [List.drop_zero] at this
      go_wp2
      all_goals go_returns
      all_goals
        refine ⟨?_, rfl⟩
        first | exact ret_i (by rw [HE.out, if_pos (by omega)]) | exact ret_i (by rw [HE.out, if_neg (by omega)])
    · obtain ⟨j, rfl⟩ : ∃ j, k = j + 1 := ⟨k - 1, by omega⟩
      have hcell := HC.out j (by omega)
      have hr := HZ.out.getD j
      have HS := hid (le_small HZ.out (by rw [HL.out]; decide) (j + 1))
      have hs2 := HS.out
      have HD := hid (le_drop (zs := zs) (k := j) (by rw [HL.out]; omega))
      go_wp2
      go_round
      case rel => exact ⟨j, by omega, by go_num, by first | (rw [HD.out]; go_num) | rw [HD.out]⟩
      case measure => simp [intOf]
theorem rsign_0 (A : Option Addr) (c : Nat) (w : World) :
    Calls Tryd.prog 63 #[.slice A 0 c] w fun e w' => e = .returned (.int .i64 0) ∧ w = w' := by
  go_enter Tryd.func63, Tryd.ntmps63
  go_wp2_with fail
  go_loop [3, 4] (fun n i => i = .int .i64 (-1) ∧ n = .int .i64 0) (fun _ _ => 0)
  case atStart => exact ⟨by go_num, rfl⟩
  case round =>
    obtain ⟨rfl, rfl⟩ := hrel
    go_wp2
    go_ret
    exact ⟨rfl, rfl⟩
theorem rwidth_any (mod : Int) (w : World) :
    Calls Tryd.prog 39 #[.int .i64 mod] w fun e w' => e = .returned (.int .i64 (widthF mod)) ∧ w = w' := by
  go_enter Tryd.func39, Tryd.ntmps39
  go_wp2
  all_goals go_returns
  all_goals exact ⟨ret_i (by unfold widthF; simp_all), rfl⟩
theorem rbig_any (n : Int) (w : World) :
    Calls Tryd.prog 40 #[.int .i64 n] w fun e w' => e = .returned (.agg #[.int .i64 5, .int .i64 n]) ∧ Below w.heap.size w w' := by
  go_enter Tryd.func40, Tryd.ntmps40
  go_wp2
  refine bodyPost_ret (v := .agg #[.int .i64 5, .int .i64 n]) (by simp [results, Tryd.results40, go_sem, *]) rfl ⟨rfl, ?_⟩
  go_grown
end Go.Proofs.YtiiepdgpnnjpiaaDoor
