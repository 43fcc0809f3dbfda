/-
  The document's look-up of a mnemonic's name.
-/
import Derived.Test.YtinbgkflbphknaaDoorOpRef
import Derived.Test.YtinbgkflbphknaaDoorCondRefParse
namespace Go.Proofs.YtinbgkflbphknaaDoor
open Go.RowKit

theorem rparse_of {s : ByteArray} {o : Option Nat} (h : parseF s = o) (w : World) :
    Calls Tryd.prog 26 #[.string s] w fun e w' => e = .returned (PV o) ∧ Below w.heap.size w w' := by
  have := rparse_any s w
  rw [h] at this
  exact this
theorem op_other {s : ByteArray} {o : Option Int} (h : opF s = otherF s) (ho : otherF s = o) : opF s = o := h.trans ho
set_option maxRecDepth 100000 in
set_option maxHeartbeats 1000000 in
theorem ropparse_any (s : ByteArray) (w : World) :
    Calls Tryd.prog 8 #[.string s] w fun e w' => e = .returned (OV (opF s)) ∧ Below w.heap.size w w' := by
  go_enter Tryd.func8, Tryd.ntmps8
  go_wp2_with (go_at_call 24; refine (rops_any _).mono ?_; rintro e w1 ⟨rfl, hrow, hb1⟩; have HR := hid hrow; have HB := hid hb1; clear hrow hb1)
  go_loopw [5] (fun i wr => ∃ k : Nat, k ≤ 322 ∧ i = .int .i64 k ∧ w1 = wr ∧ Hid (mainF s = findF s (NM.drop k) k)) (fun i _ => 322 - (intOf i).toNat)
  case atStart => exact ⟨0, by omega, rfl, rfl, hid rfl⟩
  case round =>
    obtain ⟨k, hk, rfl, rfl, HF⟩ := hrel
    by_cases hlt : k < 322
    · obtain ⟨b, hb⟩ := nm_get hlt
      have hcell := HR.out.2 k b hb
      have HX := hid (HF.out.trans (findF_drop hb))
      clear hb
      cases hm : b.toList == s.toList
      · have HM := hid hm
        go_wp2_with fail
        go_roundw
        case rel => exact ⟨k + 1, by omega, by go_num, trivial, hid (by rw [HX.out, HM.out]; rfl)⟩
        case measure => simp [intOf]; omega
      · have HM := hid (show opF s = some ((k : Int) + 1) by rw [opF, HX.out, hm]; rfl)
        go_wp2_with fail
        go_returns
        exact ⟨by rw [HM.out]; rfl, HB.out⟩
    · have HO := hid (main_end (by have hke : k = 322 := by omega
                                   rw [← hke]; exact HF.out))
      have K := hid hk
      clear hk
      go_wp2_with fail
      obtain ⟨kk, hkk⟩ : ∃ kk : Int, (k : Int) = kk := ⟨_, rfl⟩
      rw [hkk]
      clear hkk hlt HF K
      go_loopw [8] (fun i wr => ∃ k : Nat, k ≤ 3 ∧ i = .int .i64 k ∧ Hid (Below (w1.heap.size + 1 + 1) ((w1.alloc (.cells #[.string ⟨#[106]⟩, .string ⟨#[115, 101, 116]⟩, .string ⟨#[99, 109, 111, 118]⟩] 9)).alloc (.cells #[.int .i64 68, .int .i64 84, .int .i64 100] 3)) wr) ∧ Hid (∀ j, j < k → tryF s j = none)) (fun i _ => 3 - (intOf i).toNat)
      case atStart => exact ⟨0, by omega, rfl, hid (Below.refl _ _), hid (by omega)⟩
      case round =>
        obtain ⟨k, hk, rfl, HB2, HT⟩ := hrel
        have hcs : ∀ j : Nat, wr.cell? ⟨w1.heap.size, j, none⟩ = #[Value.string ⟨#[106]⟩, .string ⟨#[115, 101, 116]⟩, .string ⟨#[99, 109, 111, 118]⟩][j]? := fun j => by
          rw [HB2.out.cell (p := ⟨w1.heap.size, j, none⟩) (by simp; omega), cell_alloc_lt _ _ _ _ (by simp), cell_new _ _ _ _ _ rfl]
        have hci : ∀ j : Nat, wr.cell? ⟨w1.heap.size + 1, j, none⟩ = #[Value.int .i64 68, .int .i64 84, .int .i64 100][j]? := fun j => by
          rw [HB2.out.cell (p := ⟨w1.heap.size + 1, j, none⟩) (by simp), cell_new _ _ _ _ _ (by simp)]
        have HB3 := hid (show Below w.heap.size w wr from (HB.out.trans ((((Below.refl w1.heap.size w1).alloc (Nat.le_refl _) _).alloc (by simp) _).mono HB.out.size)).trans (HB2.out.mono (by have := HB.out.size; omega)))
        have hsz : w1.heap.size + 1 + 1 ≤ wr.heap.size := by have := HB2.out.size; simpa using this
        obtain rfl | rfl | rfl | rfl : k = 0 ∨ k = 1 ∨ k = 2 ∨ k = 3 := by omega
        · cases hc : begF s ⟨#[106]⟩
          · have HC := hid hc
            have HM := hid (more HT.out (try_no (k := 0) hc))
            clear hc
            cases hp : parseF ⟨#[]⟩ with
            | none =>
              have HP := hid hp
              clear hp
              go_wp2_with (first | (go_at_call 25; refine (behind_of HC.out _).mono ?_; rintro e w2 ⟨rfl, rfl⟩) | (go_at_call 26; refine (rparse_of HP.out _).mono ?_; rintro e w3 ⟨rfl, hb3⟩; have hc3 : ∀ j : Nat, w3.cell? ⟨w1.heap.size + 1, j, none⟩ = #[Value.int .i64 68, .int .i64 84, .int .i64 100][j]? := (fun j => (hb3.cell (p := ⟨w1.heap.size + 1, j, none⟩) (by simp; omega)).trans (hci j)); have HB4 := hid hb3; clear hb3))
              go_roundw
              case rel => exact ⟨1, by omega, by simp, hid (HB2.out.trans (HB4.out.mono hsz)), HM⟩
              case measure => simp [intOf]
            | some n =>
              have hn := parseF_lt hp
              have HP := hid hp
              clear hp
              go_wp2_with (first | (go_at_call 25; refine (behind_of HC.out _).mono ?_; rintro e w2 ⟨rfl, rfl⟩) | (go_at_call 26; refine (rparse_of HP.out _).mono ?_; rintro e w3 ⟨rfl, hb3⟩; have hc3 : ∀ j : Nat, w3.cell? ⟨w1.heap.size + 1, j, none⟩ = #[Value.int .i64 68, .int .i64 84, .int .i64 100][j]? := (fun j => (hb3.cell (p := ⟨w1.heap.size + 1, j, none⟩) (by simp; omega)).trans (hci j)); have HB4 := hid hb3; clear hb3))
              go_roundw
              case rel => exact ⟨1, by omega, by simp, hid (HB2.out.trans (HB4.out.mono hsz)), HM⟩
              case measure => simp [intOf]
          · cases hp : parseF (restF s ⟨#[106]⟩) with
            | none =>
              have HC := hid hc
              have HP := hid hp
              have HM := hid (more HT.out (try_none (k := 0) hp))
              clear hc hp
              go_wp2_with (first | (go_at_call 25; refine (behind_of HC.out _).mono ?_; rintro e w2 ⟨rfl, rfl⟩) | (go_at_call 26; refine (rparse_of HP.out _).mono ?_; rintro e w3 ⟨rfl, hb3⟩; have hc3 : ∀ j : Nat, w3.cell? ⟨w1.heap.size + 1, j, none⟩ = #[Value.int .i64 68, .int .i64 84, .int .i64 100][j]? := (fun j => (hb3.cell (p := ⟨w1.heap.size + 1, j, none⟩) (by simp; omega)).trans (hci j)); have HB4 := hid hb3; clear hb3))
              go_roundw
              case rel => exact ⟨1, by omega, by simp, hid (HB2.out.trans (HB4.out.mono hsz)), HM⟩
              case measure => simp [intOf]
            | some n =>
              have hn := parseF_lt hp
              have HC := hid hc
              have HP := hid hp
              have HM := hid (op_other HO.out (other_at (by omega) HT.out (try_some (k := 0) hc hp)))
              clear hc hp
              go_wp2_with (first | (go_at_call 25; refine (behind_of HC.out _).mono ?_; rintro e w2 ⟨rfl, rfl⟩) | (go_at_call 26; refine (rparse_of HP.out _).mono ?_; rintro e w3 ⟨rfl, hb3⟩; have hc3 : ∀ j : Nat, w3.cell? ⟨w1.heap.size + 1, j, none⟩ = #[Value.int .i64 68, .int .i64 84, .int .i64 100][j]? := (fun j => (hb3.cell (p := ⟨w1.heap.size + 1, j, none⟩) (by simp; omega)).trans (hci j)); have HB4 := hid hb3; clear hb3))
              go_returns
              exact ⟨by rw [HM.out]; rfl, HB3.out.trans (HB4.out.mono HB3.out.size)⟩
        · cases hc : begF s ⟨#[115, 101, 116]⟩
          · have HC := hid hc
            have HM := hid (more HT.out (try_no (k := 1) hc))
            clear hc
            cases hp : parseF ⟨#[]⟩ with
            | none =>
              have HP := hid hp
              clear hp
              go_wp2_with (first | (go_at_call 25; refine (behind_of HC.out _).mono ?_; rintro e w2 ⟨rfl, rfl⟩) | (go_at_call 26; refine (rparse_of HP.out _).mono ?_; rintro e w3 ⟨rfl, hb3⟩; have hc3 : ∀ j : Nat, w3.cell? ⟨w1.heap.size + 1, j, none⟩ = #[Value.int .i64 68, .int .i64 84, .int .i64 100][j]? := (fun j => (hb3.cell (p := ⟨w1.heap.size + 1, j, none⟩) (by simp; omega)).trans (hci j)); have HB4 := hid hb3; clear hb3))
              go_roundw
              case rel => exact ⟨2, by omega, by simp, hid (HB2.out.trans (HB4.out.mono hsz)), HM⟩
              case measure => simp [intOf]
            | some n =>
              have hn := parseF_lt hp
              have HP := hid hp
              clear hp
              go_wp2_with (first | (go_at_call 25; refine (behind_of HC.out _).mono ?_; rintro e w2 ⟨rfl, rfl⟩) | (go_at_call 26; refine (rparse_of HP.out _).mono ?_; rintro e w3 ⟨rfl, hb3⟩; have hc3 : ∀ j : Nat, w3.cell? ⟨w1.heap.size + 1, j, none⟩ = #[Value.int .i64 68, .int .i64 84, .int .i64 100][j]? := (fun j => (hb3.cell (p := ⟨w1.heap.size + 1, j, none⟩) (by simp; omega)).trans (hci j)); have HB4 := hid hb3; clear hb3))
              go_roundw
              case rel => exact ⟨2, by omega, by simp, hid (HB2.out.trans (HB4.out.mono hsz)), HM⟩
              case measure => simp [intOf]
          · cases hp : parseF (restF s ⟨#[115, 101, 116]⟩) with
            | none =>
              have HC := hid hc
              have HP := hid hp
              have HM := hid (more HT.out (try_none (k := 1) hp))
              clear hc hp
              go_wp2_with (first | (go_at_call 25; refine (behind_of HC.out _).mono ?_; rintro e w2 ⟨rfl, rfl⟩) | (go_at_call 26; refine (rparse_of HP.out _).mono ?_; rintro e w3 ⟨rfl, hb3⟩; have hc3 : ∀ j : Nat, w3.cell? ⟨w1.heap.size + 1, j, none⟩ = #[Value.int .i64 68, .int .i64 84, .int .i64 100][j]? := (fun j => (hb3.cell (p := ⟨w1.heap.size + 1, j, none⟩) (by simp; omega)).trans (hci j)); have HB4 := hid hb3; clear hb3))
              go_roundw
              case rel => exact ⟨2, by omega, by simp, hid (HB2.out.trans (HB4.out.mono hsz)), HM⟩
              case measure => simp [intOf]
            | some n =>
              have hn := parseF_lt hp
              have HC := hid hc
              have HP := hid hp
              have HM := hid (op_other HO.out (other_at (by omega) HT.out (try_some (k := 1) hc hp)))
              clear hc hp
              go_wp2_with (first | (go_at_call 25; refine (behind_of HC.out _).mono ?_; rintro e w2 ⟨rfl, rfl⟩) | (go_at_call 26; refine (rparse_of HP.out _).mono ?_; rintro e w3 ⟨rfl, hb3⟩; have hc3 : ∀ j : Nat, w3.cell? ⟨w1.heap.size + 1, j, none⟩ = #[Value.int .i64 68, .int .i64 84, .int .i64 100][j]? := (fun j => (hb3.cell (p := ⟨w1.heap.size + 1, j, none⟩) (by simp; omega)).trans (hci j)); have HB4 := hid hb3; clear hb3))
              go_returns
              exact ⟨by rw [HM.out]; rfl, HB3.out.trans (HB4.out.mono HB3.out.size)⟩
        · cases hc : begF s ⟨#[99, 109, 111, 118]⟩
          · have HC := hid hc
            have HM := hid (more HT.out (try_no (k := 2) hc))
            clear hc
            cases hp : parseF ⟨#[]⟩ with
            | none =>
              have HP := hid hp
              clear hp
              go_wp2_with (first | (go_at_call 25; refine (behind_of HC.out _).mono ?_; rintro e w2 ⟨rfl, rfl⟩) | (go_at_call 26; refine (rparse_of HP.out _).mono ?_; rintro e w3 ⟨rfl, hb3⟩; have hc3 : ∀ j : Nat, w3.cell? ⟨w1.heap.size + 1, j, none⟩ = #[Value.int .i64 68, .int .i64 84, .int .i64 100][j]? := (fun j => (hb3.cell (p := ⟨w1.heap.size + 1, j, none⟩) (by simp; omega)).trans (hci j)); have HB4 := hid hb3; clear hb3))
              go_roundw
              case rel => exact ⟨3, by omega, by simp, hid (HB2.out.trans (HB4.out.mono hsz)), HM⟩
              case measure => simp [intOf]
            | some n =>
              have hn := parseF_lt hp
              have HP := hid hp
              clear hp
              go_wp2_with (first | (go_at_call 25; refine (behind_of HC.out _).mono ?_; rintro e w2 ⟨rfl, rfl⟩) | (go_at_call 26; refine (rparse_of HP.out _).mono ?_; rintro e w3 ⟨rfl, hb3⟩; have hc3 : ∀ j : Nat, w3.cell? ⟨w1.heap.size + 1, j, none⟩ = #[Value.int .i64 68, .int .i64 84, .int .i64 100][j]? := (fun j => (hb3.cell (p := ⟨w1.heap.size + 1, j, none⟩) (by simp; omega)).trans (hci j)); have HB4 := hid hb3; clear hb3))
              go_roundw
              case rel => exact ⟨3, by omega, by simp, hid (HB2.out.trans (HB4.out.mono hsz)), HM⟩
              case measure => simp [intOf]
          · cases hp : parseF (restF s ⟨#[99, 109, 111, 118]⟩) with
            | none =>
              have HC := hid hc
              have HP := hid hp
              have HM := hid (more HT.out (try_none (k := 2) hp))
              clear hc hp
              go_wp2_with (first | (go_at_call 25; refine (behind_of HC.out _).mono ?_; rintro e w2 ⟨rfl, rfl⟩) | (go_at_call 26; refine (rparse_of HP.out _).mono ?_; rintro e w3 ⟨rfl, hb3⟩; have hc3 : ∀ j : Nat, w3.cell? ⟨w1.heap.size + 1, j, none⟩ = #[Value.int .i64 68, .int .i64 84, .int .i64 100][j]? := (fun j => (hb3.cell (p := ⟨w1.heap.size + 1, j, none⟩) (by simp; omega)).trans (hci j)); have HB4 := hid hb3; clear hb3))
              go_roundw
              case rel => exact ⟨3, by omega, by simp, hid (HB2.out.trans (HB4.out.mono hsz)), HM⟩
              case measure => simp [intOf]
            | some n =>
              have hn := parseF_lt hp
              have HC := hid hc
              have HP := hid hp
              have HM := hid (op_other HO.out (other_at (by omega) HT.out (try_some (k := 2) hc hp)))
              clear hc hp
              go_wp2_with (first | (go_at_call 25; refine (behind_of HC.out _).mono ?_; rintro e w2 ⟨rfl, rfl⟩) | (go_at_call 26; refine (rparse_of HP.out _).mono ?_; rintro e w3 ⟨rfl, hb3⟩; have hc3 : ∀ j : Nat, w3.cell? ⟨w1.heap.size + 1, j, none⟩ = #[Value.int .i64 68, .int .i64 84, .int .i64 100][j]? := (fun j => (hb3.cell (p := ⟨w1.heap.size + 1, j, none⟩) (by simp; omega)).trans (hci j)); have HB4 := hid hb3; clear hb3))
              go_returns
              exact ⟨by rw [HM.out]; rfl, HB3.out.trans (HB4.out.mono HB3.out.size)⟩
        · have HM := hid (op_other HO.out (other_no HT.out))
          go_wp2_with fail
          go_returns
          exact ⟨by rw [HM.out]; rfl, HB3.out⟩
end Go.Proofs.YtinbgkflbphknaaDoor
