/-
  Where operands are: a row of pointers to a row of operands.
-/
import Derived.Test.YtmlmdbholakioaaInstBits
import Derived.Laws.AppendOwn
import Derived.Maps.AppendAt
import Derived.OwnWalk
import Derived.Laws.BytesArg
import Derived.WalkKit
namespace Go.Proofs.Ytmlmdbholakioaa
open Go.RowKit

theorem infoPtr : (Try.prog.info? 52).map (fun i => (i.zero, i.size, i.bytes)) = some (some (.pointer none), 1, 8) := by kernel_rfl
set_option maxRecDepth 100000 in
/-- A new row of pointers with room, none in it. -/
theorem make_ptrs (n : Nat) (hn : n ≤ 10000000000) (W : World) :
    (Instr.makeSlice 48 (.int .i64 0) (.int .i64 (n : Int))).run Try.prog W =
      .ok (.slice (some ⟨W.heap.size, 0, none⟩) 0 n) (W.alloc (.cells (Array.replicate n (.pointer none)) 52)) := by
  obtain ⟨i, hi, hz, h1, h2⟩ := info_parts infoPtr
  have hr := run_make (P := Try.prog) W 48 52 i (.pointer none) Try.underlying48 hi hz .i64 .i64 0 n (by omega) (by omega) (by rw [h2]; omega) (by omega)
  rw [hr]
  congr 1
  congr 2
  simp only [Int.toNat_natCast, h1, Nat.mul_one]
  apply Array.ext
  · simp [madeCells]
  · intro j a b
    simp [madeCells, Value.cells, Nat.mod_one]
/-- The pointers to the first so many operands of a row. -/
def ptrs (b off k : Nat) : List Value := (List.range k).map fun i => .pointer (some ⟨b, off + i * 11, none⟩)
theorem ptrs_succ (b off k : Nat) : ptrs b off (k + 1) = ptrs b off k ++ [.pointer (some ⟨b, off + k * 11, none⟩)] := by simp [ptrs, List.range_succ]
theorem ptrs_get {b off k i : Nat} (h : i < k) : (ptrs b off k)[i]? = some (.pointer (some ⟨b, off + i * 11, none⟩)) := by simp [ptrs, h]
/-- P is a new row of pointers to the operands of the row at A. -/
def Ptrs (base : Nat) (w : World) (P A : Option Addr) (n : Nat) : Prop :=
  ∃ pb b off, P = some ⟨pb, 0, none⟩ ∧ (n = 0 ∨ A = some ⟨b, off, none⟩) ∧ base ≤ pb ∧ pb < w.heap.size ∧ ∀ i, i < n → w.cell? ⟨pb, i, none⟩ = some (.pointer (some ⟨b, off + i * 11, none⟩))
theorem one_new (w : World) (u : Value) (t : TypeId) : ∀ (j : Nat) x, [u][j]? = some x → (w.alloc (.cells #[u] t)).cell? ((⟨w.heap.size, 0, none⟩ : Addr).add j) = some x := by
  intro j x hj
  have hadd : (⟨w.heap.size, 0, none⟩ : Addr).add j = ⟨w.heap.size, j, none⟩ := by unfold Addr.add; split <;> simp_all
  rw [hadd]
  rcases j with _ | j
  · simp at hj; subst hj; simp
  · simp at hj
set_option maxHeartbeats 1000000 in
set_option maxRecDepth 100000 in
theorem pointers_row (A : Option Addr) (b off n c : Nat) (hA : n = 0 ∨ A = some ⟨b, off, none⟩) (hn : n ≤ 100) (w : World) :
    Calls Try.prog 26 #[.slice A n c] w fun e w' => ∃ v, e = .returned v ∧ Below w.heap.size w w' ∧ v ≠ .slice none 0 0 ∧ w'.ownsRow w.heap.size 52 1 v n (ptrs b off n) := by
  obtain ⟨i0, hi, hz0, hz1, hz2⟩ := info_parts infoPtr
  have I0 := hid hz0; have I1 := hid hz1; have I2 := hid hz2; have I3 := hid hi
  clear hi hz0 hz1 hz2
  have HA := hid hA
  clear hA
  have hmk := make_ptrs n (by omega)
  have HM := hid (World.ownsRow_made (e := 52) (size := 1) (base := w.heap.size) w (Array.replicate n (.pointer none)) n (Nat.le_refl _) (by unfold maxLen; omega) (by simp))
  have HB0 := hid ((Below.refl w.heap.size w).alloc (Nat.le_refl _) (.cells (Array.replicate n (.pointer none)) 52))
  go_enter Try.func26, Try.ntmps26
  go_wp2
  go_loopw [3, 10] (fun s3 s10 wr => ∃ (k : Nat) (v : Value), k ≤ n ∧ s10 = .int .i64 k ∧ s3 = v ∧ v ≠ .slice none 0 0 ∧ Hid (Below w.heap.size w wr) ∧ Hid (wr.ownsRow w.heap.size 52 1 v k (ptrs b off k))) (fun _ s10 _ => n - (intOf s10).toNat)
  case atStart => exact ⟨0, _, by omega, rfl, rfl, by simp, HB0, HM⟩
  case round =>
    obtain ⟨k, v, hk, rfl, rfl, hv, HB, HO⟩ := hrel
    by_cases hlt : k < n
    · obtain rfl : A = some ⟨b, off, none⟩ := by rcases HA.out with h | h; (omega); exact h
      go_wp2_with (at_builtin; refine wpList_append_own _ rfl _ _ 48 rfl w.heap.size 52 i0 (.pointer none) 1 8 Try.underlying48 I3.out I0.out I1.out I2.out rfl (by decide) _ k (ptrs b off k) rfl (HO.out.alloc _) ⟨wr.heap.size, 0, none⟩ 1 1 [.pointer (some ⟨b, off + k * 11, none⟩)] rfl rfl ?_ ?_ ?_ ?_ ?_ ?_; exact one_new _ _ _; (simp; rfl); (unfold maxLen; omega); omega; (have := HB.out.size; simp; omega))
      intro v' w1 hown hgrow hnil
      have hv' : v' ≠ .slice none 0 0 := hnil
      have HO1 := hid (show w1.ownsRow w.heap.size 52 1 v' (k + 1) (ptrs b off (k + 1)) by rw [ptrs_succ]; exact hown)
      have HB1 := hid ((HB.out.alloc HB.out.size (.cells #[.pointer (some ⟨b, off + k * 11, none⟩)] 52)).grown hgrow (Nat.le_trans HB.out.size (by simp)) (fun g hg => (HO.out.lt g hg).1))
      clear hown hgrow hnil
      go_wp2_with fail
      go_roundw
      case rel => exact ⟨k + 1, v', by omega, by go_num, rfl, hv', HB1, HO1⟩
      case measure => simp [intOf]; omega
    · have hkb : k = n := by omega
      clear HM HB0 hmk HA
      subst hkb
      go_wp2_with fail
      go_ret
      exact ⟨_, rfl, HB.out, hv, HO.out⟩
theorem Ptrs.of {base : Nat} {w : World} {v : Value} {A : Option Addr} {b off n : Nat} (hA : n = 0 ∨ A = some ⟨b, off, none⟩) (hv : v ≠ .slice none 0 0) (h : w.ownsRow base 52 1 v n (ptrs b off n)) : ∃ P cap, v = .slice P n cap ∧ Ptrs base w P A n := by
  rcases h.2 with ⟨h0, _⟩ | ⟨g, cap, cur, rfl, hb, hg, _⟩
  · exact absurd h0 hv
  · refine ⟨_, _, rfl, g, b, off, rfl, hA, hb, (Array.getElem?_eq_some_iff.1 hg).1, fun i hi => ?_⟩
    have hadd : ∀ j, (⟨g, 0, none⟩ : Addr).add j = ⟨g, j, none⟩ := fun j => by unfold Addr.add; split <;> simp_all
    have := h.cells (g := g) rfl i _ (ptrs_get hi)
    rw [hadd] at this
    exact this
/-- Pointers to the operands of a row, one to each. -/
theorem pointers_any (A : Option Addr) (n c : Nat) (hn : n ≤ 100) (hA : n = 0 ∨ ∃ b off, A = some ⟨b, off, none⟩) (w : World) :
    Calls Try.prog 26 #[.slice A n c] w fun e w' => ∃ P cap, e = .returned (.slice P n cap) ∧ Below w.heap.size w w' ∧ Ptrs w.heap.size w' P A n := by
  obtain ⟨b, off, hA⟩ : ∃ b off, n = 0 ∨ A = some ⟨b, off, none⟩ := by
    rcases hA with h | ⟨b, off, h⟩
    · exact ⟨0, 0, .inl h⟩
    · exact ⟨b, off, .inr h⟩
  refine (pointers_row A b off n c hA hn w).mono ?_
  rintro e w1 ⟨v, rfl, hb, hv, ho⟩
  obtain ⟨P, cap, rfl, hp⟩ := Ptrs.of hA hv ho
  exact ⟨P, cap, rfl, hb, hp⟩
end Go.Proofs.Ytmlmdbholakioaa
