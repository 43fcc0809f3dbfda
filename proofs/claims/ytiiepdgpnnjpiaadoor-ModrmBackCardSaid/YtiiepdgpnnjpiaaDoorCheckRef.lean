/-
  Whether a place may be: the document's Check.
-/
import Derived.Test.YtiiepdgpnnjpiaaDoorCheck
namespace Go.Proofs.YtiiepdgpnnjpiaaDoor
open Go.RowKit

theorem cell_alloc_lt (w : World) (o : Obj) (b i : Nat) (h : b < w.heap.size) : (w.alloc o).cell? ⟨b, i, none⟩ = w.cell? ⟨b, i, none⟩ := ((Below.refl _ w).alloc (Nat.le_refl _) o).cell (p := ⟨b, i, none⟩) h
theorem cell_new (w : World) (xs : Array Value) (t : TypeId) (b i : Nat) (h : b = w.heap.size) : (w.alloc (.cells xs t)).cell? ⟨b, i, none⟩ = xs[i]? := by
  subst h
  simp
theorem any_drop {n : Int} {xs : List Int} {k : Nat} (hk : k < xs.length) : (xs.drop k).contains n = (n == xs[k]?.getD 0 || (xs.drop (k + 1)).contains n) := by
  rw [List.drop_eq_getElem_cons hk, List.contains_cons, List.getElem?_eq_getElem hk]; rfl
theorem in_any (n : Int) (b : Nat) (xs : List Int) (w : World) (hl : xs.length ≤ 100) (hc : ∀ i, i < xs.length → w.cell? ⟨b, i, none⟩ = some (.int .i64 (xs[i]?.getD 0))) :
    Calls Tryd.prog 73 #[.int .i64 n, .slice (some ⟨b, 0, none⟩) xs.length xs.length] w fun e w' => e = .returned (.bool (xs.contains n)) ∧ w = w' := by
  go_enter Tryd.func73, Tryd.ntmps73
  have HC := hid hc
  clear hc
  go_wp2
  go_loopw [5] (fun i wr => ∃ k : Nat, k ≤ xs.length ∧ i = .int .i64 k ∧ w = wr ∧ Hid (xs.contains n = (xs.drop k).contains n)) (fun i _ => xs.length - (intOf i).toNat)
  case atStart => exact ⟨0, by omega, rfl, rfl, hid rfl⟩
  case round =>
    obtain ⟨k, hk, rfl, rfl, HF⟩ := hrel
    by_cases hlt : k < xs.length
    · have hcell := HC.out k hlt
      have HN := hid (HF.out.trans (any_drop hlt))
      generalize xs[k]?.getD 0 = x at hcell HN
      by_cases hm : x = n
      · subst hm
        go_wp2
        go_ret
        exact ⟨ret_b (by rw [HN.out]; simp), rfl⟩
      · go_wp2
        go_roundw
        case rel => exact ⟨k + 1, by omega, by go_num, trivial, hid (by rw [HN.out]; simp [Ne.symm hm])⟩
        case measure => simp [intOf]; omega
    · go_wp2
      go_ret
      exact ⟨ret_b (by rw [HF.out, List.drop_of_length_le (by omega)]; rfl), rfl⟩
theorem in_sizes (n : Int) (b : Nat) (w : World) (hc : ∀ i, i < 7 → w.cell? ⟨b, i, none⟩ = some (.int .i64 (([0, 1, 2, 4, 8, 16, 32] : List Int)[i]?.getD 0))) :
    Calls Tryd.prog 73 #[.int .i64 n, .slice (some ⟨b, 0, none⟩) 7 7] w fun e w' => e = .returned (.bool (sizedF n)) ∧ w = w' := by
  have := in_any n b [0, 1, 2, 4, 8, 16, 32] w (by decide) hc
  rw [show ([0, 1, 2, 4, 8, 16, 32] : List Int).contains n = sizedF n by rw [Bool.eq_iff_iff]; simp [sizedF, or_assoc]] at this
  exact this
theorem in_scales (n : Int) (b : Nat) (w : World) (hc : ∀ i, i < 4 → w.cell? ⟨b, i, none⟩ = some (.int .i64 (([1, 2, 4, 8] : List Int)[i]?.getD 0))) :
    Calls Tryd.prog 73 #[.int .i64 n, .slice (some ⟨b, 0, none⟩) 4 4] w fun e w' => e = .returned (.bool (scaleF n)) ∧ w = w' := by
  have := in_any n b [1, 2, 4, 8] w (by decide) hc
  rw [show ([1, 2, 4, 8] : List Int).contains n = scaleF n by rw [Bool.eq_iff_iff]; simp [scaleF, or_assoc]] at this
  exact this
end Go.Proofs.YtiiepdgpnnjpiaaDoor
