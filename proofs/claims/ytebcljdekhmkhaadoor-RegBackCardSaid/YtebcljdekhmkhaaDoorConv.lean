/-
  A string out of bytes that the call made.
-/
import Derived.Test.YtebcljdekhmkhaaDoorCell
import Derived.Test.YtebcljdekhmkhaaDoorMem
import Derived.Laws.BytesArg
namespace Go.Proofs.YtebcljdekhmkhaaDoor
open Go.RowKit

/-! ### strings out of bytes -/
def str (xs : List Int) : ByteArray := strOfNums xs
theorem str_inj {xs ys : List Int} (hx : isBytes xs) (hy : isBytes ys) (h : str xs = str ys) : xs = ys := by
  have e : xs.map (fun n => UInt8.ofNat n.toNat) = ys.map (fun n => UInt8.ofNat n.toNat) := by
    have := congrArg (fun b : ByteArray => b.data.toList) h
    simpa [str, strOfNums_data] using this
  have back : ∀ l : List Int, isBytes l → (l.map (fun n => UInt8.ofNat n.toNat)).map (fun u => (u.toNat : Int)) = l := by
    intro l hl
    rw [List.map_map]
    conv => rhs; rw [← List.map_id l]
    refine List.map_congr_left fun z hz => ?_
    have := hl z hz
    simp
    omega
  rw [← back xs hx, ← back ys hy, e]
theorem conv_bytes (A : Option Addr) (c : Nat) (xs : List Int) (w : World) (B : Nat) (hx : Mem w B A xs) :
    (convert 44 9 (.slice A xs.length c)).run Tryd.prog w = .ok (.string (str xs)) w := by
  obtain ⟨hb, rfl | ⟨b, off, rfl, _, hc⟩⟩ := hx
  · rcases A with _ | ⟨b, off, spot⟩
    · exact run_convert_bytes_nil w _ _ Tryd.underlying44 Tryd.underlying5 _ _ _ Tryd.underlying9
    · have hl : (loadCells ⟨b, off, spot⟩ 0).run Tryd.prog w = .ok #[] w := by
        have := run_loadCells_list (P := Tryd.prog) w ⟨b, off, spot⟩ [] (fun j v hj => by simp at hj)
        simpa using this
      rw [run_convert_bytes_string w _ _ _ _ _ c Tryd.underlying44 Tryd.underlying5 Tryd.underlying9]
      have := run_bytesToString (P := Tryd.prog) w ⟨b, off, spot⟩ 0 c [] (by simpa using hl)
      exact this
  · exact run_convert_bytes_arg w _ _ Tryd.underlying44 Tryd.underlying5 b off _ c xs rfl (fun i hi => by rw [hc i hi]; simp) _ Tryd.underlying9
theorem conv_one (wr : World) (c : Int) (hc : 0 ≤ c ∧ c < 256) : (convert 44 9 (.slice (some ⟨wr.heap.size, 0, none⟩) 1 1)).run Tryd.prog (wr.alloc (.cells #[.int .u8 c] 5)) = .ok (.string (strOfNums [c])) (wr.alloc (.cells #[.int .u8 c] 5)) := by
  refine conv_bytes (some ⟨wr.heap.size, 0, none⟩) 1 [c] _ (wr.heap.size + 1) ⟨by intro z hz; simp at hz; subst hz; exact hc, .inr ⟨wr.heap.size, 0, rfl, by omega, fun i hi => ?_⟩⟩
  have : i = 0 := by simpa using hi
  subst this
  simp
end Go.Proofs.YtebcljdekhmkhaaDoor
