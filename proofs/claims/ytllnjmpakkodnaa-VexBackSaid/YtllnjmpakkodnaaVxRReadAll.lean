/-
  Read: the document's, whatever the bytes.
-/
import Derived.Test.YtllnjmpakkodnaaVxRRead
import Derived.Test.YtllnjmpakkodnaaVxReadAll
namespace Go.Proofs.Ytllnjmpakkodnaa
open Go.RowKit
set_option maxRecDepth 100000

theorem rread_any (A : Option Addr) (m c : Nat) (zs : List Int) (hm : zs.length = m) (w : World) (hx : Mem w w.heap.size A zs) :
    Calls Try.prog 17 #[.slice A m c] w fun e w' => e = .returned (RV (readF zs)) ∧ Below w.heap.size w w' := by
  rcases zs with _ | ⟨z, zs⟩
  · subst hm
    exact rread_nil A c w
  rcases hx.2 with h0 | ⟨q, off, rfl, hq, hcell⟩
  · cases h0
  have hz := hcell 0 (by simp)
  simp only [Nat.add_zero, List.getElem?_cons_zero, Option.getD_some] at hz
  by_cases h12 : z = 196 ∨ z = 197
  · rcases zs with _ | ⟨n, zs⟩
    · have e : readF [z] = (V0, 0, 9) := if_pos h12
      rw [e]
      obtain rfl : m = 1 := by simpa using hm.symm
      rcases h12 with rfl | rfl
      · exact rread_one196 q off c w hz hq
      · exact rread_one197 q off c w hz hq
    have hn := hcell 1 (by simp)
    simp only [List.getElem?_cons_succ, List.getElem?_cons_zero, Option.getD_some] at hn
    have hb := hx.1 n (by simp)
    rcases h12 with rfl | rfl
    · by_cases hr : n % 32 < 1 ∨ 3 < n % 32
      · have e2 : readF (196 :: n :: zs) = (V0, 0, 4) := by
          rcases zs with _ | ⟨k2, zs⟩ <;> simp [readF, hr]
        rw [e2]
        exact rread_map q off m c n (by simp at hm; omega) hb hr w hz hn hq
      rcases zs with _ | ⟨k2, zs⟩
      · have e2 : readF [196, n] = (V0, 0, 9) := by simp [readF, hr]
        rw [e2]
        obtain rfl : m = 2 := by simpa using hm.symm
        exact rread_cut q off c n hb hr w hz hn hq
      · have hk := hcell 2 (by simp)
        simp only [List.getElem?_cons_succ, List.getElem?_cons_zero, Option.getD_some] at hk
        have hb2 := hx.1 k2 (by simp)
        have e2 : readF (196 :: n :: k2 :: zs) = (⟨1 - n / 128, 1 - n / 64 % 2, 1 - n / 32 % 2, n % 32, k2 / 128, 15 - k2 / 8 % 16, k2 / 4 % 2, preF (k2 % 4)⟩, 3, 0) := by simp [readF, hr]
        rw [e2]
        exact rread_three q off m c n k2 _ _ _ _ _ _ _ _ (by simp at hm; omega) hb hb2 hr rfl rfl rfl rfl rfl rfl rfl (hid rfl) w hz hn hk hq
    · have e2 : readF (197 :: n :: zs) = (⟨1 - n / 128, 0, 0, 1, 0, 15 - n / 8 % 16, n / 4 % 2, preF (n % 4)⟩, 2, 0) := by rcases zs with _ | ⟨k2, zs⟩ <;> rfl
      rw [e2]
      exact rread_two q off m c n _ _ _ _ (by simp at hm; omega) hb rfl rfl rfl (hid rfl) w hz hn hq
  · have h1 : ¬ z = 197 := fun e => h12 (.inr e)
    have h2 : ¬ z = 196 := fun e => h12 (.inl e)
    have e : readF (z :: zs) = (V0, 0, 4) := by
      rcases zs with _ | ⟨n, _ | ⟨k2, zs⟩⟩ <;> simp [readF, h1, h2]
    rw [e]
    exact rread_else q off m c z (by simp at hm; omega) (by simpa using h2) (by simpa using h1) w hz hq
end Go.Proofs.Ytllnjmpakkodnaa
