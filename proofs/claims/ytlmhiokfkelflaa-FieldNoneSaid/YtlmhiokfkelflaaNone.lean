/-
  FieldNone: the walk of the law.
-/
import Derived.Test.YtlmhiokfkelflaaCur
namespace Go.Proofs.Ytlmhiokfkelflaa
open Go.RowKit
/-- The two pointers, and the cursor that nobody opened: they stand as they were laid. -/
def NoneAt (w wr : World) : Prop :=
  Below w.heap.size w wr ∧ wr.cell? ⟨w.heap.size + 1, 0, none⟩ = some (.pointer none) ∧ wr.cell? ⟨w.heap.size + 1, 1, none⟩ = some (.pointer (some ⟨w.heap.size, 0, none⟩)) ∧ wr.cell? ⟨w.heap.size, 18, none⟩ = some (.bool false)
theorem NoneAt.drewN {w wr : World} (h : NoneAt w wr) (n : Nat) : NoneAt w (wr.drewN n) := ⟨below_drewN h.1 n, h.2.1, h.2.2.1, h.2.2.2⟩
theorem NoneAt.at_ {w wr : World} (h : NoneAt w wr) (k : Nat) (hk : k < 2) : ∃ a, wr.cell? ⟨w.heap.size + 1, k, none⟩ = some (.pointer a) ∧ NoCur wr a := by
  have : k = 0 ∨ k = 1 := by omega
  rcases this with rfl | rfl
  · exact ⟨_, h.2.1, .inl rfl⟩
  · exact ⟨_, h.2.2.1, .inr ⟨_, rfl, h.2.2.2⟩⟩
theorem none_start (w : World) (z : Array Value) (t t' : TypeId) (hz : z[18]? = some (.bool false)) :
    NoneAt w ((w.alloc (.cells z t)).alloc (.cells #[.pointer none, .pointer (some ⟨w.heap.size, 0, none⟩)] t')) := by
  refine ⟨((Below.refl _ _).alloc (Nat.le_refl _) _).alloc (by simp) _, ?_, ?_, ?_⟩
  · rw [World.cell?_alloc_at _ _ _ _ (by simp)]; rfl
  · rw [World.cell?_alloc_at _ _ _ _ (by simp)]; rfl
  · rw [World.cell?_alloc_past _ _ _ (by simp), World.cell?_alloc_at _ _ _ _ rfl]; exact hz
set_option maxHeartbeats 1000000 in
theorem none_law (size : Int) (sg : Bool) (w : World) (_ : I64 size) :
    Calls Try.prog 4 #[.int .i64 size, .bool sg] w fun e w' => e = .returned (.bool true) ∧ Below w.heap.size w w' := by
  go_enter Try.func4, Try.ntmps4
  go_wp2
  go_loopw [6] (fun i wr => ∃ k : Nat, k ≤ 2 ∧ i = .int .i64 k ∧ NoneAt w wr) (fun i _ => 2 - (intOf i).toNat)
  case atStart => exact ⟨0, by omega, rfl, none_start _ _ _ _ rfl⟩
  case round =>
    obtain ⟨k, hk, rfl, hat⟩ := hrel
    have H := hid hat
    clear hat
    by_cases hk2 : k < 2
    · obtain ⟨a, hc, hn⟩ := H.out.at_ k hk2
      have HC := hid hn
      clear hn
      go_wp2_with fail
      refine (peek_no a _ HC.out).mono ?_
      rintro e w1 ⟨rfl, hq⟩
      have H1 : Hid (NoneAt w w1) := by obtain ⟨n, rfl⟩ := hq; exact H.out.drewN n
      have hc1 : w1.cell? ⟨w.heap.size + 1, k, none⟩ = some (.pointer a) := by obtain ⟨n, rfl⟩ := hq; exact hc
      have HC1 : Hid (NoCur w1 a) := by obtain ⟨n, rfl⟩ := hq; exact HC.out
      clear hq hc
      go_wp2_with (first | (go_at_call 26; refine (int_no _ _ _ _ HC1.out).mono ?_; rintro e w' ⟨rfl, rfl⟩) | (go_at_call 27; refine (byte_no _ _ HC1.out).mono ?_; rintro e w' ⟨rfl, rfl⟩) | (go_at_call 28; refine (at_no _ _ HC1.out).mono ?_; rintro e w' ⟨rfl, rfl⟩) | (go_at_call 29; refine (err_no _ _ HC1.out).mono ?_; rintro e w' ⟨rfl, rfl⟩))
      go_roundw
      case rel => exact ⟨k + 1, by omega, by go_num, H1.out⟩
      case measure => simp [intOf]; omega
    · go_wp2_with fail
      refine (awake_any wr).mono ?_
      rintro e w1 ⟨rfl, hb⟩
      have HB := hid (H.out.1.trans (hb.mono H.out.1.size))
      clear hb
      go_wp2_with fail
      go_ret
      exact ⟨rfl, HB.out⟩
end Go.Proofs.Ytlmhiokfkelflaa
