/-
  All registers of a class.
-/
import Derived.Test.YtebcljdekhmkhaaDoorReg
import Derived.Laws.AppendOwn
import Derived.Maps.AppendAt
import Derived.OwnWalk
namespace Go.Proofs.YtebcljdekhmkhaaDoor
open Go.RowKit

theorem infoReg : (Tryd.prog.info? 23).map (fun i => (i.zero, i.size, i.bytes)) = some (some (.agg #[.int .i64 0, .int .i64 0]), 2, 16) := by kernel_rfl
/-- The cells of the first so many registers of a class, from a number on. -/
def regs (c a : Int) (k : Nat) : List Value := (List.range k).flatMap fun i => [.int .i64 c, .int .i64 (a + (i : Nat))]
theorem regs_succ (c a : Int) (k : Nat) : regs c a (k + 1) = regs c a k ++ [.int .i64 c, .int .i64 (a + (k : Nat))] := by
  unfold regs; rw [List.range_succ, List.flatMap_append]; simp
theorem regs_length (c a : Int) (k : Nat) : (regs c a k).length = k * 2 := by
  induction k with
  | zero => rfl
  | succ k ih => rw [regs_succ, List.length_append, ih]; simp; omega
theorem regs_get (c a : Int) (k i : Nat) (h : i < k) : (regs c a k)[2 * i]? = some (.int .i64 c) ∧ (regs c a k)[2 * i + 1]? = some (.int .i64 (a + (i : Nat))) := by
  induction k with
  | zero => omega
  | succ k ih =>
    rw [regs_succ]
    by_cases hi : i < k
    · rw [List.getElem?_append_left (by rw [regs_length]; omega), List.getElem?_append_left (by rw [regs_length]; omega)]
      exact ih hi
    · obtain rfl : i = k := by omega
      rw [List.getElem?_append_right (by rw [regs_length]; omega), List.getElem?_append_right (by rw [regs_length]; omega), regs_length]
      rw [show 2 * i - i * 2 = 0 by omega, show 2 * i + 1 - i * 2 = 1 by omega]
      exact ⟨rfl, rfl⟩
/-- A row of the call's own that holds these registers. -/
def OwnR (w : World) (base : Nat) (v : Value) (c a : Int) (k : Nat) : Prop := w.ownsRow base 23 2 v k (regs c a k)
theorem OwnR.base {w : World} {base : Nat} {v : Value} {c a : Int} {k : Nat} (h : OwnR w base v c a k) : ∀ g, v.ownBlock = some g → base ≤ g := by
  intro g hg
  rcases h.2 with ⟨rfl, _⟩ | ⟨g', cap, cur, rfl, hb, _⟩
  · simp [Value.ownBlock] at hg
  · simp [Value.ownBlock] at hg; omega
theorem two_new (w : World) (u v : Value) (t : TypeId) : ∀ (j : Nat) x, [u, v][j]? = some x → (w.alloc (.cells #[u, v] t)).cell? ((⟨w.heap.size, 0, none⟩ : Addr).add j) = some x := by
  intro j x hj
  have hadd : (⟨w.heap.size, 0, none⟩ : Addr).add j = ⟨w.heap.size, j, none⟩ := by unfold Addr.add; split <;> simp_all
  rw [hadd]
  rcases j with _ | _ | j
  · simp at hj; subst hj; simp
  · simp at hj; subst hj; simp
  · simp at hj
set_option maxHeartbeats 1000000 in
set_option maxRecDepth 100000 in
theorem all_any (c : Int) (w : World) :
    Calls Tryd.prog 27 #[.int .i64 c] w fun e w' => ∃ v, e = .returned v ∧ Below w.heap.size w w' ∧ OwnR w' w.heap.size v c (spanF c).1 (spanF c).2.toNat := by
  obtain ⟨a, b, hs⟩ : ∃ a b, spanF c = (a, b) := ⟨_, _, rfl⟩
  have hr := spanF_range c
  rw [hs] at hr
  simp only [] at hr
  have HS := hid hs
  rw [hs]
  clear hs
  obtain ⟨i0, hi, hz0, hz1, hz2⟩ := info_parts infoReg
  have I0 := hid hz0; have I1 := hid hz1; have I2 := hid hz2; have I3 := hid hi
  clear hi hz0 hz1 hz2
  go_enter Tryd.func27, Tryd.ntmps27
  go_wp2_with (go_at_call 28; refine (span_of HS.out _).mono ?_; rintro e w' ⟨rfl, rfl⟩)
  go_loopw [5, 13] (fun s5 s13 wr => ∃ (k : Nat) (v : Value), (k : Int) ≤ b ∧ s13 = .int .i64 k ∧ s5 = v ∧ Hid (Below w.heap.size w wr) ∧ Hid (OwnR wr w.heap.size v c a k)) (fun _ s13 _ => b.toNat - (intOf s13).toNat)
  case atStart => exact ⟨0, _, by omega, rfl, rfl, hid (Below.refl _ _), hid ⟨rfl, .inl ⟨rfl, rfl⟩⟩⟩
  case round =>
    obtain ⟨k, v, hk, rfl, rfl, HB, HO⟩ := hrel
    by_cases hlt : (k : Int) < b
    · have hsum : IntKind.i64.wrap (a + (k : Int)) = a + k := IntWalk.i64_in _ (by omega)
      go_wp2_with (at_builtin; refine wpList_append_own _ rfl _ _ 35 rfl w.heap.size 23 i0 (.agg #[.int .i64 0, .int .i64 0]) 2 16 Tryd.underlying35 I3.out I0.out I1.out I2.out rfl (by decide) _ k (regs c a k) rfl (HO.out.alloc _) ⟨wr.heap.size, 0, none⟩ 1 1 [.int .i64 c, .int .i64 (a + (k : Int))] rfl rfl ?c1 ?c2 ?c3 ?c4 ?c5 ?_)
      case c1 => exact two_new _ _ _ _
      case c2 => simp; exact ⟨rfl, rfl⟩
      case c3 => unfold maxLen; omega
      case c4 => omega
      case c5 => have := HB.out.size; simp; omega
      intro v' w1 hown hgrow _
      have HO1 := hid (show OwnR w1 w.heap.size v' c a (k + 1) by unfold OwnR; rw [regs_succ]; exact hown)
      have HB1 := hid ((HB.out.alloc HB.out.size (.cells #[.int .i64 c, .int .i64 (a + (k : Int))] 23)).grown hgrow (Nat.le_trans HB.out.size (by simp)) HO.out.base)
      clear hown hgrow
      go_wp2_with fail
      go_roundw
      case rel => exact ⟨k + 1, v', by omega, by go_num, rfl, HB1, HO1⟩
      case measure => simp [intOf]; omega
    · have hkb : (k : Int) = b := by omega
      have HK := hid (show b.toNat = k by omega)
      go_wp2_with fail
      go_ret
      exact ⟨_, rfl, HB.out, by rw [HK.out]; exact HO.out⟩
end Go.Proofs.YtebcljdekhmkhaaDoor
