/-
  The encoding with three bytes: the document's.
-/
import Derived.Test.YtllnjmpakkodnaaVxLists
import Derived.Deep.RegionHeldLaw
namespace Go.Proofs.Ytllnjmpakkodnaa
open Go.RowKit
set_option maxRecDepth 100000

theorem rpp_of {n z : Int} (h : ppF n = z) (w : World) :
    Calls Try.prog 24 #[.int .i64 n] w fun e w' => e = .returned (.int .i64 z) ∧ w = w' := by rw [← h]; exact rpp_any n w
theorem cell_box' (w : World) (v : Value) (t : TypeId) {q : Nat} (h : q = w.heap.size) : (w.alloc (.cells #[v] t)).cell? ⟨q, 0, none⟩ = some v := by subst h; exact cell_box w v t
theorem byb_new {w : World} {t : TypeId} {zs : List Int} {g : Nat} (h : g = w.heap.size) : ByB (w.alloc (.cells (zs.map (Value.int .u8)).toArray t)) g t zs := by subst h; exact heap_alloc_new w _
set_option maxHeartbeats 2000000 in
theorem rthree_any (r x b m n v l p k : Int) (hq : okF ⟨r, x, b, m, n, v, l, p⟩ = true) (hk : k = 0 ∨ k = 1) (w : World) :
    Calls Try.prog 25 #[.agg (VC r x b m n v l p), .int .i64 k] w fun e w' => ∃ g : Nat, w.heap.size ≤ g ∧ e = .returned (SL g 3) ∧ Below w.heap.size w w' ∧ ByB w' g 5 (threeB ⟨r, x, b, m, n, v, l, p⟩ k) := by
  obtain ⟨hr, hx, hb, -, hl, hm, hv, -⟩ := ok_parts hq
  simp only at hr hx hb hl hm hv
  obtain ⟨z, hz⟩ : ∃ z, ppF p = z := ⟨_, rfl⟩
  have hz3 := ppF_range p
  rw [hz] at hz3
  have HZ := hid hz
  have r0 : 0 ≤ r ∧ r ≤ 1 := by omega
  have x0 : 0 ≤ x ∧ x ≤ 1 := by omega
  have b0 : 0 ≤ b ∧ b ≤ 1 := by omega
  have l0 : 0 ≤ l ∧ l ≤ 1 := by omega
  have k0 : 0 ≤ k ∧ k ≤ 1 := by omega
  clear hr hx hb hl hq hk hz
  obtain ⟨r0, r1⟩ := r0
  obtain ⟨x0, x1⟩ := x0
  obtain ⟨b0, b1⟩ := b0
  obtain ⟨l0, l1⟩ := l0
  obtain ⟨k0, k1⟩ := k0
  obtain ⟨m0, m1⟩ := hm
  obtain ⟨v0, v1⟩ := hv
  obtain ⟨z0, z1⟩ := hz3
  have q0 : IntKind.i64.wrap (1 - r) = 1 - r := IntWalk.i64_in _ (by omega)
  have q1 : IntKind.i64.wrap (128 * (1 - r)) = 128 * (1 - r) := IntWalk.i64_in _ (by omega)
  have q2 : IntKind.i64.wrap (1 - x) = 1 - x := IntWalk.i64_in _ (by omega)
  have q3 : IntKind.i64.wrap (64 * (1 - x)) = 64 * (1 - x) := IntWalk.i64_in _ (by omega)
  have q4 : IntKind.i64.wrap (128 * (1 - r) + 64 * (1 - x)) = 128 * (1 - r) + 64 * (1 - x) := IntWalk.i64_in _ (by omega)
  have q5 : IntKind.i64.wrap (1 - b) = 1 - b := IntWalk.i64_in _ (by omega)
  have q6 : IntKind.i64.wrap (32 * (1 - b)) = 32 * (1 - b) := IntWalk.i64_in _ (by omega)
  have q7 : IntKind.i64.wrap (128 * (1 - r) + 64 * (1 - x) + 32 * (1 - b)) = 128 * (1 - r) + 64 * (1 - x) + 32 * (1 - b) := IntWalk.i64_in _ (by omega)
  have q8 : IntKind.i64.wrap (128 * (1 - r) + 64 * (1 - x) + 32 * (1 - b) + m) = 128 * (1 - r) + 64 * (1 - x) + 32 * (1 - b) + m := IntWalk.i64_in _ (by omega)
  have q9 : IntKind.i64.wrap (128 * k) = 128 * k := IntWalk.i64_in _ (by omega)
  have q10 : IntKind.i64.wrap (15 - v) = 15 - v := IntWalk.i64_in _ (by omega)
  have q11 : IntKind.i64.wrap (8 * (15 - v)) = 8 * (15 - v) := IntWalk.i64_in _ (by omega)
  have q12 : IntKind.i64.wrap (128 * k + 8 * (15 - v)) = 128 * k + 8 * (15 - v) := IntWalk.i64_in _ (by omega)
  have q13 : IntKind.i64.wrap (4 * l) = 4 * l := IntWalk.i64_in _ (by omega)
  have q14 : IntKind.i64.wrap (128 * k + 8 * (15 - v) + 4 * l) = 128 * k + 8 * (15 - v) + 4 * l := IntWalk.i64_in _ (by omega)
  have q15 : IntKind.i64.wrap (128 * k + 8 * (15 - v) + 4 * l + z) = 128 * k + 8 * (15 - v) + 4 * l + z := IntWalk.i64_in _ (by omega)
  have u0 : IntKind.u8.wrap (128 * (1 - r) + 64 * (1 - x) + 32 * (1 - b) + m) = 128 * (1 - r) + 64 * (1 - x) + 32 * (1 - b) + m := by rw [IntKind.wrap_u8]; omega
  have u1 : IntKind.u8.wrap (128 * k + 8 * (15 - v) + 4 * l + z) = 128 * k + 8 * (15 - v) + 4 * l + z := by rw [IntKind.wrap_u8]; omega
  have HO := hid ((Own.nil w).alloc w.heap.size (VC r x b m n v l p) 23 rfl)
  have c0 := HO.out.c
  have y0 := HO.out.z
  go_enter Try.func25, Try.ntmps25
  go_wp2_with fail
  generalize w.alloc (.cells (VC r x b m n v l p) 23) = W at *
  have hS := Old.of (Below.refl W.heap.size W)
  go_region_held3 (fun w' => Below W.heap.size W w' ∧ ∀ b o, b < W.heap.size → w'.cell? ⟨b, o, none⟩ = W.cell? ⟨b, o, none⟩) (first | with_reducible assumption | exact old_drew ‹_› | exact old_drew (Old.of (Below.refl W.heap.size W)) | (with_reducible refine old_alloc ?_ _; with_reducible assumption) | exact old_drew (old_alloc (Old.of (Below.refl W.heap.size W)) _) | exact old_drew (old_alloc (old_drew (Old.of (Below.refl W.heap.size W))) _)) ((go_at_call 24; (with_reducible refine (rpp_of HZ.out _).mono ?_); rintro e w2 ⟨rfl, rfl⟩))
  all_goals go_wp2
  all_goals go_ret
  all_goals
    refine ⟨_, HO.out.below.size, rfl, (HO.out.below.alloc HO.out.below.size _).drew, ?_⟩
    have e : threeB ⟨r, x, b, m, n, v, l, p⟩ k = [196, 128 * (1 - r) + 64 * (1 - x) + 32 * (1 - b) + m, 128 * k + 8 * (15 - v) + 4 * l + z] := by rw [← HZ.out]; rfl
    rw [e]
    unfold ByB
    exact heap_alloc_new W _
end Go.Proofs.Ytllnjmpakkodnaa
