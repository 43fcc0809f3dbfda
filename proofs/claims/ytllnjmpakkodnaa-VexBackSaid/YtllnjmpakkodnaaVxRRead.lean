/-
  Read: the document's.
-/
import Derived.Test.YtllnjmpakkodnaaVxRead2
namespace Go.Proofs.Ytllnjmpakkodnaa
open Go.RowKit
set_option maxRecDepth 100000

theorem rpre_of (n : Int) {z : Int} (h : preF n = z) (w : World) :
    Calls Try.prog 32 #[.int .i64 n] w fun e w' => e = .returned (.int .i64 z) ∧ w = w' := by rw [← h]; exact rpre_any n w
set_option maxHeartbeats 1000000 in
theorem rread_nil (A : Option Addr) (c : Nat) (w : World) :
    Calls Try.prog 17 #[.slice A 0 c] w fun e w' => e = .returned (RV (V0, 0, 9)) ∧ Below w.heap.size w w' := by
  go_enter Try.func17, Try.ntmps17
  go_wp2_with (with_reducible change bodyPost _ _ _ Exit.ret _ _; go_loud (refine bodyPost_ret (v := .tuple #[.agg #[.int .i64 0, .int .i64 0, .int .i64 0, .int .i64 0, .int .i64 0, .int .i64 0, .int .i64 0, .int .i64 0], .int .i64 0, .int .i64 9]) (by simp [results, Try.results17, go_sem, *]) rfl ⟨rfl, ?_⟩))
  go_grown
set_option maxHeartbeats 1000000 in
theorem rread_else (q off m c : Nat) (z : Int) (hm : 0 < m) (h2 : (z != 196) = true) (h3 : (z != 197) = true) (w : World) (hc0 : w.cell? ⟨q, off, none⟩ = some (.int .u8 z)) (hq : q < w.heap.size) :
    Calls Try.prog 17 #[.slice (some ⟨q, off, none⟩) m c] w fun e w' => e = .returned (RV (V0, 0, 4)) ∧ Below w.heap.size w w' := by
  have m0 : ¬ (m : Int) = 0 := by omega
  have m1 : (0 : Int) < m := by omega
  have hb0 := fun o => ((Below.refl w.heap.size w).alloc (Nat.le_refl _) o).cell (p := ⟨q, off, none⟩) hq |>.trans hc0
  go_enter Try.func17, Try.ntmps17
  go_wp2_with (with_reducible change bodyPost _ _ _ Exit.ret _ _; go_loud (refine bodyPost_ret (v := .tuple #[.agg #[.int .i64 0, .int .i64 0, .int .i64 0, .int .i64 0, .int .i64 0, .int .i64 0, .int .i64 0, .int .i64 0], .int .i64 0, .int .i64 4]) (by simp [results, Try.results17, go_sem, *]) rfl ⟨rfl, ?_⟩))
  go_grown
set_option maxHeartbeats 1000000 in
theorem rread_one196 (q off c : Nat) (w : World) (hc0 : w.cell? ⟨q, off, none⟩ = some (.int .u8 196)) (hq : q < w.heap.size) :
    Calls Try.prog 17 #[.slice (some ⟨q, off, none⟩) 1 c] w fun e w' => e = .returned (RV (V0, 0, 9)) ∧ Below w.heap.size w w' := by
  have hb0 := fun o => ((Below.refl w.heap.size w).alloc (Nat.le_refl _) o).cell (p := ⟨q, off, none⟩) hq |>.trans hc0
  go_enter Try.func17, Try.ntmps17
  go_wp2_with (with_reducible change bodyPost _ _ _ Exit.ret _ _; go_loud (refine bodyPost_ret (v := .tuple #[.agg #[.int .i64 0, .int .i64 0, .int .i64 0, .int .i64 0, .int .i64 0, .int .i64 0, .int .i64 0, .int .i64 0], .int .i64 0, .int .i64 9]) (by simp [results, Try.results17, go_sem, *]) rfl ⟨rfl, ?_⟩))
  go_grown
set_option maxHeartbeats 1000000 in
theorem rread_one197 (q off c : Nat) (w : World) (hc0 : w.cell? ⟨q, off, none⟩ = some (.int .u8 197)) (hq : q < w.heap.size) :
    Calls Try.prog 17 #[.slice (some ⟨q, off, none⟩) 1 c] w fun e w' => e = .returned (RV (V0, 0, 9)) ∧ Below w.heap.size w w' := by
  have hb0 := fun o => ((Below.refl w.heap.size w).alloc (Nat.le_refl _) o).cell (p := ⟨q, off, none⟩) hq |>.trans hc0
  go_enter Try.func17, Try.ntmps17
  go_wp2_with (with_reducible change bodyPost _ _ _ Exit.ret _ _; go_loud (refine bodyPost_ret (v := .tuple #[.agg #[.int .i64 0, .int .i64 0, .int .i64 0, .int .i64 0, .int .i64 0, .int .i64 0, .int .i64 0, .int .i64 0], .int .i64 0, .int .i64 9]) (by simp [results, Try.results17, go_sem, *]) rfl ⟨rfl, ?_⟩))
  go_grown
set_option maxHeartbeats 1000000 in
theorem rread_two (q off m c : Nat) (n R V L P : Int) (hm : 1 < m) (hn : 0 ≤ n ∧ n < 256) (h1 : 1 - n / 128 = R) (h2 : 15 - n / 8 % 16 = V) (h3 : n / 4 % 2 = L) (HP : Hid (preF (n % 4) = P)) (w : World) (hc0 : w.cell? ⟨q, off, none⟩ = some (.int .u8 197)) (hc1 : w.cell? ⟨q, off + 1, none⟩ = some (.int .u8 n)) (hq : q < w.heap.size) :
    Calls Try.prog 17 #[.slice (some ⟨q, off, none⟩) m c] w fun e w' => e = .returned (.tuple #[.agg #[.int .i64 R, .int .i64 0, .int .i64 0, .int .i64 1, .int .i64 0, .int .i64 V, .int .i64 L, .int .i64 P], .int .i64 2, .int .i64 0]) ∧ Below w.heap.size w w' := by
  have m0 : ¬ (m : Int) = 0 := by omega
  have m1 : (0 : Int) < m := by omega
  have hm0 : 0 < m := by omega
  have m2 : ¬ (m : Int) = 1 := by omega
  have m3 : (1 : Int) < m := by omega
  obtain ⟨n0, n1⟩ := hn
  have hb0 := fun o => ((Below.refl w.heap.size w).alloc (Nat.le_refl _) o).cell (p := ⟨q, off, none⟩) hq |>.trans hc0
  have hb1 := fun o => ((Below.refl w.heap.size w).alloc (Nat.le_refl _) o).cell (p := ⟨q, off + 1, none⟩) hq |>.trans hc1
  go_enter Try.func17, Try.ntmps17
  go_wp2_with (first | (go_at_call 32; (with_reducible refine (rpre_of _ HP.out _).mono ?_); rintro e w1 ⟨rfl, rfl⟩) | (with_reducible change bodyPost _ _ _ Exit.ret _ _; go_loud (refine bodyPost_ret (v := .tuple #[.agg #[.int .i64 R, .int .i64 0, .int .i64 0, .int .i64 1, .int .i64 0, .int .i64 V, .int .i64 L, .int .i64 P], .int .i64 2, .int .i64 0]) (by simp [results, Try.results17, go_sem, *]) rfl ⟨rfl, ?_⟩)))
  go_grown
set_option maxHeartbeats 1000000 in
theorem rread_map (q off m c : Nat) (n : Int) (hm : 1 < m) (hn : 0 ≤ n ∧ n < 256) (hr : n % 32 < 1 ∨ 3 < n % 32) (w : World) (hc0 : w.cell? ⟨q, off, none⟩ = some (.int .u8 196)) (hc1 : w.cell? ⟨q, off + 1, none⟩ = some (.int .u8 n)) (hq : q < w.heap.size) :
    Calls Try.prog 17 #[.slice (some ⟨q, off, none⟩) m c] w fun e w' => e = .returned (RV (V0, 0, 4)) ∧ Below w.heap.size w w' := by
  have m0 : ¬ (m : Int) = 0 := by omega
  have m1 : (0 : Int) < m := by omega
  have hm0 : 0 < m := by omega
  have m2 : ¬ (m : Int) = 1 := by omega
  have m3 : (1 : Int) < m := by omega
  obtain ⟨n0, n1⟩ := hn
  have hb0 := fun o => ((Below.refl w.heap.size w).alloc (Nat.le_refl _) o).cell (p := ⟨q, off, none⟩) hq |>.trans hc0
  have hb1 := fun o => ((Below.refl w.heap.size w).alloc (Nat.le_refl _) o).cell (p := ⟨q, off + 1, none⟩) hq |>.trans hc1
  go_enter Try.func17, Try.ntmps17
  go_wp2_with (with_reducible change bodyPost _ _ _ Exit.ret _ _; go_loud (refine bodyPost_ret (v := .tuple #[.agg #[.int .i64 0, .int .i64 0, .int .i64 0, .int .i64 0, .int .i64 0, .int .i64 0, .int .i64 0, .int .i64 0], .int .i64 0, .int .i64 4]) (by simp [results, Try.results17, go_sem, *]) rfl ⟨rfl, ?_⟩))
  go_grown
set_option maxHeartbeats 1000000 in
theorem rread_cut (q off c : Nat) (n : Int) (hn : 0 ≤ n ∧ n < 256) (hr : ¬ (n % 32 < 1 ∨ 3 < n % 32)) (w : World) (hc0 : w.cell? ⟨q, off, none⟩ = some (.int .u8 196)) (hc1 : w.cell? ⟨q, off + 1, none⟩ = some (.int .u8 n)) (hq : q < w.heap.size) :
    Calls Try.prog 17 #[.slice (some ⟨q, off, none⟩) 2 c] w fun e w' => e = .returned (RV (V0, 0, 9)) ∧ Below w.heap.size w w' := by
  obtain ⟨n0, n1⟩ := hn
  have r1 : 1 ≤ n % 32 := by omega
  have r2 : n % 32 ≤ 3 := by omega
  clear hr
  have hb0 := fun o => ((Below.refl w.heap.size w).alloc (Nat.le_refl _) o).cell (p := ⟨q, off, none⟩) hq |>.trans hc0
  have hb1 := fun o => ((Below.refl w.heap.size w).alloc (Nat.le_refl _) o).cell (p := ⟨q, off + 1, none⟩) hq |>.trans hc1
  go_enter Try.func17, Try.ntmps17
  go_wp2_with (with_reducible change bodyPost _ _ _ Exit.ret _ _; go_loud (refine bodyPost_ret (v := .tuple #[.agg #[.int .i64 0, .int .i64 0, .int .i64 0, .int .i64 0, .int .i64 0, .int .i64 0, .int .i64 0, .int .i64 0], .int .i64 0, .int .i64 9]) (by simp [results, Try.results17, go_sem, *]) rfl ⟨rfl, ?_⟩))
  go_grown
set_option maxHeartbeats 1000000 in
theorem rread_three (q off m c : Nat) (n k R X B M N V L P : Int) (hm : 2 < m) (hn : 0 ≤ n ∧ n < 256) (hk : 0 ≤ k ∧ k < 256) (hr : ¬ (n % 32 < 1 ∨ 3 < n % 32)) (h1 : 1 - n / 128 = R) (h2 : 1 - n / 64 % 2 = X) (h3 : 1 - n / 32 % 2 = B) (h4 : n % 32 = M) (h5 : k / 128 = N) (h6 : 15 - k / 8 % 16 = V) (h7 : k / 4 % 2 = L) (HP : Hid (preF (k % 4) = P)) (w : World) (hc0 : w.cell? ⟨q, off, none⟩ = some (.int .u8 196)) (hc1 : w.cell? ⟨q, off + 1, none⟩ = some (.int .u8 n)) (hc2 : w.cell? ⟨q, off + 2, none⟩ = some (.int .u8 k)) (hq : q < w.heap.size) :
    Calls Try.prog 17 #[.slice (some ⟨q, off, none⟩) m c] w fun e w' => e = .returned (.tuple #[.agg #[.int .i64 R, .int .i64 X, .int .i64 B, .int .i64 M, .int .i64 N, .int .i64 V, .int .i64 L, .int .i64 P], .int .i64 3, .int .i64 0]) ∧ Below w.heap.size w w' := by
  have m0 : ¬ (m : Int) = 0 := by omega
  have m1 : (0 : Int) < m := by omega
  have hm0 : 0 < m := by omega
  have m2 : ¬ (m : Int) = 1 := by omega
  have m3 : (1 : Int) < m := by omega
  have hm1 : 1 < m := by omega
  have m4 : ¬ (m : Int) = 2 := by omega
  have m5 : (2 : Int) < m := by omega
  obtain ⟨n0, n1⟩ := hn
  obtain ⟨k0, k1⟩ := hk
  have r1 : 1 ≤ n % 32 := by omega
  have r2 : n % 32 ≤ 3 := by omega
  clear hr
  have hb0 := fun o => ((Below.refl w.heap.size w).alloc (Nat.le_refl _) o).cell (p := ⟨q, off, none⟩) hq |>.trans hc0
  have hb1 := fun o => ((Below.refl w.heap.size w).alloc (Nat.le_refl _) o).cell (p := ⟨q, off + 1, none⟩) hq |>.trans hc1
  have hb2 := fun o => ((Below.refl w.heap.size w).alloc (Nat.le_refl _) o).cell (p := ⟨q, off + 2, none⟩) hq |>.trans hc2
  go_enter Try.func17, Try.ntmps17
  go_wp2_with (first | (go_at_call 32; (with_reducible refine (rpre_of _ HP.out _).mono ?_); rintro e w1 ⟨rfl, rfl⟩) | (with_reducible change bodyPost _ _ _ Exit.ret _ _; go_loud (refine bodyPost_ret (v := .tuple #[.agg #[.int .i64 R, .int .i64 X, .int .i64 B, .int .i64 M, .int .i64 N, .int .i64 V, .int .i64 L, .int .i64 P], .int .i64 3, .int .i64 0]) (by simp [results, Try.results17, go_sem, *]) rfl ⟨rfl, ?_⟩)))
  go_grown
end Go.Proofs.Ytllnjmpakkodnaa
