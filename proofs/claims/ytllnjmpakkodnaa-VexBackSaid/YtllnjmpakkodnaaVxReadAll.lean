/-
  Read: the program's.
-/
import Derived.Test.YtllnjmpakkodnaaVxRead3
namespace Go.Proofs.Ytllnjmpakkodnaa
open Go.RowKit
set_option maxRecDepth 100000

/-- What the two readers are asked for: it is told of the world in which they run. -/
def Reads (f : FuncId) (A : Option Addr) (m c : Nat) (w : World) (v : Value) : Prop := Calls Try.prog f #[.slice A m c] w fun e w' => e = .returned v ∧ Below w.heap.size w w'
theorem Reads.run {f : FuncId} {A : Option Addr} {m c : Nat} {w : World} {v : Value} (h : Reads f A m c w v) : Calls Try.prog f #[.slice A m c] w fun e w' => e = .returned v ∧ Below w.heap.size w w' := h
theorem vread_nil (A : Option Addr) (c : Nat) (w : World) :
    Calls Try.prog 16 #[.slice A 0 c] w fun e w' => e = .returned (RV (V0, 0, 9)) ∧ Below w.heap.size w w' := by
  go_enter Try.func16, Try.ntmps16
  go_wp2_with (with_reducible change bodyPost _ _ _ Exit.ret _ _; go_loud (refine bodyPost_ret (v := .tuple #[.agg #[.int .i64 0, .int .i64 0, .int .i64 0, .int .i64 0, .int .i64 0, .int .i64 0, .int .i64 0, .int .i64 0], .int .i64 0, .int .i64 9]) (by simp [results, Try.results16, go_sem, *]) rfl ⟨rfl, ?_⟩))
  go_grown
set_option maxHeartbeats 400000 in
theorem vread_else (q off m c : Nat) (z : Int) (hm : 0 < m) (h2 : (z == 197) = false) (h3 : (z == 196) = false) (w : World) (hc : w.cell? ⟨q, off, none⟩ = some (.int .u8 z)) (hq : q < w.heap.size) :
    Calls Try.prog 16 #[.slice (some ⟨q, off, none⟩) m c] w fun e w' => e = .returned (RV (V0, 0, 4)) ∧ Below w.heap.size w w' := by
  have m0 : ¬ (m : Int) = 0 := by omega
  have m1 : (0 : Int) < m := by omega
  have hcb := fun o => ((Below.refl w.heap.size w).alloc (Nat.le_refl _) o).cell (p := ⟨q, off, none⟩) hq |>.trans hc
  go_enter Try.func16, Try.ntmps16
  go_wp2_with (with_reducible change bodyPost _ _ _ Exit.ret _ _; go_loud (refine bodyPost_ret (v := .tuple #[.agg #[.int .i64 0, .int .i64 0, .int .i64 0, .int .i64 0, .int .i64 0, .int .i64 0, .int .i64 0, .int .i64 0], .int .i64 0, .int .i64 4]) (by simp [results, Try.results16, go_sem, *]) rfl ⟨rfl, ?_⟩))
  go_grown
set_option maxHeartbeats 1000000 in
theorem vread_197_one (q off : Nat) (r0 x0 b0 m0' n0 v0 l0 p0 k er : Int) (w : World) (hc : w.cell? ⟨q, off, none⟩ = some (.int .u8 197)) (hq : q < w.heap.size)
    (h : Hid (∀ W : World, Below w.heap.size w W → Reads 30 (some ⟨q, off, none⟩) 0 0 W (.tuple #[.agg #[.int .i64 r0, .int .i64 x0, .int .i64 b0, .int .i64 m0', .int .i64 n0, .int .i64 v0, .int .i64 l0, .int .i64 p0], .int .i64 k, .int .i64 er]))) :
    Calls Try.prog 16 #[.slice (some ⟨q, off, none⟩) 1 1] w fun e w' => e = .returned (.tuple #[.agg #[.int .i64 r0, .int .i64 x0, .int .i64 b0, .int .i64 m0', .int .i64 n0, .int .i64 v0, .int .i64 l0, .int .i64 p0], .int .i64 k, .int .i64 er]) ∧ Below w.heap.size w w' := by
  have HO := hid ((Own.nil w).alloc w.heap.size #[.int .i64 0, .int .i64 0, .int .i64 0, .int .i64 0, .int .i64 0, .int .i64 0, .int .i64 0, .int .i64 0] 23 rfl)
  have hcb := fun o => ((Below.refl w.heap.size w).alloc (Nat.le_refl _) o).cell (p := ⟨q, off, none⟩) hq |>.trans hc
  go_enter Try.func16, Try.ntmps16
  go_wp2_with (go_at_call 30; (with_reducible refine (h.out _ HO.out.below).run.mono ?_); rintro e w1 ⟨rfl, hb1⟩; have HO1 := hid (HO.out.call hb1); have c0 := HO1.out.c; have z0 := HO1.out.z; have f0 := HO1.out.f; clear hb1)
  have hge : w.heap.size ≤ w.heap.size := Nat.le_refl _
  go_wp2_with (with_reducible change bodyPost _ _ _ Exit.ret _ _; go_loud (refine bodyPost_ret (v := .tuple #[.agg #[.int .i64 r0, .int .i64 x0, .int .i64 b0, .int .i64 m0', .int .i64 n0, .int .i64 v0, .int .i64 l0, .int .i64 p0], .int .i64 k, .int .i64 er]) (by simp [results, Try.results16, go_sem, *]) rfl ⟨rfl, ?_⟩))
  repeat first | with_reducible exact HO1.out.below | with_reducible refine below_set2 ?_ hge _ _
set_option maxHeartbeats 1000000 in
theorem vread_197_more (q off m c : Nat) (r0 x0 b0 m0' n0 v0 l0 p0 k er : Int) (hm : 0 < m) (hmc : m ≤ c) (hcl : c ≤ 9223372036854775807) (hc1 : ¬ c = 1) (w : World) (hc : w.cell? ⟨q, off, none⟩ = some (.int .u8 197)) (hq : q < w.heap.size)
    (h : Hid (∀ W : World, Below w.heap.size w W → Reads 30 (some ⟨q, off + 1, none⟩) (m - 1) (c - 1) W (.tuple #[.agg #[.int .i64 r0, .int .i64 x0, .int .i64 b0, .int .i64 m0', .int .i64 n0, .int .i64 v0, .int .i64 l0, .int .i64 p0], .int .i64 k, .int .i64 er]))) :
    Calls Try.prog 16 #[.slice (some ⟨q, off, none⟩) m c] w fun e w' => e = .returned (.tuple #[.agg #[.int .i64 r0, .int .i64 x0, .int .i64 b0, .int .i64 m0', .int .i64 n0, .int .i64 v0, .int .i64 l0, .int .i64 p0], .int .i64 k, .int .i64 er]) ∧ Below w.heap.size w w' := by
  have i0 : ¬ (m : Int) = 0 := by omega
  have i1 : (0 : Int) < m := by omega
  have i2 : (1 : Int) ≤ m := by omega
  have i3 : (m : Int) ≤ c := by omega
  have i4 : (1 : Int) ≤ c := by omega
  have HO := hid ((Own.nil w).alloc w.heap.size #[.int .i64 0, .int .i64 0, .int .i64 0, .int .i64 0, .int .i64 0, .int .i64 0, .int .i64 0, .int .i64 0] 23 rfl)
  have hcb := fun o => ((Below.refl w.heap.size w).alloc (Nat.le_refl _) o).cell (p := ⟨q, off, none⟩) hq |>.trans hc
  go_enter Try.func16, Try.ntmps16
  go_wp2_with (go_at_call 30; (with_reducible refine (h.out _ HO.out.below).run.mono ?_); rintro e w1 ⟨rfl, hb1⟩; have HO1 := hid (HO.out.call hb1); have c0 := HO1.out.c; have z0 := HO1.out.z; have f0 := HO1.out.f; clear hb1)
  have hge : w.heap.size ≤ w.heap.size := Nat.le_refl _
  go_wp2_with (with_reducible change bodyPost _ _ _ Exit.ret _ _; go_loud (refine bodyPost_ret (v := .tuple #[.agg #[.int .i64 r0, .int .i64 x0, .int .i64 b0, .int .i64 m0', .int .i64 n0, .int .i64 v0, .int .i64 l0, .int .i64 p0], .int .i64 k, .int .i64 er]) (by simp [results, Try.results16, go_sem, *]) rfl ⟨rfl, ?_⟩))
  repeat first | with_reducible exact HO1.out.below | with_reducible refine below_set2 ?_ hge _ _
set_option maxHeartbeats 1000000 in
theorem vread_196_one (q off : Nat) (r0 x0 b0 m0' n0 v0 l0 p0 k er : Int) (w : World) (hc : w.cell? ⟨q, off, none⟩ = some (.int .u8 196)) (hq : q < w.heap.size)
    (h : Hid (∀ W : World, Below w.heap.size w W → Reads 31 (some ⟨q, off, none⟩) 0 0 W (.tuple #[.agg #[.int .i64 r0, .int .i64 x0, .int .i64 b0, .int .i64 m0', .int .i64 n0, .int .i64 v0, .int .i64 l0, .int .i64 p0], .int .i64 k, .int .i64 er]))) :
    Calls Try.prog 16 #[.slice (some ⟨q, off, none⟩) 1 1] w fun e w' => e = .returned (.tuple #[.agg #[.int .i64 r0, .int .i64 x0, .int .i64 b0, .int .i64 m0', .int .i64 n0, .int .i64 v0, .int .i64 l0, .int .i64 p0], .int .i64 k, .int .i64 er]) ∧ Below w.heap.size w w' := by
  have HO := hid ((Own.nil w).alloc w.heap.size #[.int .i64 0, .int .i64 0, .int .i64 0, .int .i64 0, .int .i64 0, .int .i64 0, .int .i64 0, .int .i64 0] 23 rfl)
  have hcb := fun o => ((Below.refl w.heap.size w).alloc (Nat.le_refl _) o).cell (p := ⟨q, off, none⟩) hq |>.trans hc
  go_enter Try.func16, Try.ntmps16
  go_wp2_with (go_at_call 31; (with_reducible refine (h.out _ HO.out.below).run.mono ?_); rintro e w1 ⟨rfl, hb1⟩; have HO1 := hid (HO.out.call hb1); have c0 := HO1.out.c; have z0 := HO1.out.z; have f0 := HO1.out.f; clear hb1)
  have hge : w.heap.size ≤ w.heap.size := Nat.le_refl _
  go_wp2_with (with_reducible change bodyPost _ _ _ Exit.ret _ _; go_loud (refine bodyPost_ret (v := .tuple #[.agg #[.int .i64 r0, .int .i64 x0, .int .i64 b0, .int .i64 m0', .int .i64 n0, .int .i64 v0, .int .i64 l0, .int .i64 p0], .int .i64 k, .int .i64 er]) (by simp [results, Try.results16, go_sem, *]) rfl ⟨rfl, ?_⟩))
  repeat first | with_reducible exact HO1.out.below | with_reducible refine below_set2 ?_ hge _ _
set_option maxHeartbeats 1000000 in
theorem vread_196_more (q off m c : Nat) (r0 x0 b0 m0' n0 v0 l0 p0 k er : Int) (hm : 0 < m) (hmc : m ≤ c) (hcl : c ≤ 9223372036854775807) (hc1 : ¬ c = 1) (w : World) (hc : w.cell? ⟨q, off, none⟩ = some (.int .u8 196)) (hq : q < w.heap.size)
    (h : Hid (∀ W : World, Below w.heap.size w W → Reads 31 (some ⟨q, off + 1, none⟩) (m - 1) (c - 1) W (.tuple #[.agg #[.int .i64 r0, .int .i64 x0, .int .i64 b0, .int .i64 m0', .int .i64 n0, .int .i64 v0, .int .i64 l0, .int .i64 p0], .int .i64 k, .int .i64 er]))) :
    Calls Try.prog 16 #[.slice (some ⟨q, off, none⟩) m c] w fun e w' => e = .returned (.tuple #[.agg #[.int .i64 r0, .int .i64 x0, .int .i64 b0, .int .i64 m0', .int .i64 n0, .int .i64 v0, .int .i64 l0, .int .i64 p0], .int .i64 k, .int .i64 er]) ∧ Below w.heap.size w w' := by
  have i0 : ¬ (m : Int) = 0 := by omega
  have i1 : (0 : Int) < m := by omega
  have i2 : (1 : Int) ≤ m := by omega
  have i3 : (m : Int) ≤ c := by omega
  have i4 : (1 : Int) ≤ c := by omega
  have HO := hid ((Own.nil w).alloc w.heap.size #[.int .i64 0, .int .i64 0, .int .i64 0, .int .i64 0, .int .i64 0, .int .i64 0, .int .i64 0, .int .i64 0] 23 rfl)
  have hcb := fun o => ((Below.refl w.heap.size w).alloc (Nat.le_refl _) o).cell (p := ⟨q, off, none⟩) hq |>.trans hc
  go_enter Try.func16, Try.ntmps16
  go_wp2_with (go_at_call 31; (with_reducible refine (h.out _ HO.out.below).run.mono ?_); rintro e w1 ⟨rfl, hb1⟩; have HO1 := hid (HO.out.call hb1); have c0 := HO1.out.c; have z0 := HO1.out.z; have f0 := HO1.out.f; clear hb1)
  have hge : w.heap.size ≤ w.heap.size := Nat.le_refl _
  go_wp2_with (with_reducible change bodyPost _ _ _ Exit.ret _ _; go_loud (refine bodyPost_ret (v := .tuple #[.agg #[.int .i64 r0, .int .i64 x0, .int .i64 b0, .int .i64 m0', .int .i64 n0, .int .i64 v0, .int .i64 l0, .int .i64 p0], .int .i64 k, .int .i64 er]) (by simp [results, Try.results16, go_sem, *]) rfl ⟨rfl, ?_⟩))
  repeat first | with_reducible exact HO1.out.below | with_reducible refine below_set2 ?_ hge _ _
/-- The slice behind the first byte, as a reader is given it. -/
theorem vread_by (f : FuncId) (q off m c : Nat) (v : Value) (w : World)
    (h0 : ∀ W, Below w.heap.size w W → m = 1 → ∀ A d, Reads f A 0 d W v) (h1 : ∀ W, Below w.heap.size w W → 1 < m → Reads f (some ⟨q, off + 1, none⟩) (m - 1) (c - 1) W v) (hm : 0 < m) (hmc : m ≤ c) :
    (c = 1 ∧ m = 1 ∧ ∀ W : World, Below w.heap.size w W → Reads f (some ⟨q, off, none⟩) 0 0 W v) ∨ (¬ c = 1 ∧ ∀ W : World, Below w.heap.size w W → Reads f (some ⟨q, off + 1, none⟩) (m - 1) (c - 1) W v) := by
  by_cases hc1 : c = 1
  · exact .inl ⟨hc1, by omega, fun W hW => h0 W hW (by omega) _ _⟩
  · refine .inr ⟨hc1, fun W hW => ?_⟩
    by_cases hm1 : m = 1
    · have := h0 W hW hm1 (some ⟨q, off + 1, none⟩) (c - 1)
      rwa [show (0 : Nat) = m - 1 by omega] at this
    · exact h1 W hW (by omega)
theorem vread_any (A : Option Addr) (m c : Nat) (zs : List Int) (hm : zs.length = m) (hmc : m ≤ c) (hcl : c ≤ 9223372036854775807) (w : World) (hx : Mem w w.heap.size A zs) :
    Calls Try.prog 16 #[.slice A m c] w fun e w' => e = .returned (RV (readF zs)) ∧ Below w.heap.size w w' := by
  rcases zs with _ | ⟨z, zs⟩
  · subst hm
    exact vread_nil A c w
  rcases hx.2 with h0 | ⟨q, off, rfl, hq, hcell⟩
  · cases h0
  have hz := hcell 0 (by simp)
  simp only [Nat.add_zero, List.getElem?_cons_zero, Option.getD_some] at hz
  by_cases h1 : z = 197
  · subst h1
    obtain ⟨⟨⟨r0, x0, b0, m1, n0, v0, l0, p0⟩, k, er⟩, he⟩ : ∃ R, readF (197 :: zs) = R := ⟨_, rfl⟩
    rw [he]
    have hby := vread_by 30 q off m c (RV (⟨r0, x0, b0, m1, n0, v0, l0, p0⟩, k, er)) w ?_ ?_ (by simp at hm; omega) hmc
    · rcases hby with ⟨rfl, rfl, h⟩ | ⟨hc1, h⟩
      · exact vread_197_one q off r0 x0 b0 m1 n0 v0 l0 p0 k er w hz hq (hid h)
      · exact vread_197_more q off m c r0 x0 b0 m1 n0 v0 l0 p0 k er (by simp at hm; omega) hmc hcl hc1 w hz hq (hid h)
    · intro W hW hm1 A d
      have : zs = [] := by rw [← hm] at hm1; simpa using hm1
      subst this
      rw [← he]
      exact two_cut A d W
    · intro W hW hm1
      rcases zs with _ | ⟨n, zs⟩
      · simp at hm; omega
      have hn := hcell 1 (by simp)
      simp only [List.getElem?_cons_succ, List.getElem?_cons_zero, Option.getD_some] at hn
      have hb := hx.1 n (by simp)
      have e2 : readF (197 :: n :: zs) = (⟨1 - n / 128, 0, 0, 1, 0, 15 - n / 8 % 16, n / 4 % 2, preF (n % 4)⟩, 2, 0) := by rcases zs with _ | ⟨k2, zs⟩ <;> rfl
      rw [← he, e2]
      exact two_read q (off + 1) (m - 1) (c - 1) n _ _ _ _ _ (by omega) hb (hid ⟨rfl, rfl, rfl, rfl⟩) (pre_cases (by omega)) W ((hW.cell (p := ⟨q, off + 1, none⟩) hq).trans hn) (Nat.lt_of_lt_of_le hq hW.size)
  by_cases h2 : z = 196
  · subst h2
    obtain ⟨⟨⟨r0, x0, b0, m1, n0, v0, l0, p0⟩, k, er⟩, he⟩ : ∃ R, readF (196 :: zs) = R := ⟨_, rfl⟩
    rw [he]
    have hby := vread_by 31 q off m c (RV (⟨r0, x0, b0, m1, n0, v0, l0, p0⟩, k, er)) w ?_ ?_ (by simp at hm; omega) hmc
    · rcases hby with ⟨rfl, rfl, h⟩ | ⟨hc1, h⟩
      · exact vread_196_one q off r0 x0 b0 m1 n0 v0 l0 p0 k er w hz hq (hid h)
      · exact vread_196_more q off m c r0 x0 b0 m1 n0 v0 l0 p0 k er (by simp at hm; omega) hmc hcl hc1 w hz hq (hid h)
    · intro W hW hm1 A d
      have : zs = [] := by rw [← hm] at hm1; simpa using hm1
      subst this
      rw [← he]
      exact three_cut A d W
    · intro W hW hm1
      rcases zs with _ | ⟨n, zs⟩
      · simp at hm; omega
      have hn := hcell 1 (by simp)
      simp only [List.getElem?_cons_succ, List.getElem?_cons_zero, Option.getD_some] at hn
      have hb := hx.1 n (by simp)
      have hnW := (hW.cell (p := ⟨q, off + 1, none⟩) hq).trans hn
      have hqW := Nat.lt_of_lt_of_le hq hW.size
      rw [← he]
      cases hmap : mapF (n % 32)
      · have hr : n % 32 < 1 ∨ 3 < n % 32 := by simp [mapF] at hmap; omega
        have e2 : readF (196 :: n :: zs) = (V0, 0, 4) := by
          rcases zs with _ | ⟨k2, zs⟩ <;> simp [readF, hr]
        rw [e2]
        exact three_map q (off + 1) (m - 1) (c - 1) n (by omega) hb hmap W hnW hqW
      · have hr : ¬ (n % 32 < 1 ∨ 3 < n % 32) := by have := mapF_iff.1 hmap; omega
        rcases zs with _ | ⟨k2, zs⟩
        · have e2 : readF [196, n] = (V0, 0, 9) := by simp [readF, hr]
          rw [e2]
          obtain rfl : m = 2 := by simpa using hm.symm
          exact three_one q (off + 1) (c - 1) n hb hmap W hnW hqW
        · have hk := hcell 2 (by simp)
          simp only [List.getElem?_cons_succ, List.getElem?_cons_zero, Option.getD_some] at hk
          have hb2 := hx.1 k2 (by simp)
          have e2 : readF (196 :: n :: k2 :: zs) = (⟨1 - n / 128, 1 - n / 64 % 2, 1 - n / 32 % 2, n % 32, k2 / 128, 15 - k2 / 8 % 16, k2 / 4 % 2, preF (k2 % 4)⟩, 3, 0) := by simp [readF, hr]
          rw [e2]
          exact three_read q (off + 1) (m - 1) (c - 1) n k2 _ _ _ _ _ _ _ _ _ (by simp at hm; omega) hb hb2 (hid ⟨rfl, rfl, rfl, rfl, rfl, rfl, rfl, rfl⟩) hmap (pre_cases (by omega)) W hnW ((hW.cell (p := ⟨q, off + 2, none⟩) hq).trans hk) hqW
  · have e : readF (z :: zs) = (V0, 0, 4) := by
      rcases zs with _ | ⟨n, _ | ⟨k2, zs⟩⟩ <;> simp [readF, h1, h2]
    rw [e]
    exact vread_else q off m c z (by simp at hm; omega) (by simpa using h1) (by simpa using h2) w hz hq
end Go.Proofs.Ytllnjmpakkodnaa
