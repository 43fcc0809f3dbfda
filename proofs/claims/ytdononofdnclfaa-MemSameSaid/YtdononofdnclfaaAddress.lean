/-
  The address of a place: the program's Address.
-/
import Derived.Test.YtdononofdnclfaaAddr
import Derived.Test.YtdononofdnclfaaMemTells
namespace Go.Proofs.Ytdononofdnclfaa
open Go.RowKit

/-- The sum, modulo 2^64, of what the base contains, the scale times what the index contains, and the displacement. -/
def addrF (p : Pl) (xs : List Int) (next : Int) : Int := wrap64 (contF p.bc p.bn xs next + p.s * contF p.ic p.ix xs next + p.d)
def addrErr (p : Pl) (n : Nat) : Int := if checkF p = 0 then (if n = 16 then 0 else 2) else checkF p
def addrOut (p : Pl) (xs : List Int) (next : Int) : Int := if checkF p = 0 ∧ xs.length = 16 then addrF p xs next else 0
theorem i64_wrap (n : Int) : wrap64 n = IntKind.i64.wrap n := (IntWalk.i64_left n).symm
theorem ints_old {W w' : World} {A : Option Addr} {xs : List Int} (h : Ints W W.heap.size A xs) (hS : Below W.heap.size W w' ∧ ∀ b o, b < W.heap.size → w'.cell? ⟨b, o, none⟩ = W.cell? ⟨b, o, none⟩) : Ints w' w'.heap.size A xs := (h.below hS.1).mono hS.1.size
theorem sum3 (x y z : Int) (g : Nat) (w : World) (hc : ∀ i, i < 3 → w.cell? ⟨g, i, none⟩ = some (.int .i64 (([x, y, z] : List Int)[i]?.getD 0))) :
    Calls Try.prog 31 #[.slice (some ⟨g, 0, none⟩) 3 3] w fun e w' => e = .returned (.int .i64 (sumF [x, y, z])) ∧ w = w' := sum_any g [x, y, z] w (by simp) hc
theorem cont_of {c n : Int} {A : Option Addr} {cap : Nat} {xs : List Int} {next v : Int} (h : contF c n xs next = v) (hn : c = 5 → 0 ≤ n ∧ n < 16) (hl : xs.length = 16) (w : World) (hI : Ints w w.heap.size A xs) :
    Calls Try.prog 32 #[.agg #[.int .i64 c, .int .i64 n], .slice A 16 cap, .int .i64 next] w fun e w' => e = .returned (.int .i64 v) ∧ Below w.heap.size w w' := by
  have := contents_any c n A cap xs next hn hl w hI
  rw [h] at this
  exact this

theorem address_not (bc bn ic ix s d z : Int) (A : Option Addr) (cap : Nat) (xs : List Int) (next : Int) (k : Int) (h : ¬ k = 0) (HS : Hid (I64 s)) (HK : Hid (checkF ⟨bc, bn, ic, ix, s, d, z⟩ = k)) (w : World) :
    Calls Try.prog 16 #[.agg #[.int .i64 bc, .int .i64 bn, .int .i64 ic, .int .i64 ix, .int .i64 s, .int .i64 d, .int .i64 z], .slice A xs.length cap, .int .i64 next] w fun e w' => e = .returned (.tuple #[.int .i64 0, .int .i64 k]) ∧ Below w.heap.size w w' := by
  go_enter Try.func16, Try.ntmps16
  go_wp2_with (go_at_call 10; refine (check_of HK.out HS.out _).mono ?_; rintro e w1 ⟨rfl, hb1⟩; obtain ⟨hc1, hf1⟩ := bcell hb1; have hz1 : w.heap.size < w1.heap.size := (by have := hb1.size; (try simp at this); omega); have k0_0 : w1.cell? ⟨w.heap.size, 0, none⟩ = some (.int .i64 bc) := (by rw [hc1 _ _ (by first | assumption | (simp; done) | (simp; omega))]; first | assumption | simp [cell_new]); have k0_1 : w1.cell? ⟨w.heap.size, 1, none⟩ = some (.int .i64 bn) := (by rw [hc1 _ _ (by first | assumption | (simp; done) | (simp; omega))]; first | assumption | simp [cell_new]); have k0_2 : w1.cell? ⟨w.heap.size, 2, none⟩ = some (.int .i64 ic) := (by rw [hc1 _ _ (by first | assumption | (simp; done) | (simp; omega))]; first | assumption | simp [cell_new]); have k0_3 : w1.cell? ⟨w.heap.size, 3, none⟩ = some (.int .i64 ix) := (by rw [hc1 _ _ (by first | assumption | (simp; done) | (simp; omega))]; first | assumption | simp [cell_new]); have k0_4 : w1.cell? ⟨w.heap.size, 4, none⟩ = some (.int .i64 s) := (by rw [hc1 _ _ (by first | assumption | (simp; done) | (simp; omega))]; first | assumption | simp [cell_new]); have k0_5 : w1.cell? ⟨w.heap.size, 5, none⟩ = some (.int .i64 d) := (by rw [hc1 _ _ (by first | assumption | (simp; done) | (simp; omega))]; first | assumption | simp [cell_new]); have k0_6 : w1.cell? ⟨w.heap.size, 6, none⟩ = some (.int .i64 z) := (by rw [hc1 _ _ (by first | assumption | (simp; done) | (simp; omega))]; first | assumption | simp [cell_new]); have f0_0 : w1.frozen? ⟨w.heap.size, 0, none⟩ = false := (by rw [hf1 _ _ (by first | assumption | (simp; done) | (simp; omega))]; first | assumption | simp); have f0_1 : w1.frozen? ⟨w.heap.size, 1, none⟩ = false := (by rw [hf1 _ _ (by first | assumption | (simp; done) | (simp; omega))]; first | assumption | simp); have f0_2 : w1.frozen? ⟨w.heap.size, 2, none⟩ = false := (by rw [hf1 _ _ (by first | assumption | (simp; done) | (simp; omega))]; first | assumption | simp); have f0_3 : w1.frozen? ⟨w.heap.size, 3, none⟩ = false := (by rw [hf1 _ _ (by first | assumption | (simp; done) | (simp; omega))]; first | assumption | simp); have f0_4 : w1.frozen? ⟨w.heap.size, 4, none⟩ = false := (by rw [hf1 _ _ (by first | assumption | (simp; done) | (simp; omega))]; first | assumption | simp); have f0_5 : w1.frozen? ⟨w.heap.size, 5, none⟩ = false := (by rw [hf1 _ _ (by first | assumption | (simp; done) | (simp; omega))]; first | assumption | simp); have f0_6 : w1.frozen? ⟨w.heap.size, 6, none⟩ = false := (by rw [hf1 _ _ (by first | assumption | (simp; done) | (simp; omega))]; first | assumption | simp); clear hc1 hf1; have HB := hid (show Below w.heap.size w w1 by first | exact HB.out.trans (hb1.mono HB.out.size) | exact hb1 | exact ((Below.refl _ _).alloc (Nat.le_refl _) _).trans (hb1.mono (by simp)) | (refine Below.trans ?_ (hb1.mono (by simp; try omega)); go_grown)); clear hb1)
  go_returns
  exact ⟨by trivial, HB.out⟩
theorem address_len (bc bn ic ix s d z : Int) (A : Option Addr) (cap : Nat) (xs : List Int) (next : Int) (h : ¬ (xs.length : Int) = 16) (HS : Hid (I64 s)) (HK : Hid (checkF ⟨bc, bn, ic, ix, s, d, z⟩ = 0)) (w : World) :
    Calls Try.prog 16 #[.agg #[.int .i64 bc, .int .i64 bn, .int .i64 ic, .int .i64 ix, .int .i64 s, .int .i64 d, .int .i64 z], .slice A xs.length cap, .int .i64 next] w fun e w' => e = .returned (.tuple #[.int .i64 0, .int .i64 2]) ∧ Below w.heap.size w w' := by
  go_enter Try.func16, Try.ntmps16
  go_wp2_with (go_at_call 10; refine (check_of HK.out HS.out _).mono ?_; rintro e w1 ⟨rfl, hb1⟩; obtain ⟨hc1, hf1⟩ := bcell hb1; have hz1 : w.heap.size < w1.heap.size := (by have := hb1.size; (try simp at this); omega); have k0_0 : w1.cell? ⟨w.heap.size, 0, none⟩ = some (.int .i64 bc) := (by rw [hc1 _ _ (by first | assumption | (simp; done) | (simp; omega))]; first | assumption | simp [cell_new]); have k0_1 : w1.cell? ⟨w.heap.size, 1, none⟩ = some (.int .i64 bn) := (by rw [hc1 _ _ (by first | assumption | (simp; done) | (simp; omega))]; first | assumption | simp [cell_new]); have k0_2 : w1.cell? ⟨w.heap.size, 2, none⟩ = some (.int .i64 ic) := (by rw [hc1 _ _ (by first | assumption | (simp; done) | (simp; omega))]; first | assumption | simp [cell_new]); have k0_3 : w1.cell? ⟨w.heap.size, 3, none⟩ = some (.int .i64 ix) := (by rw [hc1 _ _ (by first | assumption | (simp; done) | (simp; omega))]; first | assumption | simp [cell_new]); have k0_4 : w1.cell? ⟨w.heap.size, 4, none⟩ = some (.int .i64 s) := (by rw [hc1 _ _ (by first | assumption | (simp; done) | (simp; omega))]; first | assumption | simp [cell_new]); have k0_5 : w1.cell? ⟨w.heap.size, 5, none⟩ = some (.int .i64 d) := (by rw [hc1 _ _ (by first | assumption | (simp; done) | (simp; omega))]; first | assumption | simp [cell_new]); have k0_6 : w1.cell? ⟨w.heap.size, 6, none⟩ = some (.int .i64 z) := (by rw [hc1 _ _ (by first | assumption | (simp; done) | (simp; omega))]; first | assumption | simp [cell_new]); have f0_0 : w1.frozen? ⟨w.heap.size, 0, none⟩ = false := (by rw [hf1 _ _ (by first | assumption | (simp; done) | (simp; omega))]; first | assumption | simp); have f0_1 : w1.frozen? ⟨w.heap.size, 1, none⟩ = false := (by rw [hf1 _ _ (by first | assumption | (simp; done) | (simp; omega))]; first | assumption | simp); have f0_2 : w1.frozen? ⟨w.heap.size, 2, none⟩ = false := (by rw [hf1 _ _ (by first | assumption | (simp; done) | (simp; omega))]; first | assumption | simp); have f0_3 : w1.frozen? ⟨w.heap.size, 3, none⟩ = false := (by rw [hf1 _ _ (by first | assumption | (simp; done) | (simp; omega))]; first | assumption | simp); have f0_4 : w1.frozen? ⟨w.heap.size, 4, none⟩ = false := (by rw [hf1 _ _ (by first | assumption | (simp; done) | (simp; omega))]; first | assumption | simp); have f0_5 : w1.frozen? ⟨w.heap.size, 5, none⟩ = false := (by rw [hf1 _ _ (by first | assumption | (simp; done) | (simp; omega))]; first | assumption | simp); have f0_6 : w1.frozen? ⟨w.heap.size, 6, none⟩ = false := (by rw [hf1 _ _ (by first | assumption | (simp; done) | (simp; omega))]; first | assumption | simp); clear hc1 hf1; have HB := hid (show Below w.heap.size w w1 by first | exact HB.out.trans (hb1.mono HB.out.size) | exact hb1 | exact ((Below.refl _ _).alloc (Nat.le_refl _) _).trans (hb1.mono (by simp)) | (refine Below.trans ?_ (hb1.mono (by simp; try omega)); go_grown)); clear hb1)
  go_returns
  exact ⟨by trivial, HB.out⟩
set_option maxHeartbeats 2000000 in
theorem address_in (bc bn ic ix s d z : Int) (A : Option Addr) (cap : Nat) (xs : List Int) (next : Int) (hl : xs.length = 16) (HS : Hid (I64 s)) (HK : Hid (checkF ⟨bc, bn, ic, ix, s, d, z⟩ = 0)) (v : Bool) (HC : Hid (scaleF s = v)) (HNB : Hid (bc = 5 → 0 ≤ bn ∧ bn < 16)) (HNI : Hid (ic = 5 → 0 ≤ ix ∧ ix < 16)) (w : World) (hI : Ints w w.heap.size A xs) :
    Calls Try.prog 16 #[.agg #[.int .i64 bc, .int .i64 bn, .int .i64 ic, .int .i64 ix, .int .i64 s, .int .i64 d, .int .i64 z], .slice A 16 cap, .int .i64 next] w fun e w' => e = .returned (.tuple #[.int .i64 (sumF [contF bc bn xs next, wrap64 (contF ic ix xs next * 2 ^ (shiftF s).toNat), d]), .int .i64 0]) ∧ Below w.heap.size w w' := by
  obtain ⟨x, hx⟩ : ∃ x, contF bc bn xs next = x := ⟨_, rfl⟩
  obtain ⟨y, hy⟩ : ∃ x, contF ic ix xs next = x := ⟨_, rfl⟩
  obtain ⟨q, hq⟩ : ∃ q, shiftF s = q := ⟨_, rfl⟩
  have hq0 : 0 ≤ q ∧ q ≤ 3 := by rw [← hq]; unfold shiftF; (repeat' split) <;> omega
  have HSC : ∀ w, Calls Try.prog 30 #[.int .i64 s] w fun e w' => e = .returned (.tuple #[.int .i64 q, .bool v]) ∧ Below w.heap.size w w' := fun w => by rw [← hq]; exact scaled_of HC.out HS.out w
  rw [hx, hy, hq]
  have HX := hid hx
  have HY := hid hy
  have HI := hid hI
  have HL := hid hl
  have HSC := hid HSC
  clear hx hy hI hl hq
  obtain ⟨hq1, hq2⟩ := hq0
  go_enter Try.func16, Try.ntmps16
  go_wp2_with (first | (go_at_call 10; refine (check_of HK.out HS.out _).mono ?_; rintro e w1 ⟨rfl, hb1⟩; obtain ⟨hc1, hf1⟩ := bcell hb1; have hz1 : w.heap.size < w1.heap.size := (by have := hb1.size; (try simp at this); omega); have k0_0 : w1.cell? ⟨w.heap.size, 0, none⟩ = some (.int .i64 bc) := (by rw [hc1 _ _ (by first | assumption | (simp; done) | (simp; omega))]; first | assumption | simp [cell_new]); have k0_1 : w1.cell? ⟨w.heap.size, 1, none⟩ = some (.int .i64 bn) := (by rw [hc1 _ _ (by first | assumption | (simp; done) | (simp; omega))]; first | assumption | simp [cell_new]); have k0_2 : w1.cell? ⟨w.heap.size, 2, none⟩ = some (.int .i64 ic) := (by rw [hc1 _ _ (by first | assumption | (simp; done) | (simp; omega))]; first | assumption | simp [cell_new]); have k0_3 : w1.cell? ⟨w.heap.size, 3, none⟩ = some (.int .i64 ix) := (by rw [hc1 _ _ (by first | assumption | (simp; done) | (simp; omega))]; first | assumption | simp [cell_new]); have k0_4 : w1.cell? ⟨w.heap.size, 4, none⟩ = some (.int .i64 s) := (by rw [hc1 _ _ (by first | assumption | (simp; done) | (simp; omega))]; first | assumption | simp [cell_new]); have k0_5 : w1.cell? ⟨w.heap.size, 5, none⟩ = some (.int .i64 d) := (by rw [hc1 _ _ (by first | assumption | (simp; done) | (simp; omega))]; first | assumption | simp [cell_new]); have k0_6 : w1.cell? ⟨w.heap.size, 6, none⟩ = some (.int .i64 z) := (by rw [hc1 _ _ (by first | assumption | (simp; done) | (simp; omega))]; first | assumption | simp [cell_new]); have f0_0 : w1.frozen? ⟨w.heap.size, 0, none⟩ = false := (by rw [hf1 _ _ (by first | assumption | (simp; done) | (simp; omega))]; first | assumption | simp); have f0_1 : w1.frozen? ⟨w.heap.size, 1, none⟩ = false := (by rw [hf1 _ _ (by first | assumption | (simp; done) | (simp; omega))]; first | assumption | simp); have f0_2 : w1.frozen? ⟨w.heap.size, 2, none⟩ = false := (by rw [hf1 _ _ (by first | assumption | (simp; done) | (simp; omega))]; first | assumption | simp); have f0_3 : w1.frozen? ⟨w.heap.size, 3, none⟩ = false := (by rw [hf1 _ _ (by first | assumption | (simp; done) | (simp; omega))]; first | assumption | simp); have f0_4 : w1.frozen? ⟨w.heap.size, 4, none⟩ = false := (by rw [hf1 _ _ (by first | assumption | (simp; done) | (simp; omega))]; first | assumption | simp); have f0_5 : w1.frozen? ⟨w.heap.size, 5, none⟩ = false := (by rw [hf1 _ _ (by first | assumption | (simp; done) | (simp; omega))]; first | assumption | simp); have f0_6 : w1.frozen? ⟨w.heap.size, 6, none⟩ = false := (by rw [hf1 _ _ (by first | assumption | (simp; done) | (simp; omega))]; first | assumption | simp); clear hc1 hf1; have HB := hid (show Below w.heap.size w w1 by first | exact HB.out.trans (hb1.mono HB.out.size) | exact hb1 | exact ((Below.refl _ _).alloc (Nat.le_refl _) _).trans (hb1.mono (by simp)) | (refine Below.trans ?_ (hb1.mono (by simp; try omega)); go_grown)); clear hb1) | (go_at_call 30; refine (HSC.out _).mono ?_; rintro e w1 ⟨rfl, hb1⟩; obtain ⟨hc1, hf1⟩ := bcell hb1; have hz1 : w.heap.size < w1.heap.size := (by have := hb1.size; (try simp at this); omega); have k0_0 : w1.cell? ⟨w.heap.size, 0, none⟩ = some (.int .i64 bc) := (by rw [hc1 _ _ (by first | assumption | (simp; done) | (simp; omega))]; first | assumption | simp [cell_new]); have k0_1 : w1.cell? ⟨w.heap.size, 1, none⟩ = some (.int .i64 bn) := (by rw [hc1 _ _ (by first | assumption | (simp; done) | (simp; omega))]; first | assumption | simp [cell_new]); have k0_2 : w1.cell? ⟨w.heap.size, 2, none⟩ = some (.int .i64 ic) := (by rw [hc1 _ _ (by first | assumption | (simp; done) | (simp; omega))]; first | assumption | simp [cell_new]); have k0_3 : w1.cell? ⟨w.heap.size, 3, none⟩ = some (.int .i64 ix) := (by rw [hc1 _ _ (by first | assumption | (simp; done) | (simp; omega))]; first | assumption | simp [cell_new]); have k0_4 : w1.cell? ⟨w.heap.size, 4, none⟩ = some (.int .i64 s) := (by rw [hc1 _ _ (by first | assumption | (simp; done) | (simp; omega))]; first | assumption | simp [cell_new]); have k0_5 : w1.cell? ⟨w.heap.size, 5, none⟩ = some (.int .i64 d) := (by rw [hc1 _ _ (by first | assumption | (simp; done) | (simp; omega))]; first | assumption | simp [cell_new]); have k0_6 : w1.cell? ⟨w.heap.size, 6, none⟩ = some (.int .i64 z) := (by rw [hc1 _ _ (by first | assumption | (simp; done) | (simp; omega))]; first | assumption | simp [cell_new]); have f0_0 : w1.frozen? ⟨w.heap.size, 0, none⟩ = false := (by rw [hf1 _ _ (by first | assumption | (simp; done) | (simp; omega))]; first | assumption | simp); have f0_1 : w1.frozen? ⟨w.heap.size, 1, none⟩ = false := (by rw [hf1 _ _ (by first | assumption | (simp; done) | (simp; omega))]; first | assumption | simp); have f0_2 : w1.frozen? ⟨w.heap.size, 2, none⟩ = false := (by rw [hf1 _ _ (by first | assumption | (simp; done) | (simp; omega))]; first | assumption | simp); have f0_3 : w1.frozen? ⟨w.heap.size, 3, none⟩ = false := (by rw [hf1 _ _ (by first | assumption | (simp; done) | (simp; omega))]; first | assumption | simp); have f0_4 : w1.frozen? ⟨w.heap.size, 4, none⟩ = false := (by rw [hf1 _ _ (by first | assumption | (simp; done) | (simp; omega))]; first | assumption | simp); have f0_5 : w1.frozen? ⟨w.heap.size, 5, none⟩ = false := (by rw [hf1 _ _ (by first | assumption | (simp; done) | (simp; omega))]; first | assumption | simp); have f0_6 : w1.frozen? ⟨w.heap.size, 6, none⟩ = false := (by rw [hf1 _ _ (by first | assumption | (simp; done) | (simp; omega))]; first | assumption | simp); clear hc1 hf1; have HB := hid (show Below w.heap.size w w1 by first | exact HB.out.trans (hb1.mono HB.out.size) | exact hb1 | exact ((Below.refl _ _).alloc (Nat.le_refl _) _).trans (hb1.mono (by simp)) | (refine Below.trans ?_ (hb1.mono (by simp; try omega)); go_grown)); clear hb1))
  have HIW := hid ((HI.out.below HB.out).mono HB.out.size)
  have hS := Old.of (Below.refl w1.heap.size w1)
  have HB0 := hid HB.out
  clear HI HB
  go_region_held3 (fun w' => Below w1.heap.size w1 w' ∧ ∀ b o, b < w1.heap.size → w'.cell? ⟨b, o, none⟩ = w1.cell? ⟨b, o, none⟩) (first | assumption | exact old_drew ‹_› | (refine old_kept ?_ (by first | assumption | exact (Below.refl _ _).alloc (Nat.le_refl _) _); assumption)) (first | (go_at_call 32; with_reducible refine (cont_of (c := bc) (n := bn) HX.out HNB.out HL.out _ (ints_old HIW.out (by assumption))).mono ?_; rintro e w2 ⟨rfl, hbel⟩) | (go_at_call 32; with_reducible refine (cont_of (c := ic) (n := ix) HY.out HNI.out HL.out _ (ints_old HIW.out (by assumption))).mono ?_; rintro e w2 ⟨rfl, hbel⟩) | (go_at_call 31; refine (sum3 x (IntKind.i64.wrap (y * 2 ^ q.toNat)) d _ _ ?_).mono ?_; (intro i hi; have : i = 0 ∨ i = 1 ∨ i = 2 := (by omega); rcases this with rfl | rfl | rfl <;> simp [cell_new]); rintro e w2 ⟨rfl, rfl⟩))
  have hk := (‹Below w1.heap.size w1 (w2.alloc _) ∧ _›).1
  go_wp2
  go_returns
  refine ⟨?_, HB0.out.trans (hk.mono HB0.out.size)⟩
  show Ending.returned (.tuple #[.int .i64 (sumF [x, IntKind.i64.wrap (y * 2 ^ q.toNat), d]), .int .i64 0]) = _
  rw [← i64_wrap]
theorem base_in {p : Pl} (h : checkF p = 0) : p.bc = 5 → 0 ≤ p.bn ∧ p.bn < 16 := by
  intro h5
  have := (ok_parts h).2.2.1
  simp [basedF, noneF, wideF, h5] at this
  exact this
theorem index_in {p : Pl} (h : checkF p = 0) : p.ic = 5 → 0 ≤ p.ix ∧ p.ix < 16 := by
  intro h5
  have := (ok_parts h).2.2.2
  unfold indexedF at this
  split at this
  · rename_i h1; simp [noneF, h5] at h1
  · split at this
    · cases this
    · rename_i h2; simp [wideF] at h2; exact h2.1.2.2
/-- Of a place that may be: its scale is one that there is; or it has no index, and no scale. -/
theorem scale_in {p : Pl} (h : checkF p = 0) : (p.s = 0 ∧ p.ic = 0 ∧ p.ix = 0) ∨ p.s = 1 ∨ p.s = 2 ∨ p.s = 4 ∨ p.s = 8 := by
  have := (ok_parts h).2.2.2
  unfold indexedF at this
  split at this
  · rename_i h1; simp [noneF] at h1; simp at this; exact .inl ⟨this, h1⟩
  · split at this
    · cases this
    · rename_i h2; simp [scaleF] at h2; omega
theorem addr_sum {p : Pl} (h : checkF p = 0) (xs : List Int) (next : Int) : sumF [contF p.bc p.bn xs next, wrap64 (contF p.ic p.ix xs next * 2 ^ (shiftF p.s).toNat), p.d] = addrF p xs next := by
  unfold addrF
  generalize contF p.bc p.bn xs next = x
  show wrap64 (wrap64 (wrap64 (0 + x) + _) + p.d) = _
  rcases scale_in h with ⟨h0, h1, h2⟩ | h1 | h1 | h1 | h1
  · rw [h0, h1, h2, show contF 0 0 xs next = 0 from rfl]
    unfold wrap64
    omega
  · rw [h1, show (2 : Int) ^ (shiftF 1).toNat = 1 from rfl]
    unfold wrap64
    omega
  · rw [h1, show (2 : Int) ^ (shiftF 2).toNat = 2 from rfl]
    unfold wrap64
    omega
  · rw [h1, show (2 : Int) ^ (shiftF 4).toNat = 4 from rfl]
    unfold wrap64
    omega
  · rw [h1, show (2 : Int) ^ (shiftF 8).toNat = 8 from rfl]
    unfold wrap64
    omega
theorem address_any (bc bn ic ix s d z : Int) (A : Option Addr) (cap : Nat) (xs : List Int) (next : Int) (hs : I64 s) (w : World) (hI : Ints w w.heap.size A xs) :
    Calls Try.prog 16 #[.agg #[.int .i64 bc, .int .i64 bn, .int .i64 ic, .int .i64 ix, .int .i64 s, .int .i64 d, .int .i64 z], .slice A xs.length cap, .int .i64 next] w fun e w' => e = .returned (.tuple #[.int .i64 (addrOut ⟨bc, bn, ic, ix, s, d, z⟩ xs next), .int .i64 (addrErr ⟨bc, bn, ic, ix, s, d, z⟩ xs.length)]) ∧ Below w.heap.size w w' := by
  obtain ⟨k, hk⟩ : ∃ k, checkF ⟨bc, bn, ic, ix, s, d, z⟩ = k := ⟨_, rfl⟩
  by_cases h0 : k = 0
  · subst h0
    by_cases hl : xs.length = 16
    · rw [show addrOut ⟨bc, bn, ic, ix, s, d, z⟩ xs next = _ from (if_pos ⟨hk, hl⟩).trans (addr_sum hk xs next).symm, show addrErr ⟨bc, bn, ic, ix, s, d, z⟩ xs.length = 0 by unfold addrErr; rw [if_pos hk, if_pos hl]]
      rw [hl]
      exact address_in _ _ _ _ _ _ _ A cap xs next hl (hid hs) (hid hk) _ (hid rfl) (hid (base_in hk)) (hid (index_in hk)) w hI
    · rw [show addrOut ⟨bc, bn, ic, ix, s, d, z⟩ xs next = 0 from if_neg (fun h => hl h.2), show addrErr ⟨bc, bn, ic, ix, s, d, z⟩ xs.length = 2 by unfold addrErr; rw [if_pos hk, if_neg hl]]
      exact address_len _ _ _ _ _ _ _ A cap xs next (by omega) (hid hs) (hid hk) w
  · rw [show addrOut ⟨bc, bn, ic, ix, s, d, z⟩ xs next = 0 from if_neg (fun h => h0 (hk.symm.trans h.1)), show addrErr ⟨bc, bn, ic, ix, s, d, z⟩ xs.length = k by unfold addrErr; rw [if_neg (by rw [hk]; exact h0), hk]]
    exact address_not _ _ _ _ _ _ _ A cap xs next k h0 (hid hs) (hid hk) w
end Go.Proofs.Ytdononofdnclfaa
