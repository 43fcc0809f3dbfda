/-
  What the statements on operands share: eax, imm, awake; and the chapter's examples.
-/
import Derived.Test.YtnchamgnllnflaaArgSame
import Derived.Test.YtnchamgnllnflaaImm2
import Derived.Test.YtnchamgnllnflaaOld
namespace Go.Proofs.Ytnchamgnllnflaa
open Go.RowKit

theorem eax_any (n : Int) (w : World) :
    Calls Try.prog 19 #[.int .i64 n] w fun e w' => e = .returned (.agg #[.int .i64 1, .int .i64 4, .int .i64 0, .int .i64 0, .int .i64 0, .int .i64 0, .int .i64 0, .int .i64 0, .int .i64 0, .int .i64 0, .int .i64 n]) ∧ Below w.heap.size w w' := by
  go_enter Try.func19, Try.ntmps19
  go_wp2_with (with_reducible change bodyPost _ _ _ Exit.ret _ _; refine bodyPost_ret (v := .agg #[.int .i64 1, .int .i64 4, .int .i64 0, .int .i64 0, .int .i64 0, .int .i64 0, .int .i64 0, .int .i64 0, .int .i64 0, .int .i64 0, .int .i64 n]) (by simp [results, Try.results19, go_sem]) rfl ⟨rfl, ?_⟩; go_grown)
theorem limm_any {n b want er v e' : Int} {s : Bool} (HN : Hid (I64 n)) (HV : Hid (immV n b s = v)) (HE : Hid (immE n b = e')) (w : World) :
    Calls Try.prog 20 #[.int .i64 n, .int .i64 b, .bool s, .int .i64 want, .int .i64 er] w fun e w' => e = .returned (.bool (v == want && e' == er)) ∧ Below w.heap.size w w' := by
  go_enter Try.func20, Try.ntmps20
  go_wp2_with (go_at_call 17; refine (imm_of HN.out HV.out HE.out _).mono ?_; rintro e w1 ⟨rfl, hb1⟩)
  all_goals
    go_returns
    exact ⟨by simp_all, hb1⟩
theorem limm_of {n b want er : Int} {s v : Bool} (hn : I64 n) (h : (immV n b s == want && immE n b == er) = v) (w : World) :
    Calls Try.prog 20 #[.int .i64 n, .int .i64 b, .bool s, .int .i64 want, .int .i64 er] w fun e w' => e = .returned (.bool v) ∧ Below w.heap.size w w' := by
  have := limm_any (n := n) (b := b) (want := want) (er := er) (s := s) (hid hn) (hid rfl) (hid rfl) w
  rw [h] at this
  exact this
set_option maxHeartbeats 1000000 in
theorem awake_any (w : World) : Calls Try.prog 16 #[] w fun e w' => e = .returned (.bool true) ∧ Below w.heap.size w w' := by
  go_enter Try.func16, Try.ntmps16
  go_wp2_with fail
  refine (eax_any _ _).mono ?_
  rintro e w1 ⟨rfl, hb1⟩
  go_wp2_with fail
  refine (acanon_at (x0 := 1) (x1 := 4) (x2 := 0) (x3 := 0) (x4 := 0) (x5 := 0) (x6 := 0) (x7 := 0) (x8 := 0) (x9 := 0) (x10 := 0) (e' := 0) rfl rfl (by unfold I64; omega) _).mono ?_
  rintro e w2 ⟨rfl, hb2⟩
  have HO := hid (((Own.nil w).call hb1).call hb2)
  clear hb1 hb2
  go_wp2_with fail
  have HO := hid (HO.out.alloc w2.heap.size #[.int .i64 1, .int .i64 4, .int .i64 0, .int .i64 0, .int .i64 0, .int .i64 0, .int .i64 0, .int .i64 0, .int .i64 0, .int .i64 0, .int .i64 0] 27 rfl)
  generalize w2.alloc (.cells #[.int .i64 1, .int .i64 4, .int .i64 0, .int .i64 0, .int .i64 0, .int .i64 0, .int .i64 0, .int .i64 0, .int .i64 0, .int .i64 0, .int .i64 0] 27) = W at *
  have c0 := HO.out.c
  have z0 := HO.out.z
  have hS := Old.of (Below.refl W.heap.size W)
  go_region_held3 (fun w' => Below W.heap.size W w' ∧ ∀ b o, b < W.heap.size → w'.cell? ⟨b, o, none⟩ = W.cell? ⟨b, o, none⟩) (first | assumption | exact old_drew ‹_› | (refine old_kept ?_ (by assumption); assumption)) (first | (go_at_call 19; with_reducible refine (eax_any _ _).mono ?_; rintro e w9 ⟨rfl, hbel⟩) | (go_at_call 20; with_reducible refine (limm_of (n := 255) (b := 8) (want := -1) (er := 0) (s := true) (v := true) (by unfold I64; omega) (by decide +kernel) _).mono ?_; rintro e w9 ⟨rfl, hbel⟩) | (go_at_call 20; with_reducible refine (limm_of (n := -1) (b := 8) (want := 255) (er := 0) (s := false) (v := true) (by unfold I64; omega) (by decide +kernel) _).mono ?_; rintro e w9 ⟨rfl, hbel⟩) | (go_at_call 20; with_reducible refine (limm_of (n := 256) (b := 8) (want := 0) (er := 5) (s := false) (v := true) (by unfold I64; omega) (by decide +kernel) _).mono ?_; rintro e w9 ⟨rfl, hbel⟩))
  have hk := (‹Below W.heap.size W w9 ∧ _›).1
  go_wp2
  go_ret
  exact ⟨rfl, HO.out.below.trans (hk.mono HO.out.below.size)⟩
set_option maxHeartbeats 2000000 in
theorem known_law (w : World) : Calls Try.prog 5 #[] w fun e w' => e = .returned (.bool true) ∧ Below w.heap.size w w' := by
  go_enter Try.func5, Try.ntmps5
  go_wp2_with fail
  have HW := hid ((Own.nil w).alloc w.heap.size #[.int .i64 2, .int .i64 0, .int .i64 0, .int .i64 5, .int .i64 0, .int .i64 0, .int .i64 0, .int .i64 0, .int .i64 0, .int .i64 4, .int .i64 0] 27 rfl)
  generalize w.alloc (.cells #[.int .i64 2, .int .i64 0, .int .i64 0, .int .i64 5, .int .i64 0, .int .i64 0, .int .i64 0, .int .i64 0, .int .i64 0, .int .i64 4, .int .i64 0] 27) = W at *
  have c0 := HW.out.c
  have z0 := HW.out.z
  have HO : Old W W := Old.refl W
  go_wp2_with (first | (go_at_call 19; with_reducible refine (eax_any _ _).mono ?_; rintro e w1 ⟨rfl, hb1⟩; have HO : Old W w1 := HO.kept hb1; have hc1 := HO.cells; clear hb1) | (go_at_call 10; with_reducible refine (acheck_of (k := 1) (rc := 4) (rn := 0) (bc := 0) (bn := 0) (ic := 0) (ix := 0) (s := 0) (d := 0) (z := 0) (n := 0) (e' := 0) rfl (by unfold I64; omega) _).mono ?_; rintro e w1 ⟨rfl, hb1⟩; have HO : Old W w1 := HO.kept hb1; have hc1 := HO.cells; clear hb1) | (go_at_call 10; with_reducible refine (acheck_of (k := 1) (rc := 8) (rn := 0) (bc := 0) (bn := 0) (ic := 0) (ix := 0) (s := 0) (d := 0) (z := 0) (n := 0) (e' := 2) rfl (by unfold I64; omega) _).mono ?_; rintro e w1 ⟨rfl, hb1⟩; have HO : Old W w1 := HO.kept hb1; have hc1 := HO.cells; clear hb1) | (go_at_call 10; with_reducible refine (acheck_of (k := 5) (rc := 0) (rn := 0) (bc := 0) (bn := 0) (ic := 0) (ix := 0) (s := 0) (d := 0) (z := 0) (n := 0) (e' := 2) rfl (by unfold I64; omega) _).mono ?_; rintro e w1 ⟨rfl, hb1⟩; have HO : Old W w1 := HO.kept hb1; have hc1 := HO.cells; clear hb1) | (go_at_call 10; with_reducible refine (acheck_of (k := 4) (rc := 0) (rn := 0) (bc := 0) (bn := 0) (ic := 0) (ix := 0) (s := 0) (d := 0) (z := 0) (n := 2147483648) (e' := 5) rfl (by unfold I64; omega) _).mono ?_; rintro e w1 ⟨rfl, hb1⟩; have HO : Old W w1 := HO.kept hb1; have hc1 := HO.cells; clear hb1) | (go_at_call 12; with_reducible refine (asize_of (k := 2) (rc := 0) (rn := 0) (bc := 5) (bn := 0) (ic := 0) (ix := 0) (s := 0) (d := 0) (z := 4) (n := 0) (v := 4) rfl (by unfold I64; omega) _).mono ?_; rintro e w1 ⟨rfl, hb1⟩; have HO : Old W w1 := HO.kept hb1; have hc1 := HO.cells; clear hb1) | (go_at_call 12; with_reducible refine (asize_of (k := 3) (rc := 0) (rn := 0) (bc := 0) (bn := 0) (ic := 0) (ix := 0) (s := 0) (d := 0) (z := 0) (n := 5) (v := 0) rfl (by unfold I64; omega) _).mono ?_; rintro e w1 ⟨rfl, hb1⟩; have HO : Old W w1 := HO.kept hb1; have hc1 := HO.cells; clear hb1) | (go_at_call 20; with_reducible refine (limm_of (n := -129) (b := 8) (want := 0) (er := 5) (s := true) (v := true) (by unfold I64; omega) (by decide +kernel) _).mono ?_; rintro e w1 ⟨rfl, hb1⟩; have HO : Old W w1 := HO.kept hb1; have hc1 := HO.cells; clear hb1) | (go_at_call 20; with_reducible refine (limm_of (n := 5) (b := 7) (want := 0) (er := 2) (s := false) (v := true) (by unfold I64; omega) (by decide +kernel) _).mono ?_; rintro e w1 ⟨rfl, hb1⟩; have HO : Old W w1 := HO.kept hb1; have hc1 := HO.cells; clear hb1) | (go_at_call 16; with_reducible refine (awake_any _).mono ?_; rintro e w1 ⟨rfl, hb1⟩; have HO : Old W w1 := HO.kept hb1; have hc1 := HO.cells; clear hb1))
  go_returns
  exact ⟨by trivial, HW.out.below.trans (HO.below.mono HW.out.below.size)⟩
end Go.Proofs.Ytnchamgnllnflaa
