/-
  The walk of OperandCanon.
-/
import Derived.Test.YtnchamgnllnflaaArgFacts
import Derived.Test.YtnchamgnllnflaaArgLaw
namespace Go.Proofs.Ytnchamgnllnflaa
open Go.RowKit

set_option maxHeartbeats 2000000 in
theorem canon_law_not (k rc rn bc bn ic ix s d z n k' rc' rn' bc' bn' ic' ix' s' d' z' n' e' : Int) (w : World) (h0 : ¬ e' = 0) (HS : Hid (I64 s)) (HX : Hid (aoutF ⟨k, rc, rn, ⟨bc, bn, ic, ix, s, d, z⟩, n⟩ = ⟨0, 0, 0, ⟨0, 0, 0, 0, 0, 0, 0⟩, 0⟩)) (HK : Hid (argF ⟨k, rc, rn, ⟨bc, bn, ic, ix, s, d, z⟩, n⟩ = e')) (HZ : Hid (asizeF ⟨k, rc, rn, ⟨bc, bn, ic, ix, s, d, z⟩, n⟩ = 0)) (HV : Hid (asameF ⟨k, rc, rn, ⟨bc, bn, ic, ix, s, d, z⟩, n⟩ ⟨k, rc, rn, ⟨bc, bn, ic, ix, s, d, z⟩, n⟩ = false)) :
    Calls Try.prog 6 #[.agg #[.int .i64 k, .int .i64 rc, .int .i64 rn, .int .i64 bc, .int .i64 bn, .int .i64 ic, .int .i64 ix, .int .i64 s, .int .i64 d, .int .i64 z, .int .i64 n], .agg #[.int .i64 k', .int .i64 rc', .int .i64 rn', .int .i64 bc', .int .i64 bn', .int .i64 ic', .int .i64 ix', .int .i64 s', .int .i64 d', .int .i64 z', .int .i64 n']] w fun e w' => e = .returned (.bool true) ∧ Below w.heap.size w w' := by
  go_enter Try.func6, Try.ntmps6
  go_wp2_with fail
  refine (known_law _).mono ?_
  rintro e w1 ⟨rfl, hb1⟩
  have HW := hid ((((Own.nil w).alloc w.heap.size #[.int .i64 k, .int .i64 rc, .int .i64 rn, .int .i64 bc, .int .i64 bn, .int .i64 ic, .int .i64 ix, .int .i64 s, .int .i64 d, .int .i64 z, .int .i64 n] 27 rfl).alloc (w.heap.size + 1) #[.int .i64 k', .int .i64 rc', .int .i64 rn', .int .i64 bc', .int .i64 bn', .int .i64 ic', .int .i64 ix', .int .i64 s', .int .i64 d', .int .i64 z', .int .i64 n'] 27 (by simp)).call hb1)
  clear hb1
  have c1 := HW.out.tl.c
  have z1 := HW.out.tl.z
  go_wp2_with fail
  refine (acanon_at HX.out HK.out HS.out _).mono ?_
  rintro e w2 ⟨rfl, hb1⟩
  have HW := hid (HW.out.call hb1)
  clear hb1 c1 z1
  have c1 := HW.out.tl.c
  have z1 := HW.out.tl.z
  have a1 := HW.out.tl.a
  go_wp2_with fail
  refine (acheck_of HK.out HS.out _).mono ?_
  rintro e w3 ⟨rfl, hb1⟩
  have HW := hid ((HW.out.alloc w2.heap.size #[.int .i64 0, .int .i64 0, .int .i64 0, .int .i64 0, .int .i64 0, .int .i64 0, .int .i64 0, .int .i64 0, .int .i64 0, .int .i64 0, .int .i64 0] 27 rfl).call hb1)
  clear hb1 c1 z1 a1
  have c0 := HW.out.c
  have z0 := HW.out.z
  have a0 := HW.out.a
  have c1 := HW.out.tl.c
  have z1 := HW.out.tl.z
  have a1 := HW.out.tl.a
  have c2 := HW.out.tl.tl.c
  have z2 := HW.out.tl.tl.z
  have a2 := HW.out.tl.tl.a
  have HO : Old w3 w3 := Old.refl w3
  go_wp2_with (first | (go_at_call 12; with_reducible refine (asize_of HZ.out HS.out _).mono ?_; rintro e w9 ⟨rfl, hb1⟩; have HO : Old w3 w9 := HO.kept hb1; have hc1 := HO.cells; clear hb1) | (go_at_call 14; with_reducible refine (asame_of HV.out HS.out HS.out _).mono ?_; rintro e w9 ⟨rfl, hb1⟩; have HO : Old w3 w9 := HO.kept hb1; have hc1 := HO.cells; clear hb1))
  go_returns
  exact ⟨by trivial, HW.out.below.trans (HO.below.mono HW.out.below.size)⟩
set_option maxHeartbeats 4000000 in
theorem canon_law_reg (rc rn bc bn ic ix s d z n k' rc' rn' bc' bn' ic' ix' s' d' z' n' : Int) (w : World) (HS : Hid (I64 s)) (HS2 : Hid (I64 0)) (HS3 : Hid (I64 s')) (HX : Hid (aoutF ⟨1, rc, rn, ⟨bc, bn, ic, ix, s, d, z⟩, n⟩ = ⟨1, rc, rn, ⟨0, 0, 0, 0, 0, 0, 0⟩, 0⟩)) (HK : Hid (argF ⟨1, rc, rn, ⟨bc, bn, ic, ix, s, d, z⟩, n⟩ = 0)) (HX2 : Hid (aoutF ⟨1, rc, rn, ⟨0, 0, 0, 0, 0, 0, 0⟩, 0⟩ = ⟨1, rc, rn, ⟨0, 0, 0, 0, 0, 0, 0⟩, 0⟩)) (HK2 : Hid (argF ⟨1, rc, rn, ⟨0, 0, 0, 0, 0, 0, 0⟩, 0⟩ = 0)) (y : Int) (HZ : Hid (asizeF ⟨1, rc, rn, ⟨bc, bn, ic, ix, s, d, z⟩, n⟩ = y)) (HZ2 : Hid (asizeF ⟨1, rc, rn, ⟨0, 0, 0, 0, 0, 0, 0⟩, 0⟩ = y)) (HZ3 : Hid (asizeF ⟨1, rc, rn, ⟨bc', bn', ic', ix', s', d', z'⟩, n'⟩ = y)) (HV : Hid (asameF ⟨1, rc, rn, ⟨bc, bn, ic, ix, s, d, z⟩, n⟩ ⟨1, rc, rn, ⟨0, 0, 0, 0, 0, 0, 0⟩, 0⟩ = true)) (HV2 : Hid (asameF ⟨1, rc, rn, ⟨bc, bn, ic, ix, s, d, z⟩, n⟩ ⟨1, rc, rn, ⟨bc', bn', ic', ix', s', d', z'⟩, n'⟩ = true)) :
    Calls Try.prog 6 #[.agg #[.int .i64 1, .int .i64 rc, .int .i64 rn, .int .i64 bc, .int .i64 bn, .int .i64 ic, .int .i64 ix, .int .i64 s, .int .i64 d, .int .i64 z, .int .i64 n], .agg #[.int .i64 k', .int .i64 rc', .int .i64 rn', .int .i64 bc', .int .i64 bn', .int .i64 ic', .int .i64 ix', .int .i64 s', .int .i64 d', .int .i64 z', .int .i64 n']] w fun e w' => e = .returned (.bool true) ∧ Below w.heap.size w w' := by
  go_enter Try.func6, Try.ntmps6
  go_wp2_with fail
  refine (known_law _).mono ?_
  rintro e w1 ⟨rfl, hb1⟩
  have HW := hid ((((Own.nil w).alloc w.heap.size #[.int .i64 1, .int .i64 rc, .int .i64 rn, .int .i64 bc, .int .i64 bn, .int .i64 ic, .int .i64 ix, .int .i64 s, .int .i64 d, .int .i64 z, .int .i64 n] 27 rfl).alloc (w.heap.size + 1) #[.int .i64 k', .int .i64 rc', .int .i64 rn', .int .i64 bc', .int .i64 bn', .int .i64 ic', .int .i64 ix', .int .i64 s', .int .i64 d', .int .i64 z', .int .i64 n'] 27 (by simp)).call hb1)
  clear hb1
  have c1 := HW.out.tl.c
  have z1 := HW.out.tl.z
  go_wp2_with fail
  refine (acanon_at HX.out HK.out HS.out _).mono ?_
  rintro e w2 ⟨rfl, hb1⟩
  have HW := hid (HW.out.call hb1)
  clear hb1 c1 z1
  have c1 := HW.out.tl.c
  have z1 := HW.out.tl.z
  have a1 := HW.out.tl.a
  go_wp2_with fail
  refine (acheck_of HK.out HS.out _).mono ?_
  rintro e w3 ⟨rfl, hb1⟩
  have HW := hid ((HW.out.alloc w2.heap.size #[.int .i64 1, .int .i64 rc, .int .i64 rn, .int .i64 0, .int .i64 0, .int .i64 0, .int .i64 0, .int .i64 0, .int .i64 0, .int .i64 0, .int .i64 0] 27 rfl).call hb1)
  clear hb1 c1 z1 a1
  have c0 := HW.out.c
  have z0 := HW.out.z
  have a0 := HW.out.a
  have c1 := HW.out.tl.c
  have z1 := HW.out.tl.z
  have a1 := HW.out.tl.a
  have c2 := HW.out.tl.tl.c
  have z2 := HW.out.tl.tl.z
  have a2 := HW.out.tl.tl.a
  go_wp2_with fail
  refine (acanon_at HX2.out HK2.out HS2.out _).mono ?_
  rintro e w4 ⟨rfl, hb1⟩
  have HW := hid (HW.out.call hb1)
  clear hb1 c0 z0 a0 c1 z1 a1 c2 z2 a2
  have c0 := HW.out.c
  have z0 := HW.out.z
  have a0 := HW.out.a
  have c1 := HW.out.tl.c
  have z1 := HW.out.tl.z
  have a1 := HW.out.tl.a
  have c2 := HW.out.tl.tl.c
  have z2 := HW.out.tl.tl.z
  have a2 := HW.out.tl.tl.a
  have HW := hid (HW.out.alloc w4.heap.size #[.int .i64 1, .int .i64 rc, .int .i64 rn, .int .i64 0, .int .i64 0, .int .i64 0, .int .i64 0, .int .i64 0, .int .i64 0, .int .i64 0, .int .i64 0] 27 rfl)
  have d0 := HW.out.tl.a
  have d1 := HW.out.tl.tl.a
  have d2 := HW.out.tl.tl.tl.a
  go_wp2_with fail
  have HW := hid (HW.out.alloc (w4.heap.size + 1) #[.int .i64 1, .int .i64 rc, .int .i64 rn, .int .i64 bc', .int .i64 bn', .int .i64 ic', .int .i64 ix', .int .i64 s', .int .i64 d', .int .i64 z', .int .i64 n'] 27 (by simp))
  generalize (w4.alloc (.cells #[.int .i64 1, .int .i64 rc, .int .i64 rn, .int .i64 0, .int .i64 0, .int .i64 0, .int .i64 0, .int .i64 0, .int .i64 0, .int .i64 0, .int .i64 0] 27)).alloc (.cells #[.int .i64 1, .int .i64 rc, .int .i64 rn, .int .i64 bc', .int .i64 bn', .int .i64 ic', .int .i64 ix', .int .i64 s', .int .i64 d', .int .i64 z', .int .i64 n'] 27) = W at *
  clear d0 d1 d2 c0 z0 a0 c1 z1 a1 c2 z2 a2
  have c0 := HW.out.c
  have z0 := HW.out.z
  have c1 := HW.out.tl.c
  have z1 := HW.out.tl.z
  have c2 := HW.out.tl.tl.c
  have z2 := HW.out.tl.tl.z
  have c4 := HW.out.tl.tl.tl.tl.c
  have z4 := HW.out.tl.tl.tl.tl.z
  have hS := Old.of (Below.refl W.heap.size W)
  go_region_held3 (fun w' => Below W.heap.size W w' ∧ ∀ b o, b < W.heap.size → w'.cell? ⟨b, o, none⟩ = W.cell? ⟨b, o, none⟩) (first | assumption | exact old_drew ‹_› | (refine old_kept ?_ (by assumption); assumption)) (first | (go_at_call 12; with_reducible refine (asize_of (k := 1) (rc := rc) (rn := rn) (bc := bc) (bn := bn) (ic := ic) (ix := ix) (s := s) (d := d) (z := z) (n := n) HZ.out HS.out _).mono ?_; rintro e w9 ⟨rfl, hbel⟩) | (go_at_call 12; with_reducible refine (asize_of (k := 1) (rc := rc) (rn := rn) (bc := 0) (bn := 0) (ic := 0) (ix := 0) (s := 0) (d := 0) (z := 0) (n := 0) HZ2.out HS2.out _).mono ?_; rintro e w9 ⟨rfl, hbel⟩) | (go_at_call 12; with_reducible refine (asize_of (k := 1) (rc := rc) (rn := rn) (bc := bc') (bn := bn') (ic := ic') (ix := ix') (s := s') (d := d') (z := z') (n := n') HZ3.out HS3.out _).mono ?_; rintro e w9 ⟨rfl, hbel⟩) | (go_at_call 14; with_reducible refine (asame_of (k := 1) (rc := rc) (rn := rn) (bc := bc) (bn := bn) (ic := ic) (ix := ix) (s := s) (d := d) (z := z) (n := n) (k' := 1) (rc' := rc) (rn' := rn) (bc' := 0) (bn' := 0) (ic' := 0) (ix' := 0) (s' := 0) (d' := 0) (z' := 0) (n' := 0) HV.out HS.out HS2.out _).mono ?_; rintro e w9 ⟨rfl, hbel⟩) | (go_at_call 14; with_reducible refine (asame_of (k := 1) (rc := rc) (rn := rn) (bc := bc) (bn := bn) (ic := ic) (ix := ix) (s := s) (d := d) (z := z) (n := n) (k' := 1) (rc' := rc) (rn' := rn) (bc' := bc') (bn' := bn') (ic' := ic') (ix' := ix') (s' := s') (d' := d') (z' := z') (n' := n') HV2.out HS.out HS3.out _).mono ?_; rintro e w9 ⟨rfl, hbel⟩))
  have hk := (‹Below W.heap.size W w9 ∧ _›).1
  go_wp2
  go_ret
  exact ⟨rfl, HW.out.below.trans (hk.mono HW.out.below.size)⟩
set_option maxHeartbeats 4000000 in
theorem canon_law_mem (rc rn bc bn ic ix s d z n k' rc' rn' bc' bn' ic' ix' s' d' z' n' x3 x4 x5 x6 x7 x8 x9 : Int) (w : World) (HS : Hid (I64 s)) (HS2 : Hid (I64 x7)) (HS3 : Hid (I64 s)) (HX : Hid (aoutF ⟨2, rc, rn, ⟨bc, bn, ic, ix, s, d, z⟩, n⟩ = ⟨2, 0, 0, ⟨x3, x4, x5, x6, x7, x8, x9⟩, 0⟩)) (HK : Hid (argF ⟨2, rc, rn, ⟨bc, bn, ic, ix, s, d, z⟩, n⟩ = 0)) (HX2 : Hid (aoutF ⟨2, 0, 0, ⟨x3, x4, x5, x6, x7, x8, x9⟩, 0⟩ = ⟨2, 0, 0, ⟨x3, x4, x5, x6, x7, x8, x9⟩, 0⟩)) (HK2 : Hid (argF ⟨2, 0, 0, ⟨x3, x4, x5, x6, x7, x8, x9⟩, 0⟩ = 0)) (y : Int) (HZ : Hid (asizeF ⟨2, rc, rn, ⟨bc, bn, ic, ix, s, d, z⟩, n⟩ = y)) (HZ2 : Hid (asizeF ⟨2, 0, 0, ⟨x3, x4, x5, x6, x7, x8, x9⟩, 0⟩ = y)) (HZ3 : Hid (asizeF ⟨2, rc', rn', ⟨bc, bn, ic, ix, s, d, z⟩, n'⟩ = y)) (HV : Hid (asameF ⟨2, rc, rn, ⟨bc, bn, ic, ix, s, d, z⟩, n⟩ ⟨2, 0, 0, ⟨x3, x4, x5, x6, x7, x8, x9⟩, 0⟩ = true)) (HV2 : Hid (asameF ⟨2, rc, rn, ⟨bc, bn, ic, ix, s, d, z⟩, n⟩ ⟨2, rc', rn', ⟨bc, bn, ic, ix, s, d, z⟩, n'⟩ = true)) :
    Calls Try.prog 6 #[.agg #[.int .i64 2, .int .i64 rc, .int .i64 rn, .int .i64 bc, .int .i64 bn, .int .i64 ic, .int .i64 ix, .int .i64 s, .int .i64 d, .int .i64 z, .int .i64 n], .agg #[.int .i64 k', .int .i64 rc', .int .i64 rn', .int .i64 bc', .int .i64 bn', .int .i64 ic', .int .i64 ix', .int .i64 s', .int .i64 d', .int .i64 z', .int .i64 n']] w fun e w' => e = .returned (.bool true) ∧ Below w.heap.size w w' := by
  go_enter Try.func6, Try.ntmps6
  go_wp2_with fail
  refine (known_law _).mono ?_
  rintro e w1 ⟨rfl, hb1⟩
  have HW := hid ((((Own.nil w).alloc w.heap.size #[.int .i64 2, .int .i64 rc, .int .i64 rn, .int .i64 bc, .int .i64 bn, .int .i64 ic, .int .i64 ix, .int .i64 s, .int .i64 d, .int .i64 z, .int .i64 n] 27 rfl).alloc (w.heap.size + 1) #[.int .i64 k', .int .i64 rc', .int .i64 rn', .int .i64 bc', .int .i64 bn', .int .i64 ic', .int .i64 ix', .int .i64 s', .int .i64 d', .int .i64 z', .int .i64 n'] 27 (by simp)).call hb1)
  clear hb1
  have c1 := HW.out.tl.c
  have z1 := HW.out.tl.z
  go_wp2_with fail
  refine (acanon_at HX.out HK.out HS.out _).mono ?_
  rintro e w2 ⟨rfl, hb1⟩
  have HW := hid (HW.out.call hb1)
  clear hb1 c1 z1
  have c1 := HW.out.tl.c
  have z1 := HW.out.tl.z
  have a1 := HW.out.tl.a
  go_wp2_with fail
  refine (acheck_of HK.out HS.out _).mono ?_
  rintro e w3 ⟨rfl, hb1⟩
  have HW := hid ((HW.out.alloc w2.heap.size #[.int .i64 2, .int .i64 0, .int .i64 0, .int .i64 x3, .int .i64 x4, .int .i64 x5, .int .i64 x6, .int .i64 x7, .int .i64 x8, .int .i64 x9, .int .i64 0] 27 rfl).call hb1)
  clear hb1 c1 z1 a1
  have c0 := HW.out.c
  have z0 := HW.out.z
  have a0 := HW.out.a
  have c1 := HW.out.tl.c
  have z1 := HW.out.tl.z
  have a1 := HW.out.tl.a
  have c2 := HW.out.tl.tl.c
  have z2 := HW.out.tl.tl.z
  have a2 := HW.out.tl.tl.a
  go_wp2_with fail
  refine (acanon_at HX2.out HK2.out HS2.out _).mono ?_
  rintro e w4 ⟨rfl, hb1⟩
  have HW := hid (HW.out.call hb1)
  clear hb1 c0 z0 a0 c1 z1 a1 c2 z2 a2
  have c0 := HW.out.c
  have z0 := HW.out.z
  have a0 := HW.out.a
  have c1 := HW.out.tl.c
  have z1 := HW.out.tl.z
  have a1 := HW.out.tl.a
  have c2 := HW.out.tl.tl.c
  have z2 := HW.out.tl.tl.z
  have a2 := HW.out.tl.tl.a
  have HW := hid (HW.out.alloc w4.heap.size #[.int .i64 2, .int .i64 0, .int .i64 0, .int .i64 x3, .int .i64 x4, .int .i64 x5, .int .i64 x6, .int .i64 x7, .int .i64 x8, .int .i64 x9, .int .i64 0] 27 rfl)
  have d0 := HW.out.tl.a
  have d1 := HW.out.tl.tl.a
  have d2 := HW.out.tl.tl.tl.a
  go_wp2_with fail
  have HW := hid (HW.out.alloc (w4.heap.size + 1) #[.int .i64 2, .int .i64 rc', .int .i64 rn', .int .i64 bc, .int .i64 bn, .int .i64 ic, .int .i64 ix, .int .i64 s, .int .i64 d, .int .i64 z, .int .i64 n'] 27 (by simp))
  generalize (w4.alloc (.cells #[.int .i64 2, .int .i64 0, .int .i64 0, .int .i64 x3, .int .i64 x4, .int .i64 x5, .int .i64 x6, .int .i64 x7, .int .i64 x8, .int .i64 x9, .int .i64 0] 27)).alloc (.cells #[.int .i64 2, .int .i64 rc', .int .i64 rn', .int .i64 bc, .int .i64 bn, .int .i64 ic, .int .i64 ix, .int .i64 s, .int .i64 d, .int .i64 z, .int .i64 n'] 27) = W at *
  clear d0 d1 d2 c0 z0 a0 c1 z1 a1 c2 z2 a2
  have c0 := HW.out.c
  have z0 := HW.out.z
  have c1 := HW.out.tl.c
  have z1 := HW.out.tl.z
  have c2 := HW.out.tl.tl.c
  have z2 := HW.out.tl.tl.z
  have c4 := HW.out.tl.tl.tl.tl.c
  have z4 := HW.out.tl.tl.tl.tl.z
  have hS := Old.of (Below.refl W.heap.size W)
  go_region_held3 (fun w' => Below W.heap.size W w' ∧ ∀ b o, b < W.heap.size → w'.cell? ⟨b, o, none⟩ = W.cell? ⟨b, o, none⟩) (first | assumption | exact old_drew ‹_› | (refine old_kept ?_ (by assumption); assumption)) (first | (go_at_call 12; with_reducible refine (asize_of (k := 2) (rc := rc) (rn := rn) (bc := bc) (bn := bn) (ic := ic) (ix := ix) (s := s) (d := d) (z := z) (n := n) HZ.out HS.out _).mono ?_; rintro e w9 ⟨rfl, hbel⟩) | (go_at_call 12; with_reducible refine (asize_of (k := 2) (rc := 0) (rn := 0) (bc := x3) (bn := x4) (ic := x5) (ix := x6) (s := x7) (d := x8) (z := x9) (n := 0) HZ2.out HS2.out _).mono ?_; rintro e w9 ⟨rfl, hbel⟩) | (go_at_call 12; with_reducible refine (asize_of (k := 2) (rc := rc') (rn := rn') (bc := bc) (bn := bn) (ic := ic) (ix := ix) (s := s) (d := d) (z := z) (n := n') HZ3.out HS3.out _).mono ?_; rintro e w9 ⟨rfl, hbel⟩) | (go_at_call 14; with_reducible refine (asame_of (k := 2) (rc := rc) (rn := rn) (bc := bc) (bn := bn) (ic := ic) (ix := ix) (s := s) (d := d) (z := z) (n := n) (k' := 2) (rc' := 0) (rn' := 0) (bc' := x3) (bn' := x4) (ic' := x5) (ix' := x6) (s' := x7) (d' := x8) (z' := x9) (n' := 0) HV.out HS.out HS2.out _).mono ?_; rintro e w9 ⟨rfl, hbel⟩) | (go_at_call 14; with_reducible refine (asame_of (k := 2) (rc := rc) (rn := rn) (bc := bc) (bn := bn) (ic := ic) (ix := ix) (s := s) (d := d) (z := z) (n := n) (k' := 2) (rc' := rc') (rn' := rn') (bc' := bc) (bn' := bn) (ic' := ic) (ix' := ix) (s' := s) (d' := d) (z' := z) (n' := n') HV2.out HS.out HS3.out _).mono ?_; rintro e w9 ⟨rfl, hbel⟩))
  have hk := (‹Below W.heap.size W w9 ∧ _›).1
  go_wp2
  go_ret
  exact ⟨rfl, HW.out.below.trans (hk.mono HW.out.below.size)⟩
set_option maxHeartbeats 4000000 in
theorem canon_law_rest (k rc rn bc bn ic ix s d z n k' rc' rn' bc' bn' ic' ix' s' d' z' n' : Int) (w : World) (h1 : (k != 1) = true) (h2 : (k != 2) = true) (h3 : (k == 1) = false) (h4 : (k == 2) = false) (HS : Hid (I64 s)) (HS2 : Hid (I64 0)) (HS3 : Hid (I64 s')) (HX : Hid (aoutF ⟨k, rc, rn, ⟨bc, bn, ic, ix, s, d, z⟩, n⟩ = ⟨k, 0, 0, ⟨0, 0, 0, 0, 0, 0, 0⟩, n⟩)) (HK : Hid (argF ⟨k, rc, rn, ⟨bc, bn, ic, ix, s, d, z⟩, n⟩ = 0)) (HX2 : Hid (aoutF ⟨k, 0, 0, ⟨0, 0, 0, 0, 0, 0, 0⟩, n⟩ = ⟨k, 0, 0, ⟨0, 0, 0, 0, 0, 0, 0⟩, n⟩)) (HK2 : Hid (argF ⟨k, 0, 0, ⟨0, 0, 0, 0, 0, 0, 0⟩, n⟩ = 0)) (y : Int) (HZ : Hid (asizeF ⟨k, rc, rn, ⟨bc, bn, ic, ix, s, d, z⟩, n⟩ = y)) (HZ2 : Hid (asizeF ⟨k, 0, 0, ⟨0, 0, 0, 0, 0, 0, 0⟩, n⟩ = y)) (HZ3 : Hid (asizeF ⟨k, rc', rn', ⟨bc', bn', ic', ix', s', d', z'⟩, n⟩ = y)) (HV : Hid (asameF ⟨k, rc, rn, ⟨bc, bn, ic, ix, s, d, z⟩, n⟩ ⟨k, 0, 0, ⟨0, 0, 0, 0, 0, 0, 0⟩, n⟩ = true)) (HV2 : Hid (asameF ⟨k, rc, rn, ⟨bc, bn, ic, ix, s, d, z⟩, n⟩ ⟨k, rc', rn', ⟨bc', bn', ic', ix', s', d', z'⟩, n⟩ = true)) :
    Calls Try.prog 6 #[.agg #[.int .i64 k, .int .i64 rc, .int .i64 rn, .int .i64 bc, .int .i64 bn, .int .i64 ic, .int .i64 ix, .int .i64 s, .int .i64 d, .int .i64 z, .int .i64 n], .agg #[.int .i64 k', .int .i64 rc', .int .i64 rn', .int .i64 bc', .int .i64 bn', .int .i64 ic', .int .i64 ix', .int .i64 s', .int .i64 d', .int .i64 z', .int .i64 n']] w fun e w' => e = .returned (.bool true) ∧ Below w.heap.size w w' := by
  go_enter Try.func6, Try.ntmps6
  go_wp2_with fail
  refine (known_law _).mono ?_
  rintro e w1 ⟨rfl, hb1⟩
  have HW := hid ((((Own.nil w).alloc w.heap.size #[.int .i64 k, .int .i64 rc, .int .i64 rn, .int .i64 bc, .int .i64 bn, .int .i64 ic, .int .i64 ix, .int .i64 s, .int .i64 d, .int .i64 z, .int .i64 n] 27 rfl).alloc (w.heap.size + 1) #[.int .i64 k', .int .i64 rc', .int .i64 rn', .int .i64 bc', .int .i64 bn', .int .i64 ic', .int .i64 ix', .int .i64 s', .int .i64 d', .int .i64 z', .int .i64 n'] 27 (by simp)).call hb1)
  clear hb1
  have c1 := HW.out.tl.c
  have z1 := HW.out.tl.z
  go_wp2_with fail
  refine (acanon_at HX.out HK.out HS.out _).mono ?_
  rintro e w2 ⟨rfl, hb1⟩
  have HW := hid (HW.out.call hb1)
  clear hb1 c1 z1
  have c1 := HW.out.tl.c
  have z1 := HW.out.tl.z
  have a1 := HW.out.tl.a
  go_wp2_with fail
  refine (acheck_of HK.out HS.out _).mono ?_
  rintro e w3 ⟨rfl, hb1⟩
  have HW := hid ((HW.out.alloc w2.heap.size #[.int .i64 k, .int .i64 0, .int .i64 0, .int .i64 0, .int .i64 0, .int .i64 0, .int .i64 0, .int .i64 0, .int .i64 0, .int .i64 0, .int .i64 n] 27 rfl).call hb1)
  clear hb1 c1 z1 a1
  have c0 := HW.out.c
  have z0 := HW.out.z
  have a0 := HW.out.a
  have c1 := HW.out.tl.c
  have z1 := HW.out.tl.z
  have a1 := HW.out.tl.a
  have c2 := HW.out.tl.tl.c
  have z2 := HW.out.tl.tl.z
  have a2 := HW.out.tl.tl.a
  go_wp2_with fail
  refine (acanon_at HX2.out HK2.out HS2.out _).mono ?_
  rintro e w4 ⟨rfl, hb1⟩
  have HW := hid (HW.out.call hb1)
  clear hb1 c0 z0 a0 c1 z1 a1 c2 z2 a2
  have c0 := HW.out.c
  have z0 := HW.out.z
  have a0 := HW.out.a
  have c1 := HW.out.tl.c
  have z1 := HW.out.tl.z
  have a1 := HW.out.tl.a
  have c2 := HW.out.tl.tl.c
  have z2 := HW.out.tl.tl.z
  have a2 := HW.out.tl.tl.a
  have HW := hid (HW.out.alloc w4.heap.size #[.int .i64 k, .int .i64 0, .int .i64 0, .int .i64 0, .int .i64 0, .int .i64 0, .int .i64 0, .int .i64 0, .int .i64 0, .int .i64 0, .int .i64 n] 27 rfl)
  have d0 := HW.out.tl.a
  have d1 := HW.out.tl.tl.a
  have d2 := HW.out.tl.tl.tl.a
  go_wp2_with fail
  have HW := hid (HW.out.alloc (w4.heap.size + 1) #[.int .i64 k, .int .i64 rc', .int .i64 rn', .int .i64 bc', .int .i64 bn', .int .i64 ic', .int .i64 ix', .int .i64 s', .int .i64 d', .int .i64 z', .int .i64 n] 27 (by simp))
  generalize (w4.alloc (.cells #[.int .i64 k, .int .i64 0, .int .i64 0, .int .i64 0, .int .i64 0, .int .i64 0, .int .i64 0, .int .i64 0, .int .i64 0, .int .i64 0, .int .i64 n] 27)).alloc (.cells #[.int .i64 k, .int .i64 rc', .int .i64 rn', .int .i64 bc', .int .i64 bn', .int .i64 ic', .int .i64 ix', .int .i64 s', .int .i64 d', .int .i64 z', .int .i64 n] 27) = W at *
  clear d0 d1 d2 c0 z0 a0 c1 z1 a1 c2 z2 a2
  have c0 := HW.out.c
  have z0 := HW.out.z
  have c1 := HW.out.tl.c
  have z1 := HW.out.tl.z
  have c2 := HW.out.tl.tl.c
  have z2 := HW.out.tl.tl.z
  have c4 := HW.out.tl.tl.tl.tl.c
  have z4 := HW.out.tl.tl.tl.tl.z
  have hS := Old.of (Below.refl W.heap.size W)
  go_region_held3 (fun w' => Below W.heap.size W w' ∧ ∀ b o, b < W.heap.size → w'.cell? ⟨b, o, none⟩ = W.cell? ⟨b, o, none⟩) (first | assumption | exact old_drew ‹_› | (refine old_kept ?_ (by assumption); assumption)) (first | (go_at_call 12; with_reducible refine (asize_of (k := k) (rc := rc) (rn := rn) (bc := bc) (bn := bn) (ic := ic) (ix := ix) (s := s) (d := d) (z := z) (n := n) HZ.out HS.out _).mono ?_; rintro e w9 ⟨rfl, hbel⟩) | (go_at_call 12; with_reducible refine (asize_of (k := k) (rc := 0) (rn := 0) (bc := 0) (bn := 0) (ic := 0) (ix := 0) (s := 0) (d := 0) (z := 0) (n := n) HZ2.out HS2.out _).mono ?_; rintro e w9 ⟨rfl, hbel⟩) | (go_at_call 12; with_reducible refine (asize_of (k := k) (rc := rc') (rn := rn') (bc := bc') (bn := bn') (ic := ic') (ix := ix') (s := s') (d := d') (z := z') (n := n) HZ3.out HS3.out _).mono ?_; rintro e w9 ⟨rfl, hbel⟩) | (go_at_call 14; with_reducible refine (asame_of (k := k) (rc := rc) (rn := rn) (bc := bc) (bn := bn) (ic := ic) (ix := ix) (s := s) (d := d) (z := z) (n := n) (k' := k) (rc' := 0) (rn' := 0) (bc' := 0) (bn' := 0) (ic' := 0) (ix' := 0) (s' := 0) (d' := 0) (z' := 0) (n' := n) HV.out HS.out HS2.out _).mono ?_; rintro e w9 ⟨rfl, hbel⟩) | (go_at_call 14; with_reducible refine (asame_of (k := k) (rc := rc) (rn := rn) (bc := bc) (bn := bn) (ic := ic) (ix := ix) (s := s) (d := d) (z := z) (n := n) (k' := k) (rc' := rc') (rn' := rn') (bc' := bc') (bn' := bn') (ic' := ic') (ix' := ix') (s' := s') (d' := d') (z' := z') (n' := n) HV2.out HS.out HS3.out _).mono ?_; rintro e w9 ⟨rfl, hbel⟩))
  have hk := (‹Below W.heap.size W w9 ∧ _›).1
  go_wp2
  go_ret
  exact ⟨rfl, HW.out.below.trans (hk.mono HW.out.below.size)⟩
theorem canon_law (k rc rn bc bn ic ix s d z n k' rc' rn' bc' bn' ic' ix' s' d' z' n' : Int) (w : World) (hs : I64 s) (hs' : I64 s') :
    Calls Try.prog 6 #[.agg #[.int .i64 k, .int .i64 rc, .int .i64 rn, .int .i64 bc, .int .i64 bn, .int .i64 ic, .int .i64 ix, .int .i64 s, .int .i64 d, .int .i64 z, .int .i64 n], .agg #[.int .i64 k', .int .i64 rc', .int .i64 rn', .int .i64 bc', .int .i64 bn', .int .i64 ic', .int .i64 ix', .int .i64 s', .int .i64 d', .int .i64 z', .int .i64 n']] w fun e w' => e = .returned (.bool true) ∧ Below w.heap.size w w' := by
  have hz : I64 0 := by unfold I64; omega
  by_cases h0 : argF ⟨k, rc, rn, ⟨bc, bn, ic, ix, s, d, z⟩, n⟩ = 0
  · by_cases h1 : k = 1
    · subst h1
      have hx := aout_reg h0
      have h0x : argF ⟨1, rc, rn, ⟨0, 0, 0, 0, 0, 0, 0⟩, 0⟩ = 0 := (reg_same _ _ _ _ _ _).trans h0
      have h0c : argF ⟨1, rc, rn, ⟨bc', bn', ic', ix', s', d', z'⟩, n'⟩ = 0 := (reg_same _ _ _ _ _ _).trans h0
      exact canon_law_reg _ _ _ _ _ _ _ _ _ _ _ _ _ _ _ _ _ _ _ _ _ w (hid hs) (hid hz) (hid hs') (hid hx) (hid h0) (hid (aout_reg h0x)) (hid h0x) _ (hid rfl)
        (hid (by simp [asizeF, h0, h0x])) (hid (by simp [asizeF, h0, h0c])) (hid (asame_of_out h0 h0x (hx.trans (aout_reg h0x).symm))) (hid (asame_of_out h0 h0c (hx.trans (aout_reg h0c).symm)))
    · by_cases h2 : k = 2
      · subst h2
        have hx := aout_mem h0
        have hc : checkF ⟨bc, bn, ic, ix, s, d, z⟩ = 0 := by simpa [argF] using h0
        obtain ⟨p1, p2, _, p4⟩ := canon_parts hc
        have hsx := canonF_scale (p := ⟨bc, bn, ic, ix, s, d, z⟩) hs
        have h0c : argF ⟨2, rc', rn', ⟨bc, bn, ic, ix, s, d, z⟩, n'⟩ = 0 := (mem_same _ _ _ _ _ _ _).trans h0
        have h0x : argF ⟨2, 0, 0, canonF ⟨bc, bn, ic, ix, s, d, z⟩, 0⟩ = 0 := by simpa [argF] using p1
        have hxx := aout_mem h0x
        rw [p2] at hxx
        have hv := asame_of_out h0 h0x (hx.trans hxx.symm)
        have hv2 := asame_of_out h0 h0c (hx.trans (aout_mem h0c).symm)
        have hz1 : asizeF ⟨2, rc, rn, ⟨bc, bn, ic, ix, s, d, z⟩, n⟩ = z := by simp [asizeF, h0]
        have hz2 : asizeF ⟨2, 0, 0, canonF ⟨bc, bn, ic, ix, s, d, z⟩, 0⟩ = z := by simp [asizeF, h0x, p4]
        have hz3 : asizeF ⟨2, rc', rn', ⟨bc, bn, ic, ix, s, d, z⟩, n'⟩ = z := by simp [asizeF, h0c]
        generalize canonF ⟨bc, bn, ic, ix, s, d, z⟩ = X at *
        obtain ⟨x3, x4, x5, x6, x7, x8, x9⟩ := X
        exact canon_law_mem _ _ _ _ _ _ _ _ _ _ _ _ _ _ _ _ _ _ _ _ _ _ _ _ _ _ _ _ w (hid hs) (hid hsx) (hid hs) (hid hx) (hid h0) (hid hxx) (hid h0x) _ (hid hz1) (hid hz2) (hid hz3) (hid hv) (hid hv2)
      · have hx := aout_rest h1 h2 h0
        have h0x : argF ⟨k, 0, 0, ⟨0, 0, 0, 0, 0, 0, 0⟩, n⟩ = 0 := (rest_same h1 h2 _ _ _ _ _ _ _).trans h0
        have h0c : argF ⟨k, rc', rn', ⟨bc', bn', ic', ix', s', d', z'⟩, n⟩ = 0 := (rest_same h1 h2 _ _ _ _ _ _ _).trans h0
        exact canon_law_rest _ _ _ _ _ _ _ _ _ _ _ _ _ _ _ _ _ _ _ _ _ _ w (bne_iff_ne.2 h1) (bne_iff_ne.2 h2) (beq_eq_false_iff_ne.2 h1) (beq_eq_false_iff_ne.2 h2) (hid hs) (hid hz) (hid hs') (hid hx) (hid h0) (hid (aout_rest h1 h2 h0x)) (hid h0x) _ (hid rfl)
          (hid (by simp [asizeF, h0, h0x, h1, h2])) (hid (by simp [asizeF, h0, h0c, h1, h2])) (hid (asame_of_out h0 h0x (hx.trans (aout_rest h1 h2 h0x).symm))) (hid (asame_of_out h0 h0c (hx.trans (aout_rest h1 h2 h0c).symm)))
  · exact canon_law_not _ _ _ _ _ _ _ _ _ _ _ _ _ _ _ _ _ _ _ _ _ _ _ w h0 (hid hs) (hid (aout_not h0)) (hid rfl) (hid (asizeF_not h0)) (hid (asame_not h0))
end Go.Proofs.Ytnchamgnllnflaa
