/-
  Operands: Size of both sides.
-/
import Derived.Test.YtmlmdbholakioaaArgCanon
namespace Go.Proofs.Ytmlmdbholakioaa
open Go.RowKit

def eqA (p q : Ar) : Bool := p.k == q.k && p.rc == q.rc && p.rn == q.rn && p.m.bc == q.m.bc && p.m.bn == q.m.bn && p.m.ic == q.m.ic && p.m.ix == q.m.ix && p.m.s == q.m.s && p.m.d == q.m.d && p.m.z == q.m.z && p.n == q.n
def sizeF (c n : Int) : Int := if validF c n then (if c = 3 then 2 else if c = 4 then 4 else if c = 5 then 8 else if c = 6 then 16 else if c = 7 then 32 else if c = 8 then 8 else 1) else 0
def asizeF (a : Ar) : Int := if argF a = 0 then (if a.k = 1 then sizeF a.rc a.rn else if a.k = 2 then a.m.z else 0) else 0
theorem size_reg (c n : Int) (w : World) :
    Calls Try.prog 53 #[.agg #[.int .i64 c, .int .i64 n]] w fun e w' => e = .returned (.int .i64 (sizeF c n)) ∧ Below w.heap.size w w' := by
  cases hv : validF c n
  all_goals
    have HV := hid hv
    go_enter Try.func53, Try.ntmps53
    go_wp2_with (go_at_call 55; refine (valid_of HV.out _).mono ?_; rintro e w1 ⟨rfl, hb1⟩; obtain ⟨hc1, hf1⟩ := bcell hb1; have hz1 : w.heap.size < w1.heap.size := by have := hb1.size; simp at this; omega)
    all_goals
      go_returns
      refine ⟨?_, ((Below.refl _ _).alloc (Nat.le_refl _) _).trans (hb1.mono (by simp))⟩
      have hv2 := HV.out
      clear HV
      simp_all [sizeF]
theorem rsize_reg (c n : Int) (w : World) :
    Calls Try.prog 54 #[.agg #[.int .i64 c, .int .i64 n]] w fun e w' => e = .returned (.int .i64 (sizeF c n)) ∧ Below w.heap.size w w' := by
  cases hv : validF c n
  all_goals
    have HV := hid hv
    go_enter Try.func54, Try.ntmps54
    go_wp2_with (go_at_call 57; refine (rvalid_of HV.out _).mono ?_; rintro e w1 ⟨rfl, hb1⟩; obtain ⟨hc1, hf1⟩ := bcell hb1; have hz1 : w.heap.size < w1.heap.size := by have := hb1.size; simp at this; omega)
    all_goals
      go_returns
      refine ⟨?_, ((Below.refl _ _).alloc (Nat.le_refl _) _).trans (hb1.mono (by simp))⟩
      have hv2 := HV.out
      clear HV
      simp_all [sizeF]
theorem asize_not (k rc rn bc bn ic ix s d z n : Int) (e' : Int) (h : ¬ e' = 0) (HK : Hid (argF ⟨k, rc, rn, ⟨bc, bn, ic, ix, s, d, z⟩, n⟩ = e')) (HS : Hid (I64 s)) (w : World) :
    Calls Try.prog 37 #[.agg #[.int .i64 k, .int .i64 rc, .int .i64 rn, .int .i64 bc, .int .i64 bn, .int .i64 ic, .int .i64 ix, .int .i64 s, .int .i64 d, .int .i64 z, .int .i64 n]] w fun e w' => e = .returned (.int .i64 0) ∧ Below w.heap.size w w' := by
  go_enter Try.func37, Try.ntmps37
  go_wp2_with (go_at_call 41; refine (acheck_of HK.out HS.out _).mono ?_; rintro e w1 ⟨rfl, hb1⟩; have HO := hid (((Own.nil w).alloc w.heap.size #[.int .i64 k, .int .i64 rc, .int .i64 rn, .int .i64 bc, .int .i64 bn, .int .i64 ic, .int .i64 ix, .int .i64 s, .int .i64 d, .int .i64 z, .int .i64 n] 42 rfl).call hb1); clear hb1; have c0 := HO.out.c; have z0 := HO.out.z; have HB := hid HO.out.below)
  go_returns
  exact ⟨rfl, HB.out⟩
theorem asize_one (rc rn bc bn ic ix s d z n : Int) (HK : Hid (argF ⟨1, rc, rn, ⟨bc, bn, ic, ix, s, d, z⟩, n⟩ = 0)) (HS : Hid (I64 s)) (w : World) :
    Calls Try.prog 37 #[.agg #[.int .i64 1, .int .i64 rc, .int .i64 rn, .int .i64 bc, .int .i64 bn, .int .i64 ic, .int .i64 ix, .int .i64 s, .int .i64 d, .int .i64 z, .int .i64 n]] w fun e w' => e = .returned (.int .i64 (sizeF rc rn)) ∧ Below w.heap.size w w' := by
  go_enter Try.func37, Try.ntmps37
  go_wp2_with (first | (go_at_call 41; refine (acheck_of HK.out HS.out _).mono ?_; rintro e w1 ⟨rfl, hb1⟩; have HO := hid (((Own.nil w).alloc w.heap.size #[.int .i64 1, .int .i64 rc, .int .i64 rn, .int .i64 bc, .int .i64 bn, .int .i64 ic, .int .i64 ix, .int .i64 s, .int .i64 d, .int .i64 z, .int .i64 n] 42 rfl).call hb1); clear hb1; have c0 := HO.out.c; have z0 := HO.out.z; have HB := hid HO.out.below) | (go_at_call 53; refine (size_reg _ _ _).mono ?_; rintro e w2 ⟨rfl, hb1⟩; have HO := hid (HO.out.call hb1); clear hb1 c0 z0 HB; have c0 := HO.out.c; have z0 := HO.out.z; have HB := hid HO.out.below))
  go_returns
  exact ⟨rfl, HB.out⟩
theorem asize_two (rc rn bc bn ic ix s d z n : Int) (HK : Hid (argF ⟨2, rc, rn, ⟨bc, bn, ic, ix, s, d, z⟩, n⟩ = 0)) (HS : Hid (I64 s)) (w : World) :
    Calls Try.prog 37 #[.agg #[.int .i64 2, .int .i64 rc, .int .i64 rn, .int .i64 bc, .int .i64 bn, .int .i64 ic, .int .i64 ix, .int .i64 s, .int .i64 d, .int .i64 z, .int .i64 n]] w fun e w' => e = .returned (.int .i64 z) ∧ Below w.heap.size w w' := by
  go_enter Try.func37, Try.ntmps37
  go_wp2_with (go_at_call 41; refine (acheck_of HK.out HS.out _).mono ?_; rintro e w1 ⟨rfl, hb1⟩; have HO := hid (((Own.nil w).alloc w.heap.size #[.int .i64 2, .int .i64 rc, .int .i64 rn, .int .i64 bc, .int .i64 bn, .int .i64 ic, .int .i64 ix, .int .i64 s, .int .i64 d, .int .i64 z, .int .i64 n] 42 rfl).call hb1); clear hb1; have c0 := HO.out.c; have z0 := HO.out.z; have HB := hid HO.out.below)
  go_returns
  exact ⟨rfl, HB.out⟩
theorem asize_rest (k rc rn bc bn ic ix s d z n : Int) (h1 : ¬ k = 1) (h2 : ¬ k = 2) (HK : Hid (argF ⟨k, rc, rn, ⟨bc, bn, ic, ix, s, d, z⟩, n⟩ = 0)) (HS : Hid (I64 s)) (w : World) :
    Calls Try.prog 37 #[.agg #[.int .i64 k, .int .i64 rc, .int .i64 rn, .int .i64 bc, .int .i64 bn, .int .i64 ic, .int .i64 ix, .int .i64 s, .int .i64 d, .int .i64 z, .int .i64 n]] w fun e w' => e = .returned (.int .i64 0) ∧ Below w.heap.size w w' := by
  go_enter Try.func37, Try.ntmps37
  go_wp2_with (go_at_call 41; refine (acheck_of HK.out HS.out _).mono ?_; rintro e w1 ⟨rfl, hb1⟩; have HO := hid (((Own.nil w).alloc w.heap.size #[.int .i64 k, .int .i64 rc, .int .i64 rn, .int .i64 bc, .int .i64 bn, .int .i64 ic, .int .i64 ix, .int .i64 s, .int .i64 d, .int .i64 z, .int .i64 n] 42 rfl).call hb1); clear hb1; have c0 := HO.out.c; have z0 := HO.out.z; have HB := hid HO.out.below)
  go_returns
  exact ⟨rfl, HB.out⟩
theorem asize_of {k rc rn bc bn ic ix s d z n : Int} {v : Int} (hv : asizeF ⟨k, rc, rn, ⟨bc, bn, ic, ix, s, d, z⟩, n⟩ = v) (hs : I64 s) (w : World) :
    Calls Try.prog 37 #[.agg #[.int .i64 k, .int .i64 rc, .int .i64 rn, .int .i64 bc, .int .i64 bn, .int .i64 ic, .int .i64 ix, .int .i64 s, .int .i64 d, .int .i64 z, .int .i64 n]] w fun e w' => e = .returned (.int .i64 v) ∧ Below w.heap.size w w' := by
  subst hv
  unfold asizeF
  by_cases h0 : argF ⟨k, rc, rn, ⟨bc, bn, ic, ix, s, d, z⟩, n⟩ = 0
  · rw [if_pos h0]
    by_cases h1 : k = 1
    · subst h1
      rw [if_pos rfl]
      exact asize_one _ _ _ _ _ _ _ _ _ _ (hid h0) (hid hs) w
    · rw [if_neg h1]
      by_cases h2 : k = 2
      · subst h2
        rw [if_pos rfl]
        exact asize_two _ _ _ _ _ _ _ _ _ _ (hid h0) (hid hs) w
      · rw [if_neg h2]
        exact asize_rest _ _ _ _ _ _ _ _ _ _ _ h1 h2 (hid h0) (hid hs) w
  · rw [if_neg h0]
    exact asize_not _ _ _ _ _ _ _ _ _ _ _ _ h0 (hid rfl) (hid hs) w
theorem rasize_not (k rc rn bc bn ic ix s d z n : Int) (e' : Int) (h : ¬ e' = 0) (HK : Hid (argF ⟨k, rc, rn, ⟨bc, bn, ic, ix, s, d, z⟩, n⟩ = e')) (w : World) :
    Calls Try.prog 40 #[.agg #[.int .i64 k, .int .i64 rc, .int .i64 rn, .int .i64 bc, .int .i64 bn, .int .i64 ic, .int .i64 ix, .int .i64 s, .int .i64 d, .int .i64 z, .int .i64 n]] w fun e w' => e = .returned (.int .i64 0) ∧ Below w.heap.size w w' := by
  go_enter Try.func40, Try.ntmps40
  go_wp2_with (go_at_call 42; refine (racheck_of HK.out _).mono ?_; rintro e w1 ⟨rfl, hb1⟩; have HO := hid (((Own.nil w).alloc w.heap.size #[.int .i64 k, .int .i64 rc, .int .i64 rn, .int .i64 bc, .int .i64 bn, .int .i64 ic, .int .i64 ix, .int .i64 s, .int .i64 d, .int .i64 z, .int .i64 n] 42 rfl).call hb1); clear hb1; have c0 := HO.out.c; have z0 := HO.out.z; have HB := hid HO.out.below)
  go_returns
  exact ⟨rfl, HB.out⟩
theorem rasize_one (rc rn bc bn ic ix s d z n : Int) (HK : Hid (argF ⟨1, rc, rn, ⟨bc, bn, ic, ix, s, d, z⟩, n⟩ = 0)) (w : World) :
    Calls Try.prog 40 #[.agg #[.int .i64 1, .int .i64 rc, .int .i64 rn, .int .i64 bc, .int .i64 bn, .int .i64 ic, .int .i64 ix, .int .i64 s, .int .i64 d, .int .i64 z, .int .i64 n]] w fun e w' => e = .returned (.int .i64 (sizeF rc rn)) ∧ Below w.heap.size w w' := by
  go_enter Try.func40, Try.ntmps40
  go_wp2_with (first | (go_at_call 42; refine (racheck_of HK.out _).mono ?_; rintro e w1 ⟨rfl, hb1⟩; have HO := hid (((Own.nil w).alloc w.heap.size #[.int .i64 1, .int .i64 rc, .int .i64 rn, .int .i64 bc, .int .i64 bn, .int .i64 ic, .int .i64 ix, .int .i64 s, .int .i64 d, .int .i64 z, .int .i64 n] 42 rfl).call hb1); clear hb1; have c0 := HO.out.c; have z0 := HO.out.z; have HB := hid HO.out.below) | (go_at_call 54; refine (rsize_reg _ _ _).mono ?_; rintro e w2 ⟨rfl, hb1⟩; have HO := hid (HO.out.call hb1); clear hb1 c0 z0 HB; have c0 := HO.out.c; have z0 := HO.out.z; have HB := hid HO.out.below))
  go_returns
  exact ⟨rfl, HB.out⟩
theorem rasize_two (rc rn bc bn ic ix s d z n : Int) (HK : Hid (argF ⟨2, rc, rn, ⟨bc, bn, ic, ix, s, d, z⟩, n⟩ = 0)) (w : World) :
    Calls Try.prog 40 #[.agg #[.int .i64 2, .int .i64 rc, .int .i64 rn, .int .i64 bc, .int .i64 bn, .int .i64 ic, .int .i64 ix, .int .i64 s, .int .i64 d, .int .i64 z, .int .i64 n]] w fun e w' => e = .returned (.int .i64 z) ∧ Below w.heap.size w w' := by
  go_enter Try.func40, Try.ntmps40
  go_wp2_with (go_at_call 42; refine (racheck_of HK.out _).mono ?_; rintro e w1 ⟨rfl, hb1⟩; have HO := hid (((Own.nil w).alloc w.heap.size #[.int .i64 2, .int .i64 rc, .int .i64 rn, .int .i64 bc, .int .i64 bn, .int .i64 ic, .int .i64 ix, .int .i64 s, .int .i64 d, .int .i64 z, .int .i64 n] 42 rfl).call hb1); clear hb1; have c0 := HO.out.c; have z0 := HO.out.z; have HB := hid HO.out.below)
  go_returns
  exact ⟨rfl, HB.out⟩
theorem rasize_rest (k rc rn bc bn ic ix s d z n : Int) (h1 : ¬ k = 1) (h2 : ¬ k = 2) (HK : Hid (argF ⟨k, rc, rn, ⟨bc, bn, ic, ix, s, d, z⟩, n⟩ = 0)) (w : World) :
    Calls Try.prog 40 #[.agg #[.int .i64 k, .int .i64 rc, .int .i64 rn, .int .i64 bc, .int .i64 bn, .int .i64 ic, .int .i64 ix, .int .i64 s, .int .i64 d, .int .i64 z, .int .i64 n]] w fun e w' => e = .returned (.int .i64 0) ∧ Below w.heap.size w w' := by
  go_enter Try.func40, Try.ntmps40
  go_wp2_with (go_at_call 42; refine (racheck_of HK.out _).mono ?_; rintro e w1 ⟨rfl, hb1⟩; have HO := hid (((Own.nil w).alloc w.heap.size #[.int .i64 k, .int .i64 rc, .int .i64 rn, .int .i64 bc, .int .i64 bn, .int .i64 ic, .int .i64 ix, .int .i64 s, .int .i64 d, .int .i64 z, .int .i64 n] 42 rfl).call hb1); clear hb1; have c0 := HO.out.c; have z0 := HO.out.z; have HB := hid HO.out.below)
  go_returns
  exact ⟨rfl, HB.out⟩
theorem rasize_of {k rc rn bc bn ic ix s d z n : Int} {v : Int} (hv : asizeF ⟨k, rc, rn, ⟨bc, bn, ic, ix, s, d, z⟩, n⟩ = v) (w : World) :
    Calls Try.prog 40 #[.agg #[.int .i64 k, .int .i64 rc, .int .i64 rn, .int .i64 bc, .int .i64 bn, .int .i64 ic, .int .i64 ix, .int .i64 s, .int .i64 d, .int .i64 z, .int .i64 n]] w fun e w' => e = .returned (.int .i64 v) ∧ Below w.heap.size w w' := by
  subst hv
  unfold asizeF
  by_cases h0 : argF ⟨k, rc, rn, ⟨bc, bn, ic, ix, s, d, z⟩, n⟩ = 0
  · rw [if_pos h0]
    by_cases h1 : k = 1
    · subst h1
      rw [if_pos rfl]
      exact rasize_one _ _ _ _ _ _ _ _ _ _ (hid h0) w
    · rw [if_neg h1]
      by_cases h2 : k = 2
      · subst h2
        rw [if_pos rfl]
        exact rasize_two _ _ _ _ _ _ _ _ _ _ (hid h0) w
      · rw [if_neg h2]
        exact rasize_rest _ _ _ _ _ _ _ _ _ _ _ h1 h2 (hid h0) w
  · rw [if_neg h0]
    exact rasize_not _ _ _ _ _ _ _ _ _ _ _ _ h0 (hid rfl) w
end Go.Proofs.Ytmlmdbholakioaa
