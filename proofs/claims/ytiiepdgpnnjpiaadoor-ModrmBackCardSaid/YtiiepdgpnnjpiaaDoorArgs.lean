/-
  Operands, plainly: which may be; the program's Check and the document's.
  Operands: the program's Canon.
  Low and high parts of registers' numbers: of both sides.
-/
import Derived.Test.YtiiepdgpnnjpiaaDoorOwns
import Derived.Test.YtiiepdgpnnjpiaaDoorCanonRefs
section
namespace Go.Proofs.YtiiepdgpnnjpiaaDoor
open Go.RowKit

/-- An operand: its kind, its register, its place, its number. -/
structure Ar where
  k : Int
  rc : Int
  rn : Int
  m : Pl
  n : Int
abbrev AV (a : Ar) : Value := .agg #[.int .i64 a.k, .int .i64 a.rc, .int .i64 a.rn, .int .i64 a.m.bc, .int .i64 a.m.bn, .int .i64 a.m.ic, .int .i64 a.m.ix, .int .i64 a.m.s, .int .i64 a.m.d, .int .i64 a.m.z, .int .i64 a.n]
def argF (a : Ar) : Int :=
  if a.k = 1 then (if validF a.rc a.rn = true ∧ ¬ a.rc = 8 then 0 else 2) else if a.k = 2 then checkF a.m else if a.k = 3 then 0 else if a.k = 4 then (if a.n < -2147483648 ∨ 2147483647 < a.n then 5 else 0) else 2
theorem rvalid_of {c n : Int} {b : Bool} (h : validF c n = b) (w : World) :
    Calls Tryd.prog 51 #[.agg #[.int .i64 c, .int .i64 n]] w fun e w' => e = .returned (.bool b) ∧ Below w.heap.size w w' := by
  have := rvalid_any c n w
  rw [h] at this
  exact this
theorem canon_of {bc bn ic ix s d z : Int} {p : Pl} {k : Int} (hx : outF ⟨bc, bn, ic, ix, s, d, z⟩ = p) (hk : checkF ⟨bc, bn, ic, ix, s, d, z⟩ = k) (hs : I64 s) (w : World) :
    Calls Tryd.prog 42 #[.agg #[.int .i64 bc, .int .i64 bn, .int .i64 ic, .int .i64 ix, .int .i64 s, .int .i64 d, .int .i64 z]] w fun e w' => e = .returned (.tuple #[MV p, .int .i64 k]) ∧ Below w.heap.size w w' := by
  have := canon_any bc bn ic ix s d z hs w
  rw [hx, hk] at this
  exact this
theorem rcanon_of {bc bn ic ix s d z : Int} {p : Pl} {k : Int} (hx : outF ⟨bc, bn, ic, ix, s, d, z⟩ = p) (hk : checkF ⟨bc, bn, ic, ix, s, d, z⟩ = k) (w : World) :
    Calls Tryd.prog 31 #[.agg #[.int .i64 bc, .int .i64 bn, .int .i64 ic, .int .i64 ix, .int .i64 s, .int .i64 d, .int .i64 z]] w fun e w' => e = .returned (.tuple #[MV p, .int .i64 k]) ∧ Below w.heap.size w w' := by
  have := rcanon_any bc bn ic ix s d z w
  rw [hx, hk] at this
  exact this
theorem acheck_reg (rc rn bc bn ic ix s d z n : Int) (v : Bool) (e' : Int) (HV : Hid (validF rc rn = v)) (HE : Hid ((if v = true ∧ ¬ rc = 8 then 0 else 2) = e')) (w : World) :
    Calls Tryd.prog 41 #[.agg #[.int .i64 1, .int .i64 rc, .int .i64 rn, .int .i64 bc, .int .i64 bn, .int .i64 ic, .int .i64 ix, .int .i64 s, .int .i64 d, .int .i64 z, .int .i64 n]] w fun e w' => e = .returned (.int .i64 e') ∧ Below w.heap.size w w' := by
  cases v
  · go_enter Tryd.func41, Tryd.ntmps41
    go_wp2_with (go_at_call 64; refine (valid_of HV.out _).mono ?_; rintro e w1 ⟨rfl, hb1⟩; have HO := hid (((Own.nil w).alloc w.heap.size #[.int .i64 1, .int .i64 rc, .int .i64 rn, .int .i64 bc, .int .i64 bn, .int .i64 ic, .int .i64 ix, .int .i64 s, .int .i64 d, .int .i64 z, .int .i64 n] 27 rfl).call hb1); clear hb1; have c0 := HO.out.c; have z0 := HO.out.z; have HB := hid HO.out.below)
    go_returns
    exact ⟨by rw [← HE.out]; simp, HB.out⟩
  · go_enter Tryd.func41, Tryd.ntmps41
    go_wp2_with (go_at_call 64; refine (valid_of HV.out _).mono ?_; rintro e w1 ⟨rfl, hb1⟩; have HO := hid (((Own.nil w).alloc w.heap.size #[.int .i64 1, .int .i64 rc, .int .i64 rn, .int .i64 bc, .int .i64 bn, .int .i64 ic, .int .i64 ix, .int .i64 s, .int .i64 d, .int .i64 z, .int .i64 n] 27 rfl).call hb1); clear hb1; have c0 := HO.out.c; have z0 := HO.out.z; have HB := hid HO.out.below)
    all_goals
      go_returns
      exact ⟨by rw [← HE.out]; clear HE c0; simp_all, HB.out⟩
theorem acheck_mem (rc rn bc bn ic ix s d z n : Int) (HS : Hid (I64 s)) (k' : Int) (HK : Hid (checkF ⟨bc, bn, ic, ix, s, d, z⟩ = k')) (w : World) :
    Calls Tryd.prog 41 #[.agg #[.int .i64 2, .int .i64 rc, .int .i64 rn, .int .i64 bc, .int .i64 bn, .int .i64 ic, .int .i64 ix, .int .i64 s, .int .i64 d, .int .i64 z, .int .i64 n]] w fun e w' => e = .returned (.int .i64 k') ∧ Below w.heap.size w w' := by
  go_enter Tryd.func41, Tryd.ntmps41
  go_wp2_with (go_at_call 65; refine (check_of HK.out HS.out _).mono ?_; rintro e w1 ⟨rfl, hb1⟩; have HO := hid (((Own.nil w).alloc w.heap.size #[.int .i64 2, .int .i64 rc, .int .i64 rn, .int .i64 bc, .int .i64 bn, .int .i64 ic, .int .i64 ix, .int .i64 s, .int .i64 d, .int .i64 z, .int .i64 n] 27 rfl).call hb1); clear hb1; have c0 := HO.out.c; have z0 := HO.out.z; have HB := hid HO.out.below)
  go_returns
  exact ⟨rfl, HB.out⟩
theorem acheck_rest (k rc rn bc bn ic ix s d z n : Int) (e' : Int) (h1 : ¬ k = 1) (h2 : ¬ k = 2) (HE : Hid ((if k = 3 then 0 else if k = 4 then (if n < -2147483648 ∨ 2147483647 < n then 5 else 0) else 2) = e')) (w : World) :
    Calls Tryd.prog 41 #[.agg #[.int .i64 k, .int .i64 rc, .int .i64 rn, .int .i64 bc, .int .i64 bn, .int .i64 ic, .int .i64 ix, .int .i64 s, .int .i64 d, .int .i64 z, .int .i64 n]] w fun e w' => e = .returned (.int .i64 e') ∧ Below w.heap.size w w' := by
  by_cases h3 : k = 3
  · subst h3
    go_enter Tryd.func41, Tryd.ntmps41
    go_wp2_with fail
    go_returns
    exact ⟨by rw [← HE.out]; rfl, by go_grown⟩
  · by_cases h4 : k = 4
    · subst h4
      rcases show n < -2147483648 ∨ 2147483647 < n ∨ (-2147483648 ≤ n ∧ n ≤ 2147483647) by omega with h5 | h5 | ⟨h5, h6⟩
      all_goals
        go_enter Tryd.func41, Tryd.ntmps41
        go_wp2_with fail
        go_returns
        exact ⟨by rw [← HE.out]; simp; try omega, by go_grown⟩
    · go_enter Tryd.func41, Tryd.ntmps41
      go_wp2_with fail
      go_returns
      exact ⟨by rw [← HE.out]; simp [h3, h4], by go_grown⟩
theorem acheck_of {k rc rn bc bn ic ix s d z n : Int} {e' : Int} (h : argF ⟨k, rc, rn, ⟨bc, bn, ic, ix, s, d, z⟩, n⟩ = e') (hs : I64 s) (w : World) :
    Calls Tryd.prog 41 #[.agg #[.int .i64 k, .int .i64 rc, .int .i64 rn, .int .i64 bc, .int .i64 bn, .int .i64 ic, .int .i64 ix, .int .i64 s, .int .i64 d, .int .i64 z, .int .i64 n]] w fun e w' => e = .returned (.int .i64 e') ∧ Below w.heap.size w w' := by
  subst h
  unfold argF
  by_cases h1 : k = 1
  · subst h1
    rw [if_pos rfl]
    exact acheck_reg _ _ _ _ _ _ _ _ _ _ _ _ (hid rfl) (hid rfl) w
  · rw [if_neg h1]
    by_cases h2 : k = 2
    · subst h2
      rw [if_pos rfl]
      exact acheck_mem _ _ _ _ _ _ _ _ _ _ (hid hs) _ (hid rfl) w
    · rw [if_neg h2]
      exact acheck_rest _ _ _ _ _ _ _ _ _ _ _ _ h1 h2 (hid rfl) w
theorem racheck_reg (rc rn bc bn ic ix s d z n : Int) (v : Bool) (e' : Int) (HV : Hid (validF rc rn = v)) (HE : Hid ((if v = true ∧ ¬ rc = 8 then 0 else 2) = e')) (w : World) :
    Calls Tryd.prog 27 #[.agg #[.int .i64 1, .int .i64 rc, .int .i64 rn, .int .i64 bc, .int .i64 bn, .int .i64 ic, .int .i64 ix, .int .i64 s, .int .i64 d, .int .i64 z, .int .i64 n]] w fun e w' => e = .returned (.int .i64 e') ∧ Below w.heap.size w w' := by
  cases v
  · go_enter Tryd.func27, Tryd.ntmps27
    go_wp2_with (go_at_call 51; refine (rvalid_of HV.out _).mono ?_; rintro e w1 ⟨rfl, hb1⟩; have HO := hid (((Own.nil w).alloc w.heap.size #[.int .i64 1, .int .i64 rc, .int .i64 rn, .int .i64 bc, .int .i64 bn, .int .i64 ic, .int .i64 ix, .int .i64 s, .int .i64 d, .int .i64 z, .int .i64 n] 27 rfl).call hb1); clear hb1; have c0 := HO.out.c; have z0 := HO.out.z; have HB := hid HO.out.below)
    go_returns
    exact ⟨by rw [← HE.out]; simp, HB.out⟩
  · go_enter Tryd.func27, Tryd.ntmps27
    go_wp2_with (go_at_call 51; refine (rvalid_of HV.out _).mono ?_; rintro e w1 ⟨rfl, hb1⟩; have HO := hid (((Own.nil w).alloc w.heap.size #[.int .i64 1, .int .i64 rc, .int .i64 rn, .int .i64 bc, .int .i64 bn, .int .i64 ic, .int .i64 ix, .int .i64 s, .int .i64 d, .int .i64 z, .int .i64 n] 27 rfl).call hb1); clear hb1; have c0 := HO.out.c; have z0 := HO.out.z; have HB := hid HO.out.below)
    all_goals
      go_returns
      exact ⟨by rw [← HE.out]; clear HE c0; simp_all, HB.out⟩
theorem racheck_mem (rc rn bc bn ic ix s d z n : Int) (k' : Int) (HK : Hid (checkF ⟨bc, bn, ic, ix, s, d, z⟩ = k')) (w : World) :
    Calls Tryd.prog 27 #[.agg #[.int .i64 2, .int .i64 rc, .int .i64 rn, .int .i64 bc, .int .i64 bn, .int .i64 ic, .int .i64 ix, .int .i64 s, .int .i64 d, .int .i64 z, .int .i64 n]] w fun e w' => e = .returned (.int .i64 k') ∧ Below w.heap.size w w' := by
  go_enter Tryd.func27, Tryd.ntmps27
  go_wp2_with (go_at_call 52; refine (rcheck_of HK.out _).mono ?_; rintro e w1 ⟨rfl, hb1⟩; have HO := hid (((Own.nil w).alloc w.heap.size #[.int .i64 2, .int .i64 rc, .int .i64 rn, .int .i64 bc, .int .i64 bn, .int .i64 ic, .int .i64 ix, .int .i64 s, .int .i64 d, .int .i64 z, .int .i64 n] 27 rfl).call hb1); clear hb1; have c0 := HO.out.c; have z0 := HO.out.z; have HB := hid HO.out.below)
  go_returns
  exact ⟨rfl, HB.out⟩
theorem racheck_rest (k rc rn bc bn ic ix s d z n : Int) (e' : Int) (h1 : ¬ k = 1) (h2 : ¬ k = 2) (HE : Hid ((if k = 3 then 0 else if k = 4 then (if n < -2147483648 ∨ 2147483647 < n then 5 else 0) else 2) = e')) (w : World) :
    Calls Tryd.prog 27 #[.agg #[.int .i64 k, .int .i64 rc, .int .i64 rn, .int .i64 bc, .int .i64 bn, .int .i64 ic, .int .i64 ix, .int .i64 s, .int .i64 d, .int .i64 z, .int .i64 n]] w fun e w' => e = .returned (.int .i64 e') ∧ Below w.heap.size w w' := by
  by_cases h3 : k = 3
  · subst h3
    go_enter Tryd.func27, Tryd.ntmps27
    go_wp2_with fail
    go_returns
    exact ⟨by rw [← HE.out]; rfl, by go_grown⟩
  · by_cases h4 : k = 4
    · subst h4
      rcases show n < -2147483648 ∨ 2147483647 < n ∨ (-2147483648 ≤ n ∧ n ≤ 2147483647) by omega with h5 | h5 | ⟨h5, h6⟩
      all_goals
        go_enter Tryd.func27, Tryd.ntmps27
        go_wp2_with fail
        go_returns
        exact ⟨by rw [← HE.out]; simp; try omega, by go_grown⟩
    · go_enter Tryd.func27, Tryd.ntmps27
      go_wp2_with fail
      go_returns
      exact ⟨by rw [← HE.out]; simp [h3, h4], by go_grown⟩
theorem racheck_of {k rc rn bc bn ic ix s d z n : Int} {e' : Int} (h : argF ⟨k, rc, rn, ⟨bc, bn, ic, ix, s, d, z⟩, n⟩ = e') (w : World) :
    Calls Tryd.prog 27 #[.agg #[.int .i64 k, .int .i64 rc, .int .i64 rn, .int .i64 bc, .int .i64 bn, .int .i64 ic, .int .i64 ix, .int .i64 s, .int .i64 d, .int .i64 z, .int .i64 n]] w fun e w' => e = .returned (.int .i64 e') ∧ Below w.heap.size w w' := by
  subst h
  unfold argF
  by_cases h1 : k = 1
  · subst h1
    rw [if_pos rfl]
    exact racheck_reg _ _ _ _ _ _ _ _ _ _ _ _ (hid rfl) (hid rfl) w
  · rw [if_neg h1]
    by_cases h2 : k = 2
    · subst h2
      rw [if_pos rfl]
      exact racheck_mem _ _ _ _ _ _ _ _ _ _ _ (hid rfl) w
    · rw [if_neg h2]
      exact racheck_rest _ _ _ _ _ _ _ _ _ _ _ _ h1 h2 (hid rfl) w
end Go.Proofs.YtiiepdgpnnjpiaaDoor
end
section
namespace Go.Proofs.YtiiepdgpnnjpiaaDoor
open Go.RowKit

def zeroP : Pl := ⟨0, 0, 0, 0, 0, 0, 0⟩
def aoutF (a : Ar) : Ar := if argF a = 0 then (if a.k = 1 then ⟨a.k, a.rc, a.rn, ⟨0, 0, 0, 0, 0, 0, 0⟩, 0⟩ else if a.k = 2 then ⟨a.k, 0, 0, outF a.m, 0⟩ else ⟨a.k, 0, 0, ⟨0, 0, 0, 0, 0, 0, 0⟩, a.n⟩) else ⟨0, 0, 0, ⟨0, 0, 0, 0, 0, 0, 0⟩, 0⟩
set_option maxHeartbeats 1000000 in
theorem acanon_not (k rc rn bc bn ic ix s d z n : Int) (e' : Int) (h : ¬ e' = 0) (HS : Hid (I64 s)) (HK : Hid (argF ⟨k, rc, rn, ⟨bc, bn, ic, ix, s, d, z⟩, n⟩ = e')) (w : World) :
    Calls Tryd.prog 21 #[.agg #[.int .i64 k, .int .i64 rc, .int .i64 rn, .int .i64 bc, .int .i64 bn, .int .i64 ic, .int .i64 ix, .int .i64 s, .int .i64 d, .int .i64 z, .int .i64 n]] w fun e w' => e = .returned (.tuple #[.agg #[.int .i64 0, .int .i64 0, .int .i64 0, .int .i64 0, .int .i64 0, .int .i64 0, .int .i64 0, .int .i64 0, .int .i64 0, .int .i64 0, .int .i64 0], .int .i64 e']) ∧ Below w.heap.size w w' := by
  go_enter Tryd.func21, Tryd.ntmps21
  go_wp2_with (first | (go_at_call 41; refine (acheck_of HK.out HS.out _).mono ?_; rintro e w1 ⟨rfl, hb1⟩; have HO := hid ((((Own.nil w).alloc w.heap.size #[.int .i64 k, .int .i64 rc, .int .i64 rn, .int .i64 bc, .int .i64 bn, .int .i64 ic, .int .i64 ix, .int .i64 s, .int .i64 d, .int .i64 z, .int .i64 n] 27 rfl).alloc (w.heap.size + 1) #[.int .i64 0, .int .i64 0, .int .i64 0, .int .i64 0, .int .i64 0, .int .i64 0, .int .i64 0, .int .i64 0, .int .i64 0, .int .i64 0, .int .i64 0] 27 (by simp)).call hb1); clear hb1; have c0 := HO.out.c; have f0 := HO.out.f; have z0 := HO.out.z; have a0 := HO.out.a; have y0 := HO.out.fa; have c1 := HO.out.tl.c; have z1 := HO.out.tl.z; have a1 := HO.out.tl.a; have HB := hid HO.out.below) | (with_reducible change bodyPost _ _ _ Exit.ret _ _; refine bodyPost_ret (v := .tuple #[.agg #[.int .i64 0, .int .i64 0, .int .i64 0, .int .i64 0, .int .i64 0, .int .i64 0, .int .i64 0, .int .i64 0, .int .i64 0, .int .i64 0, .int .i64 0], .int .i64 e']) (by simp [results, Tryd.results21, go_sem, *]) rfl ⟨rfl, ?_⟩; (repeat first | exact HB.out | with_reducible refine Below.alloc ?_ (by have := HB.out.size; simp; omega) _ | with_reducible refine Below.setCell ?_ (by first | assumption | (simp; done) | (have := HB.out.size; simp; omega)) _)))
set_option maxHeartbeats 1000000 in
theorem acanon_reg (rc rn bc bn ic ix s d z n : Int) (HS : Hid (I64 s)) (HK : Hid (argF ⟨1, rc, rn, ⟨bc, bn, ic, ix, s, d, z⟩, n⟩ = 0)) (w : World) :
    Calls Tryd.prog 21 #[.agg #[.int .i64 1, .int .i64 rc, .int .i64 rn, .int .i64 bc, .int .i64 bn, .int .i64 ic, .int .i64 ix, .int .i64 s, .int .i64 d, .int .i64 z, .int .i64 n]] w fun e w' => e = .returned (.tuple #[.agg #[.int .i64 1, .int .i64 rc, .int .i64 rn, .int .i64 0, .int .i64 0, .int .i64 0, .int .i64 0, .int .i64 0, .int .i64 0, .int .i64 0, .int .i64 0], .int .i64 0]) ∧ Below w.heap.size w w' := by
  go_enter Tryd.func21, Tryd.ntmps21
  go_wp2_with (first | (go_at_call 41; refine (acheck_of HK.out HS.out _).mono ?_; rintro e w1 ⟨rfl, hb1⟩; have HO := hid ((((Own.nil w).alloc w.heap.size #[.int .i64 1, .int .i64 rc, .int .i64 rn, .int .i64 bc, .int .i64 bn, .int .i64 ic, .int .i64 ix, .int .i64 s, .int .i64 d, .int .i64 z, .int .i64 n] 27 rfl).alloc (w.heap.size + 1) #[.int .i64 0, .int .i64 0, .int .i64 0, .int .i64 0, .int .i64 0, .int .i64 0, .int .i64 0, .int .i64 0, .int .i64 0, .int .i64 0, .int .i64 0] 27 (by simp)).call hb1); clear hb1; have c0 := HO.out.c; have f0 := HO.out.f; have z0 := HO.out.z; have a0 := HO.out.a; have y0 := HO.out.fa; have c1 := HO.out.tl.c; have z1 := HO.out.tl.z; have a1 := HO.out.tl.a; have HB := hid HO.out.below) | (with_reducible change bodyPost _ _ _ Exit.ret _ _; refine bodyPost_ret (v := .tuple #[.agg #[.int .i64 1, .int .i64 rc, .int .i64 rn, .int .i64 0, .int .i64 0, .int .i64 0, .int .i64 0, .int .i64 0, .int .i64 0, .int .i64 0, .int .i64 0], .int .i64 0]) (by simp [results, Tryd.results21, go_sem, *]) rfl ⟨rfl, ?_⟩; (repeat first | exact HB.out | with_reducible refine Below.alloc ?_ (by have := HB.out.size; simp; omega) _ | with_reducible refine Below.setCell ?_ (by first | assumption | (simp; done) | (have := HB.out.size; simp; omega)) _)))
set_option maxHeartbeats 1000000 in
theorem acanon_mem (rc rn bc bn ic ix s d z n : Int) (x0 x1 x2 x3 x4 x5 x6 : Int) (HS : Hid (I64 s)) (HK : Hid (argF ⟨2, rc, rn, ⟨bc, bn, ic, ix, s, d, z⟩, n⟩ = 0)) (HC : Hid (checkF ⟨bc, bn, ic, ix, s, d, z⟩ = 0)) (HX : Hid (outF ⟨bc, bn, ic, ix, s, d, z⟩ = ⟨x0, x1, x2, x3, x4, x5, x6⟩)) (w : World) :
    Calls Tryd.prog 21 #[.agg #[.int .i64 2, .int .i64 rc, .int .i64 rn, .int .i64 bc, .int .i64 bn, .int .i64 ic, .int .i64 ix, .int .i64 s, .int .i64 d, .int .i64 z, .int .i64 n]] w fun e w' => e = .returned (.tuple #[.agg #[.int .i64 2, .int .i64 0, .int .i64 0, .int .i64 x0, .int .i64 x1, .int .i64 x2, .int .i64 x3, .int .i64 x4, .int .i64 x5, .int .i64 x6, .int .i64 0], .int .i64 0]) ∧ Below w.heap.size w w' := by
  go_enter Tryd.func21, Tryd.ntmps21
  go_wp2_with (first | (go_at_call 41; refine (acheck_of HK.out HS.out _).mono ?_; rintro e w1 ⟨rfl, hb1⟩; have HO := hid ((((Own.nil w).alloc w.heap.size #[.int .i64 2, .int .i64 rc, .int .i64 rn, .int .i64 bc, .int .i64 bn, .int .i64 ic, .int .i64 ix, .int .i64 s, .int .i64 d, .int .i64 z, .int .i64 n] 27 rfl).alloc (w.heap.size + 1) #[.int .i64 0, .int .i64 0, .int .i64 0, .int .i64 0, .int .i64 0, .int .i64 0, .int .i64 0, .int .i64 0, .int .i64 0, .int .i64 0, .int .i64 0] 27 (by simp)).call hb1); clear hb1; have c0 := HO.out.c; have f0 := HO.out.f; have z0 := HO.out.z; have a0 := HO.out.a; have y0 := HO.out.fa; have c1 := HO.out.tl.c; have z1 := HO.out.tl.z; have a1 := HO.out.tl.a; have HB := hid HO.out.below) | (go_at_call 42; refine (canon_of HX.out HC.out HS.out _).mono ?_; rintro e w2 ⟨rfl, hb1⟩; have HO := hid (HO.out.call hb1); clear hb1 c0 f0 z0 a0 y0 c1 z1 a1 HB; have c0 := HO.out.c; have f0 := HO.out.f; have z0 := HO.out.z; have a0 := HO.out.a; have y0 := HO.out.fa; have c1 := HO.out.tl.c; have z1 := HO.out.tl.z; have a1 := HO.out.tl.a; have HB := hid HO.out.below) | (with_reducible change bodyPost _ _ _ Exit.ret _ _; refine bodyPost_ret (v := .tuple #[.agg #[.int .i64 2, .int .i64 0, .int .i64 0, .int .i64 x0, .int .i64 x1, .int .i64 x2, .int .i64 x3, .int .i64 x4, .int .i64 x5, .int .i64 x6, .int .i64 0], .int .i64 0]) (by simp [results, Tryd.results21, go_sem, *]) rfl ⟨rfl, ?_⟩; (repeat first | exact HB.out | with_reducible refine Below.alloc ?_ (by have := HB.out.size; simp; omega) _ | with_reducible refine Below.setCell ?_ (by first | assumption | (simp; done) | (have := HB.out.size; simp; omega)) _)))
set_option maxHeartbeats 1000000 in
theorem acanon_rest (k rc rn bc bn ic ix s d z n : Int) (h1 : ¬ k = 1) (h2 : ¬ k = 2) (HS : Hid (I64 s)) (HK : Hid (argF ⟨k, rc, rn, ⟨bc, bn, ic, ix, s, d, z⟩, n⟩ = 0)) (w : World) :
    Calls Tryd.prog 21 #[.agg #[.int .i64 k, .int .i64 rc, .int .i64 rn, .int .i64 bc, .int .i64 bn, .int .i64 ic, .int .i64 ix, .int .i64 s, .int .i64 d, .int .i64 z, .int .i64 n]] w fun e w' => e = .returned (.tuple #[.agg #[.int .i64 k, .int .i64 0, .int .i64 0, .int .i64 0, .int .i64 0, .int .i64 0, .int .i64 0, .int .i64 0, .int .i64 0, .int .i64 0, .int .i64 n], .int .i64 0]) ∧ Below w.heap.size w w' := by
  go_enter Tryd.func21, Tryd.ntmps21
  go_wp2_with (first | (go_at_call 41; refine (acheck_of HK.out HS.out _).mono ?_; rintro e w1 ⟨rfl, hb1⟩; have HO := hid ((((Own.nil w).alloc w.heap.size #[.int .i64 k, .int .i64 rc, .int .i64 rn, .int .i64 bc, .int .i64 bn, .int .i64 ic, .int .i64 ix, .int .i64 s, .int .i64 d, .int .i64 z, .int .i64 n] 27 rfl).alloc (w.heap.size + 1) #[.int .i64 0, .int .i64 0, .int .i64 0, .int .i64 0, .int .i64 0, .int .i64 0, .int .i64 0, .int .i64 0, .int .i64 0, .int .i64 0, .int .i64 0] 27 (by simp)).call hb1); clear hb1; have c0 := HO.out.c; have f0 := HO.out.f; have z0 := HO.out.z; have a0 := HO.out.a; have y0 := HO.out.fa; have c1 := HO.out.tl.c; have z1 := HO.out.tl.z; have a1 := HO.out.tl.a; have HB := hid HO.out.below) | (with_reducible change bodyPost _ _ _ Exit.ret _ _; refine bodyPost_ret (v := .tuple #[.agg #[.int .i64 k, .int .i64 0, .int .i64 0, .int .i64 0, .int .i64 0, .int .i64 0, .int .i64 0, .int .i64 0, .int .i64 0, .int .i64 0, .int .i64 n], .int .i64 0]) (by simp [results, Tryd.results21, go_sem, *]) rfl ⟨rfl, ?_⟩; (repeat first | exact HB.out | with_reducible refine Below.alloc ?_ (by have := HB.out.size; simp; omega) _ | with_reducible refine Below.setCell ?_ (by first | assumption | (simp; done) | (have := HB.out.size; simp; omega)) _)))
theorem acanon_of {k rc rn bc bn ic ix s d z n : Int} {x : Ar} {e' : Int} (hx : aoutF ⟨k, rc, rn, ⟨bc, bn, ic, ix, s, d, z⟩, n⟩ = x) (hk : argF ⟨k, rc, rn, ⟨bc, bn, ic, ix, s, d, z⟩, n⟩ = e') (hs : I64 s) (w : World) :
    Calls Tryd.prog 21 #[.agg #[.int .i64 k, .int .i64 rc, .int .i64 rn, .int .i64 bc, .int .i64 bn, .int .i64 ic, .int .i64 ix, .int .i64 s, .int .i64 d, .int .i64 z, .int .i64 n]] w fun e w' => e = .returned (.tuple #[AV x, .int .i64 e']) ∧ Below w.heap.size w w' := by
  subst hx
  by_cases h0 : e' = 0
  · subst h0
    rw [aoutF, if_pos hk]
    by_cases h1 : k = 1
    · subst h1
      rw [if_pos rfl]
      exact acanon_reg _ _ _ _ _ _ _ _ _ _ (hid hs) (hid hk) w
    · rw [if_neg h1]
      by_cases h2 : k = 2
      · subst h2
        rw [if_pos rfl]
        obtain ⟨⟨x0, x1, x2, x3, x4, x5, x6⟩, hx⟩ : ∃ x, outF ⟨bc, bn, ic, ix, s, d, z⟩ = x := ⟨_, rfl⟩
        have hc : checkF ⟨bc, bn, ic, ix, s, d, z⟩ = 0 := by simpa [argF] using hk
        have := acanon_mem rc rn bc bn ic ix s d z n x0 x1 x2 x3 x4 x5 x6 (hid hs) (hid hk) (hid hc) (hid hx) w
        simp only [hx]
        exact this
      · rw [if_neg h2]
        exact acanon_rest _ _ _ _ _ _ _ _ _ _ _ h1 h2 (hid hs) (hid hk) w
  · rw [aoutF, if_neg (by rw [hk]; exact h0)]
    exact acanon_not _ _ _ _ _ _ _ _ _ _ _ _ h0 (hid hs) (hid hk) w
end Go.Proofs.YtiiepdgpnnjpiaaDoor
end
section
namespace Go.Proofs.YtiiepdgpnnjpiaaDoor
open Go.RowKit

def lowF (c n : Int) : Int := if validF c n then n % 8 else 0
def highF (c n : Int) : Int := if validF c n then n / 8 else 0
theorem validF_n {c n : Int} (h : validF c n = true) : 0 ≤ n ∧ n ≤ 15 := by
  have : 0 ≤ (spanF c).1 ∧ (spanF c).1 + (spanF c).2 ≤ 16 := by unfold spanF; (repeat' split) <;> decide
  simp [validF] at h
  omega
theorem low_reg (c n : Int) (w : World) :
    Calls Tryd.prog 44 #[.agg #[.int .i64 c, .int .i64 n]] w fun e w' => e = .returned (.int .i64 (lowF c n)) ∧ Below w.heap.size w w' := by
  cases hv : validF c n
  all_goals
    have HV := hid hv
    go_enter Tryd.func44, Tryd.ntmps44
    go_wp2_with (go_at_call 64; refine (valid_of HV.out _).mono ?_; rintro e w1 ⟨rfl, hb1⟩; obtain ⟨hc1, hf1⟩ := bcell hb1; have hz1 : w.heap.size < w1.heap.size := by have := hb1.size; simp at this; omega)
    go_returns
    refine ⟨?_, ((Below.refl _ _).alloc (Nat.le_refl _) _).trans (hb1.mono (by simp))⟩
    first | (simp [lowF, HV.out]; done) | (have := validF_n HV.out; simp [lowF, HV.out, Int.tmod_eq_emod_of_nonneg this.1])
theorem high_reg (c n : Int) (w : World) :
    Calls Tryd.prog 45 #[.agg #[.int .i64 c, .int .i64 n]] w fun e w' => e = .returned (.int .i64 (highF c n)) ∧ Below w.heap.size w w' := by
  cases hv : validF c n
  all_goals
    have HV := hid hv
    go_enter Tryd.func45, Tryd.ntmps45
    go_wp2_with (go_at_call 64; refine (valid_of HV.out _).mono ?_; rintro e w1 ⟨rfl, hb1⟩; obtain ⟨hc1, hf1⟩ := bcell hb1; have hz1 : w.heap.size < w1.heap.size := by have := hb1.size; simp at this; omega)
    go_returns
    refine ⟨?_, ((Below.refl _ _).alloc (Nat.le_refl _) _).trans (hb1.mono (by simp))⟩
    first | (simp [highF, HV.out]; done) | (have := validF_n HV.out; simp [highF, HV.out, Int.tdiv_eq_ediv_of_nonneg this.1]; exact IntWalk.wrap64_in _ ⟨by omega, by omega⟩)
theorem rlow_reg (c n : Int) (w : World) :
    Calls Tryd.prog 29 #[.agg #[.int .i64 c, .int .i64 n]] w fun e w' => e = .returned (.int .i64 (lowF c n)) ∧ Below w.heap.size w w' := by
  cases hv : validF c n
  all_goals
    have HV := hid hv
    go_enter Tryd.func29, Tryd.ntmps29
    go_wp2_with (go_at_call 51; refine (rvalid_of HV.out _).mono ?_; rintro e w1 ⟨rfl, hb1⟩; obtain ⟨hc1, hf1⟩ := bcell hb1; have hz1 : w.heap.size < w1.heap.size := by have := hb1.size; simp at this; omega)
    go_returns
    refine ⟨?_, ((Below.refl _ _).alloc (Nat.le_refl _) _).trans (hb1.mono (by simp))⟩
    first | (simp [lowF, HV.out]; done) | (have := validF_n HV.out; simp [lowF, HV.out, Int.tmod_eq_emod_of_nonneg this.1])
theorem rhigh_reg (c n : Int) (w : World) :
    Calls Tryd.prog 30 #[.agg #[.int .i64 c, .int .i64 n]] w fun e w' => e = .returned (.int .i64 (highF c n)) ∧ Below w.heap.size w w' := by
  cases hv : validF c n
  all_goals
    have HV := hid hv
    go_enter Tryd.func30, Tryd.ntmps30
    go_wp2_with (go_at_call 51; refine (rvalid_of HV.out _).mono ?_; rintro e w1 ⟨rfl, hb1⟩; obtain ⟨hc1, hf1⟩ := bcell hb1; have hz1 : w.heap.size < w1.heap.size := by have := hb1.size; simp at this; omega)
    go_returns
    refine ⟨?_, ((Below.refl _ _).alloc (Nat.le_refl _) _).trans (hb1.mono (by simp))⟩
    first | (simp [highF, HV.out]; done) | (have := validF_n HV.out; simp [highF, HV.out, Int.tdiv_eq_ediv_of_nonneg this.1]; exact IntWalk.wrap64_in _ ⟨by omega, by omega⟩)
end Go.Proofs.YtiiepdgpnnjpiaaDoor
end
