/-
  Operands, plainly: which may be; the program's Check and the document's.
-/
import Derived.Test.YtmlmdbholakioaaOwn
import Derived.Test.YtmlmdbholakioaaCanonAll
namespace Go.Proofs.Ytmlmdbholakioaa
open Go.RowKit

/-- An operand: its kind, its register, its place, its number. -/
structure Ar where
  k : Int
  rc : Int
  rn : Int
  m : Pl
  n : Int
abbrev AV (a : Ar) : Value := .agg #[.int .i64 a.k, .int .i64 a.rc, .int .i64 a.rn, .int .i64 a.m.bc, .int .i64 a.m.bn, .int .i64 a.m.ic, .int .i64 a.m.ix, .int .i64 a.m.s, .int .i64 a.m.d, .int .i64 a.m.z, .int .i64 a.n]
def argF (a : Ar) : Int :=
  if a.k = 1 then (if validF a.rc a.rn = true ∧ ¬ a.rc = 8 then 0 else 2) else if a.k = 2 then checkF a.m else if a.k = 3 then 0 else if a.k = 4 then (if a.n < -2147483648 ∨ 2147483647 < a.n then 5 else 0) else 2
theorem rvalid_of {c n : Int} {b : Bool} (h : validF c n = b) (w : World) :
    Calls Try.prog 57 #[.agg #[.int .i64 c, .int .i64 n]] w fun e w' => e = .returned (.bool b) ∧ Below w.heap.size w w' := by
  have := rvalid_any c n w
  rw [h] at this
  exact this
theorem canon_of {bc bn ic ix s d z : Int} {p : Pl} {k : Int} (hx : outF ⟨bc, bn, ic, ix, s, d, z⟩ = p) (hk : checkF ⟨bc, bn, ic, ix, s, d, z⟩ = k) (hs : I64 s) (w : World) :
    Calls Try.prog 49 #[.agg #[.int .i64 bc, .int .i64 bn, .int .i64 ic, .int .i64 ix, .int .i64 s, .int .i64 d, .int .i64 z]] w fun e w' => e = .returned (.tuple #[MV p, .int .i64 k]) ∧ Below w.heap.size w w' := by
  have := canon_any bc bn ic ix s d z hs w
  rw [hx, hk] at this
  exact this
theorem rcanon_of {bc bn ic ix s d z : Int} {p : Pl} {k : Int} (hx : outF ⟨bc, bn, ic, ix, s, d, z⟩ = p) (hk : checkF ⟨bc, bn, ic, ix, s, d, z⟩ = k) (w : World) :
    Calls Try.prog 52 #[.agg #[.int .i64 bc, .int .i64 bn, .int .i64 ic, .int .i64 ix, .int .i64 s, .int .i64 d, .int .i64 z]] w fun e w' => e = .returned (.tuple #[MV p, .int .i64 k]) ∧ Below w.heap.size w w' := by
  have := rcanon_any bc bn ic ix s d z w
  rw [hx, hk] at this
  exact this
theorem acheck_reg (rc rn bc bn ic ix s d z n : Int) (v : Bool) (e' : Int) (HV : Hid (validF rc rn = v)) (HE : Hid ((if v = true ∧ ¬ rc = 8 then 0 else 2) = e')) (w : World) :
    Calls Try.prog 41 #[.agg #[.int .i64 1, .int .i64 rc, .int .i64 rn, .int .i64 bc, .int .i64 bn, .int .i64 ic, .int .i64 ix, .int .i64 s, .int .i64 d, .int .i64 z, .int .i64 n]] w fun e w' => e = .returned (.int .i64 e') ∧ Below w.heap.size w w' := by
  cases v
  · go_enter Try.func41, Try.ntmps41
    go_wp2_with (go_at_call 55; refine (valid_of HV.out _).mono ?_; rintro e w1 ⟨rfl, hb1⟩; have HO := hid (((Own.nil w).alloc w.heap.size #[.int .i64 1, .int .i64 rc, .int .i64 rn, .int .i64 bc, .int .i64 bn, .int .i64 ic, .int .i64 ix, .int .i64 s, .int .i64 d, .int .i64 z, .int .i64 n] 42 rfl).call hb1); clear hb1; have c0 := HO.out.c; have z0 := HO.out.z; have HB := hid HO.out.below)
    go_returns
    exact ⟨by rw [← HE.out]; simp, HB.out⟩
  · go_enter Try.func41, Try.ntmps41
    go_wp2_with (go_at_call 55; refine (valid_of HV.out _).mono ?_; rintro e w1 ⟨rfl, hb1⟩; have HO := hid (((Own.nil w).alloc w.heap.size #[.int .i64 1, .int .i64 rc, .int .i64 rn, .int .i64 bc, .int .i64 bn, .int .i64 ic, .int .i64 ix, .int .i64 s, .int .i64 d, .int .i64 z, .int .i64 n] 42 rfl).call hb1); clear hb1; have c0 := HO.out.c; have z0 := HO.out.z; have HB := hid HO.out.below)
    all_goals
      go_returns
      exact ⟨by rw [← HE.out]; clear HE c0; simp_all, HB.out⟩
theorem acheck_mem (rc rn bc bn ic ix s d z n : Int) (HS : Hid (I64 s)) (k' : Int) (HK : Hid (checkF ⟨bc, bn, ic, ix, s, d, z⟩ = k')) (w : World) :
    Calls Try.prog 41 #[.agg #[.int .i64 2, .int .i64 rc, .int .i64 rn, .int .i64 bc, .int .i64 bn, .int .i64 ic, .int .i64 ix, .int .i64 s, .int .i64 d, .int .i64 z, .int .i64 n]] w fun e w' => e = .returned (.int .i64 k') ∧ Below w.heap.size w w' := by
  go_enter Try.func41, Try.ntmps41
  go_wp2_with (go_at_call 56; refine (check_of HK.out HS.out _).mono ?_; rintro e w1 ⟨rfl, hb1⟩; have HO := hid (((Own.nil w).alloc w.heap.size #[.int .i64 2, .int .i64 rc, .int .i64 rn, .int .i64 bc, .int .i64 bn, .int .i64 ic, .int .i64 ix, .int .i64 s, .int .i64 d, .int .i64 z, .int .i64 n] 42 rfl).call hb1); clear hb1; have c0 := HO.out.c; have z0 := HO.out.z; have HB := hid HO.out.below)
  go_returns
  exact ⟨rfl, HB.out⟩
theorem acheck_rest (k rc rn bc bn ic ix s d z n : Int) (e' : Int) (h1 : ¬ k = 1) (h2 : ¬ k = 2) (HE : Hid ((if k = 3 then 0 else if k = 4 then (if n < -2147483648 ∨ 2147483647 < n then 5 else 0) else 2) = e')) (w : World) :
    Calls Try.prog 41 #[.agg #[.int .i64 k, .int .i64 rc, .int .i64 rn, .int .i64 bc, .int .i64 bn, .int .i64 ic, .int .i64 ix, .int .i64 s, .int .i64 d, .int .i64 z, .int .i64 n]] w fun e w' => e = .returned (.int .i64 e') ∧ Below w.heap.size w w' := by
  by_cases h3 : k = 3
  · subst h3
    go_enter Try.func41, Try.ntmps41
    go_wp2_with fail
    go_returns
    exact ⟨by rw [← HE.out]; rfl, by go_grown⟩
  · by_cases h4 : k = 4
    · subst h4
      rcases show n < -2147483648 ∨ 2147483647 < n ∨ (-2147483648 ≤ n ∧ n ≤ 2147483647) by omega with h5 | h5 | ⟨h5, h6⟩
      all_goals
        go_enter Try.func41, Try.ntmps41
        go_wp2_with fail
        go_returns
        exact ⟨by rw [← HE.out]; simp; try omega, by go_grown⟩
    · go_enter Try.func41, Try.ntmps41
      go_wp2_with fail
      go_returns
      exact ⟨by rw [← HE.out]; simp [h3, h4], by go_grown⟩
theorem acheck_of {k rc rn bc bn ic ix s d z n : Int} {e' : Int} (h : argF ⟨k, rc, rn, ⟨bc, bn, ic, ix, s, d, z⟩, n⟩ = e') (hs : I64 s) (w : World) :
    Calls Try.prog 41 #[.agg #[.int .i64 k, .int .i64 rc, .int .i64 rn, .int .i64 bc, .int .i64 bn, .int .i64 ic, .int .i64 ix, .int .i64 s, .int .i64 d, .int .i64 z, .int .i64 n]] w fun e w' => e = .returned (.int .i64 e') ∧ Below w.heap.size w w' := by
  subst h
  unfold argF
  by_cases h1 : k = 1
  · subst h1
    rw [if_pos rfl]
    exact acheck_reg _ _ _ _ _ _ _ _ _ _ _ _ (hid rfl) (hid rfl) w
  · rw [if_neg h1]
    by_cases h2 : k = 2
    · subst h2
      rw [if_pos rfl]
      exact acheck_mem _ _ _ _ _ _ _ _ _ _ (hid hs) _ (hid rfl) w
    · rw [if_neg h2]
      exact acheck_rest _ _ _ _ _ _ _ _ _ _ _ _ h1 h2 (hid rfl) w
theorem racheck_reg (rc rn bc bn ic ix s d z n : Int) (v : Bool) (e' : Int) (HV : Hid (validF rc rn = v)) (HE : Hid ((if v = true ∧ ¬ rc = 8 then 0 else 2) = e')) (w : World) :
    Calls Try.prog 42 #[.agg #[.int .i64 1, .int .i64 rc, .int .i64 rn, .int .i64 bc, .int .i64 bn, .int .i64 ic, .int .i64 ix, .int .i64 s, .int .i64 d, .int .i64 z, .int .i64 n]] w fun e w' => e = .returned (.int .i64 e') ∧ Below w.heap.size w w' := by
  cases v
  · go_enter Try.func42, Try.ntmps42
    go_wp2_with (go_at_call 57; refine (rvalid_of HV.out _).mono ?_; rintro e w1 ⟨rfl, hb1⟩; have HO := hid (((Own.nil w).alloc w.heap.size #[.int .i64 1, .int .i64 rc, .int .i64 rn, .int .i64 bc, .int .i64 bn, .int .i64 ic, .int .i64 ix, .int .i64 s, .int .i64 d, .int .i64 z, .int .i64 n] 42 rfl).call hb1); clear hb1; have c0 := HO.out.c; have z0 := HO.out.z; have HB := hid HO.out.below)
    go_returns
    exact ⟨by rw [← HE.out]; simp, HB.out⟩
  · go_enter Try.func42, Try.ntmps42
    go_wp2_with (go_at_call 57; refine (rvalid_of HV.out _).mono ?_; rintro e w1 ⟨rfl, hb1⟩; have HO := hid (((Own.nil w).alloc w.heap.size #[.int .i64 1, .int .i64 rc, .int .i64 rn, .int .i64 bc, .int .i64 bn, .int .i64 ic, .int .i64 ix, .int .i64 s, .int .i64 d, .int .i64 z, .int .i64 n] 42 rfl).call hb1); clear hb1; have c0 := HO.out.c; have z0 := HO.out.z; have HB := hid HO.out.below)
    all_goals
      go_returns
      exact ⟨by rw [← HE.out]; clear HE c0; simp_all, HB.out⟩
theorem racheck_mem (rc rn bc bn ic ix s d z n : Int) (k' : Int) (HK : Hid (checkF ⟨bc, bn, ic, ix, s, d, z⟩ = k')) (w : World) :
    Calls Try.prog 42 #[.agg #[.int .i64 2, .int .i64 rc, .int .i64 rn, .int .i64 bc, .int .i64 bn, .int .i64 ic, .int .i64 ix, .int .i64 s, .int .i64 d, .int .i64 z, .int .i64 n]] w fun e w' => e = .returned (.int .i64 k') ∧ Below w.heap.size w w' := by
  go_enter Try.func42, Try.ntmps42
  go_wp2_with (go_at_call 58; refine (rcheck_of HK.out _).mono ?_; rintro e w1 ⟨rfl, hb1⟩; have HO := hid (((Own.nil w).alloc w.heap.size #[.int .i64 2, .int .i64 rc, .int .i64 rn, .int .i64 bc, .int .i64 bn, .int .i64 ic, .int .i64 ix, .int .i64 s, .int .i64 d, .int .i64 z, .int .i64 n] 42 rfl).call hb1); clear hb1; have c0 := HO.out.c; have z0 := HO.out.z; have HB := hid HO.out.below)
  go_returns
  exact ⟨rfl, HB.out⟩
theorem racheck_rest (k rc rn bc bn ic ix s d z n : Int) (e' : Int) (h1 : ¬ k = 1) (h2 : ¬ k = 2) (HE : Hid ((if k = 3 then 0 else if k = 4 then (if n < -2147483648 ∨ 2147483647 < n then 5 else 0) else 2) = e')) (w : World) :
    Calls Try.prog 42 #[.agg #[.int .i64 k, .int .i64 rc, .int .i64 rn, .int .i64 bc, .int .i64 bn, .int .i64 ic, .int .i64 ix, .int .i64 s, .int .i64 d, .int .i64 z, .int .i64 n]] w fun e w' => e = .returned (.int .i64 e') ∧ Below w.heap.size w w' := by
  by_cases h3 : k = 3
  · subst h3
    go_enter Try.func42, Try.ntmps42
    go_wp2_with fail
    go_returns
    exact ⟨by rw [← HE.out]; rfl, by go_grown⟩
  · by_cases h4 : k = 4
    · subst h4
      rcases show n < -2147483648 ∨ 2147483647 < n ∨ (-2147483648 ≤ n ∧ n ≤ 2147483647) by omega with h5 | h5 | ⟨h5, h6⟩
      all_goals
        go_enter Try.func42, Try.ntmps42
        go_wp2_with fail
        go_returns
        exact ⟨by rw [← HE.out]; simp; try omega, by go_grown⟩
    · go_enter Try.func42, Try.ntmps42
      go_wp2_with fail
      go_returns
      exact ⟨by rw [← HE.out]; simp [h3, h4], by go_grown⟩
theorem racheck_of {k rc rn bc bn ic ix s d z n : Int} {e' : Int} (h : argF ⟨k, rc, rn, ⟨bc, bn, ic, ix, s, d, z⟩, n⟩ = e') (w : World) :
    Calls Try.prog 42 #[.agg #[.int .i64 k, .int .i64 rc, .int .i64 rn, .int .i64 bc, .int .i64 bn, .int .i64 ic, .int .i64 ix, .int .i64 s, .int .i64 d, .int .i64 z, .int .i64 n]] w fun e w' => e = .returned (.int .i64 e') ∧ Below w.heap.size w w' := by
  subst h
  unfold argF
  by_cases h1 : k = 1
  · subst h1
    rw [if_pos rfl]
    exact racheck_reg _ _ _ _ _ _ _ _ _ _ _ _ (hid rfl) (hid rfl) w
  · rw [if_neg h1]
    by_cases h2 : k = 2
    · subst h2
      rw [if_pos rfl]
      exact racheck_mem _ _ _ _ _ _ _ _ _ _ _ (hid rfl) w
    · rw [if_neg h2]
      exact racheck_rest _ _ _ _ _ _ _ _ _ _ _ _ h1 h2 (hid rfl) w
end Go.Proofs.Ytmlmdbholakioaa
