/-
  Two lists of operands held against each other: slices.Equal, the document's same, the kit's SameArgs and SameInst.
-/
import Derived.Test.YtmlmdbholakioaaInstRows
import Derived.BigQuiet
import Derived.Laws.StructEq
namespace Go.Proofs.Ytmlmdbholakioaa
open Go.RowKit

def eqB (p q : Ar) : Bool := p.k == q.k && p.rc == q.rc && p.rn == q.rn && p.m.bc == q.m.bc && p.m.bn == q.m.bn && p.m.ic == q.m.ic && p.m.ix == q.m.ix && p.m.s == q.m.s && p.m.d == q.m.d && p.m.z == q.m.z && p.n == q.n
theorem eqB_iff {p q : Ar} : eqB p q = true ↔ p = q := by
  obtain ⟨k, rc, rn, ⟨bc, bn, ic, ix, s, d, z⟩, n⟩ := p
  obtain ⟨k', rc', rn', ⟨bc', bn', ic', ix', s', d', z'⟩, n'⟩ := q
  simp [eqB, and_assoc]
def eqL : List Ar → List Ar → Bool
  | [], [] => true
  | a :: r, b :: s => eqB a b && eqL r s
  | _, _ => false
theorem eqL_iff {l r : List Ar} : eqL l r = true ↔ l = r := by
  induction l generalizing r with
  | nil => cases r <;> simp [eqL]
  | cons a l ih => cases r with
    | nil => simp [eqL]
    | cons b r => simp [eqL, eqB_iff, ih]
theorem eqL_length {l r : List Ar} (h : l.length ≠ r.length) : eqL l r = false := by
  cases he : eqL l r
  · rfl
  · exact absurd (congrArg List.length (eqL_iff.1 he)) h
theorem eqL_at {l r : List Ar} {k : Nat} {a b : Ar} (ha : l[k]? = some a) (hb : r[k]? = some b) : eqL (l.drop k) (r.drop k) = (eqB a b && eqL (l.drop (k + 1)) (r.drop (k + 1))) := by
  rw [drop_at ha, drop_at hb]; rfl
theorem run_eq_reg (a b c d : Int) (n : Nat) (w : World) : (Op.equalIn (n + 4) 38 (.agg #[.int .i64 a, .int .i64 b]) (.agg #[.int .i64 c, .int .i64 d])).run Try.prog w = .ok (a == c && b == d) w := by
  cases h1 : (a == c)
  · simp [go_sem, *]
  · cases h2 : (b == d)
    all_goals simp [go_sem, *]
set_option maxHeartbeats 1000000 in
theorem run_eq_mem (p q : Pl) (n : Nat) (w : World) : (Op.equalIn (n + 6) 40 (.agg #[.int .i64 p.bc, .int .i64 p.bn, .int .i64 p.ic, .int .i64 p.ix, .int .i64 p.s, .int .i64 p.d, .int .i64 p.z]) (.agg #[.int .i64 q.bc, .int .i64 q.bn, .int .i64 q.ic, .int .i64 q.ix, .int .i64 q.s, .int .i64 q.d, .int .i64 q.z])).run Try.prog w = .ok ((p.bc == q.bc && p.bn == q.bn) && (p.ic == q.ic && p.ix == q.ix) && p.s == q.s && p.d == q.d && p.z == q.z) w := by
  have hr := run_eq_reg
  rw [run_equalIn_agg _ _ _ _ _ (by kernel_rfl) (by kernel_rfl)]
  simp only [Program.fieldsOf, Try.underlying40]
  cases h0 : (p.bc == q.bc && p.bn == q.bn)
  · simp [go_sem, Op.eqFields, hr, h0]
  ·
    cases h1 : (p.ic == q.ic && p.ix == q.ix)
    · simp [go_sem, Op.eqFields, hr, h0, h1]
    ·
      cases h2 : (p.s == q.s)
      · simp [go_sem, Op.eqFields, hr, h0, h1, h2]
      ·
        cases h3 : (p.d == q.d)
        · simp [go_sem, Op.eqFields, hr, h0, h1, h2, h3]
        ·
          cases h4 : (p.z == q.z)
          · simp [go_sem, Op.eqFields, hr, h0, h1, h2, h3, h4]
          · simp [go_sem, Op.eqFields, hr, h0, h1, h2, h3, h4]
set_option maxHeartbeats 1000000 in
theorem run_eq_arg (p q : Ar) (n : Nat) (w : World) : (Op.equalIn (n + 8) 42 (.agg #[.int .i64 p.k, .int .i64 p.rc, .int .i64 p.rn, .int .i64 p.m.bc, .int .i64 p.m.bn, .int .i64 p.m.ic, .int .i64 p.m.ix, .int .i64 p.m.s, .int .i64 p.m.d, .int .i64 p.m.z, .int .i64 p.n]) (.agg #[.int .i64 q.k, .int .i64 q.rc, .int .i64 q.rn, .int .i64 q.m.bc, .int .i64 q.m.bn, .int .i64 q.m.ic, .int .i64 q.m.ix, .int .i64 q.m.s, .int .i64 q.m.d, .int .i64 q.m.z, .int .i64 q.n])).run Try.prog w = .ok (p.k == q.k && (p.rc == q.rc && p.rn == q.rn) && ((p.m.bc == q.m.bc && p.m.bn == q.m.bn) && (p.m.ic == q.m.ic && p.m.ix == q.m.ix) && p.m.s == q.m.s && p.m.d == q.m.d && p.m.z == q.m.z) && p.n == q.n) w := by
  have hr := run_eq_reg
  have hm := run_eq_mem p.m q.m
  rw [run_equalIn_agg _ _ _ _ _ (by kernel_rfl) (by kernel_rfl)]
  simp only [Program.fieldsOf, Try.underlying42]
  cases h0 : (p.k == q.k)
  · simp [go_sem, Op.eqFields, hr, hm, h0]
  ·
    cases h1 : (p.rc == q.rc && p.rn == q.rn)
    · simp [go_sem, Op.eqFields, hr, hm, h0, h1]
    ·
      cases h2 : ((p.m.bc == q.m.bc && p.m.bn == q.m.bn) && (p.m.ic == q.m.ic && p.m.ix == q.m.ix) && p.m.s == q.m.s && p.m.d == q.m.d && p.m.z == q.m.z)
      · simp [go_sem, Op.eqFields, hr, hm, h0, h1, h2]
      ·
        cases h3 : (p.n == q.n)
        · simp [go_sem, Op.eqFields, hr, hm, h0, h1, h2, h3]
        · simp [go_sem, Op.eqFields, hr, hm, h0, h1, h2, h3]
theorem run_neq_arg {p q : Ar} {v : Bool} (h : eqB p q = v) (w : World) : (binOp .neq 42 (.agg #[.int .i64 p.k, .int .i64 p.rc, .int .i64 p.rn, .int .i64 p.m.bc, .int .i64 p.m.bn, .int .i64 p.m.ic, .int .i64 p.m.ix, .int .i64 p.m.s, .int .i64 p.m.d, .int .i64 p.m.z, .int .i64 p.n]) (.agg #[.int .i64 q.k, .int .i64 q.rc, .int .i64 q.rn, .int .i64 q.m.bc, .int .i64 q.m.bn, .int .i64 q.m.ic, .int .i64 q.m.ix, .int .i64 q.m.s, .int .i64 q.m.d, .int .i64 q.m.z, .int .i64 q.n])).run Try.prog w = .ok (.bool (!v)) w := by
  rw [run_neq_struct, run_eq_arg p q 9992 w, ← h]
  simp only [Result.andThen_ok, eqB, Bool.and_assoc]
/-! ### the loops -/
set_option maxHeartbeats 2000000 in
theorem equal_n (A A' : Option Addr) (n c c' : Nat) (l r : List Ar) (hl : l.length = n) (hr : r.length = n) (h9 : n ≤ 9) (w : World) (hA : Args w w.heap.size A l) (hB : Args w w.heap.size A' r) :
    Calls Try.prog 45 #[.slice A n c, .slice A' n c'] w fun e w' => e = .returned (.bool (eqL l r)) ∧ Below w.heap.size w w' := by
  have HA := hid hA
  have HB := hid hB
  have HL := hid hl
  have HR := hid hr
  have HE := hid (show eqL (l.drop n) (r.drop n) = true by rw [List.drop_of_length_le (by omega), List.drop_of_length_le (by omega)]; rfl)
  have HW := hid (Below.refl w.heap.size w)
  clear hA hB hl hr
  go_enter Try.func45, Try.ntmps45
  go_wp2
  go_loopw [13] (fun i wr => ∃ k : Nat, k ≤ n ∧ i = .int .i64 k ∧ Hid (eqL (l.drop k) (r.drop k) = eqL l r) ∧ Hid (Below w.heap.size w wr)) (fun i _ => n - (intOf i).toNat)
  case atStart => exact ⟨0, by omega, rfl, hid rfl, HW⟩
  case round =>
    clear HW
    obtain ⟨k, hk, rfl, HQ, HW⟩ := hrel
    by_cases hlt : k < n
    · obtain ⟨a, ha⟩ : ∃ a, l[k]? = some a := ⟨_, List.getElem?_eq_getElem (by have := HL.out; omega)⟩
      obtain ⟨b, hb⟩ : ∃ b, r[k]? = some b := ⟨_, List.getElem?_eq_getElem (by have := HR.out; omega)⟩
      rcases HA.out.below HW.out with h0 | ⟨b1, o1, rfl, hb1, hc1⟩
      · rw [h0] at ha; simp at ha
      rcases HB.out.below HW.out with h0 | ⟨b2, o2, rfl, hb2, hc2⟩
      · rw [h0] at hb; simp at hb
      obtain ⟨p0, p1, p2, p3, p4, p5, p6, p7, p8, p9, p10⟩ := args_cells hc1 ha
      obtain ⟨q0, q1, q2, q3, q4, q5, q6, q7, q8, q9, q10⟩ := args_cells hc2 hb
      have HS := hid (eqL_at ha hb)
      clear hc1 hc2 ha hb
      cases hab : eqB a b
      · have hcmp := run_neq_arg hab
        have HM := hid (show eqL l r = false by rw [← HQ.out, HS.out, hab]; rfl)
        clear hab
        go_wp2
        go_quiet (fail)
        go_wp2
        go_ret
        exact ⟨ret_b HM.out.symm, bdrewN HW.out _⟩
      · have hcmp := run_neq_arg hab
        have HM := hid (show eqL (l.drop (k + 1)) (r.drop (k + 1)) = eqL l r by rw [← HQ.out, HS.out, hab]; rfl)
        clear hab
        go_wp2
        go_quiet (fail)
        go_wp2
        go_roundw
        case rel => exact ⟨k + 1, by omega, by go_num, HM, hid (bdrewN HW.out _)⟩
        case measure => simp [intOf]; omega
    · have hkn : k = n := by omega
      have HM := hid (show eqL l r = true by rw [← HQ.out, hkn, HE.out])
      go_wp2
      go_ret
      exact ⟨ret_b HM.out.symm, HW.out⟩
theorem equal_ne (A A' : Option Addr) (n n' c c' : Nat) (h : n ≠ n') (w : World) :
    Calls Try.prog 45 #[.slice A n c, .slice A' n' c'] w fun e w' => e = .returned (.bool false) ∧ Below w.heap.size w w' := by
  have hx : ((n : Int) != n') = true := by rw [bne_iff_ne]; omega
  go_enter Try.func45, Try.ntmps45
  go_wp2
  go_ret
  exact ⟨rfl, Below.refl _ _⟩
theorem equal_of {A A' : Option Addr} {n n' c c' : Nat} {l r : List Ar} {v : Bool} (hv : eqL l r = v) (hl : l.length = n) (hr : r.length = n') (h9 : n ≤ 9) (w : World) (hA : Args w w.heap.size A l) (hB : Args w w.heap.size A' r) :
    Calls Try.prog 45 #[.slice A n c, .slice A' n' c'] w fun e w' => e = .returned (.bool v) ∧ Below w.heap.size w w' := by
  subst hv
  by_cases hn : n = n'
  · subst hn
    exact equal_n A A' n c c' l r hl hr h9 w hA hB
  · rw [eqL_length (by omega)]
    exact equal_ne A A' n n' c c' hn w
set_option maxHeartbeats 2000000 in
theorem sameArgs_n (A A' : Option Addr) (n c c' : Nat) (l r : List Ar) (hl : l.length = n) (hr : r.length = n) (h9 : n ≤ 9) (w : World) (hA : Args w w.heap.size A l) (hB : Args w w.heap.size A' r) :
    Calls Try.prog 44 #[.slice A n c, .slice A' n c'] w fun e w' => e = .returned (.bool (eqL l r)) ∧ Below w.heap.size w w' := by
  have HA := hid hA
  have HB := hid hB
  have HL := hid hl
  have HR := hid hr
  have HE := hid (show eqL (l.drop n) (r.drop n) = true by rw [List.drop_of_length_le (by omega), List.drop_of_length_le (by omega)]; rfl)
  have HW := hid (Below.refl w.heap.size w)
  clear hA hB hl hr
  go_enter Try.func44, Try.ntmps44
  go_wp2
  go_loopw [5] (fun i wr => ∃ k : Nat, k ≤ n ∧ i = .int .i64 k ∧ Hid (eqL (l.drop k) (r.drop k) = eqL l r) ∧ Hid (Below w.heap.size w wr)) (fun i _ => n - (intOf i).toNat)
  case atStart => exact ⟨0, by omega, rfl, hid rfl, HW⟩
  case round =>
    clear HW
    obtain ⟨k, hk, rfl, HQ, HW⟩ := hrel
    by_cases hlt : k < n
    · obtain ⟨a, ha⟩ : ∃ a, l[k]? = some a := ⟨_, List.getElem?_eq_getElem (by have := HL.out; omega)⟩
      obtain ⟨b, hb⟩ : ∃ b, r[k]? = some b := ⟨_, List.getElem?_eq_getElem (by have := HR.out; omega)⟩
      rcases HA.out.below HW.out with h0 | ⟨b1, o1, rfl, hb1, hc1⟩
      · rw [h0] at ha; simp at ha
      rcases HB.out.below HW.out with h0 | ⟨b2, o2, rfl, hb2, hc2⟩
      · rw [h0] at hb; simp at hb
      obtain ⟨p0, p1, p2, p3, p4, p5, p6, p7, p8, p9, p10⟩ := args_cells hc1 ha
      obtain ⟨q0, q1, q2, q3, q4, q5, q6, q7, q8, q9, q10⟩ := args_cells hc2 hb
      have HS := hid (eqL_at ha hb)
      clear hc1 hc2 ha hb
      cases hab : eqB a b
      · have hcmp := run_neq_arg hab
        have HM := hid (show eqL l r = false by rw [← HQ.out, HS.out, hab]; rfl)
        clear hab
        go_wp2
        go_quiet (fail)
        go_wp2
        go_ret
        exact ⟨ret_b HM.out.symm, bdrewN HW.out _⟩
      · have hcmp := run_neq_arg hab
        have HM := hid (show eqL (l.drop (k + 1)) (r.drop (k + 1)) = eqL l r by rw [← HQ.out, HS.out, hab]; rfl)
        clear hab
        go_wp2
        go_quiet (fail)
        go_wp2
        go_roundw
        case rel => exact ⟨k + 1, by omega, by go_num, HM, hid (bdrewN HW.out _)⟩
        case measure => simp [intOf]; omega
    · have hkn : k = n := by omega
      have HM := hid (show eqL l r = true by rw [← HQ.out, hkn, HE.out])
      go_wp2
      go_ret
      exact ⟨ret_b HM.out.symm, HW.out⟩
theorem sameArgs_ne (A A' : Option Addr) (n n' c c' : Nat) (h : n ≠ n') (w : World) :
    Calls Try.prog 44 #[.slice A n c, .slice A' n' c'] w fun e w' => e = .returned (.bool false) ∧ Below w.heap.size w w' := by
  have hx : ((n : Int) != n') = true := by rw [bne_iff_ne]; omega
  go_enter Try.func44, Try.ntmps44
  go_wp2
  go_ret
  exact ⟨rfl, Below.refl _ _⟩
theorem sameArgs_of {A A' : Option Addr} {n n' c c' : Nat} {l r : List Ar} {v : Bool} (hv : eqL l r = v) (hl : l.length = n) (hr : r.length = n') (h9 : n ≤ 9) (w : World) (hA : Args w w.heap.size A l) (hB : Args w w.heap.size A' r) :
    Calls Try.prog 44 #[.slice A n c, .slice A' n' c'] w fun e w' => e = .returned (.bool v) ∧ Below w.heap.size w w' := by
  subst hv
  by_cases hn : n = n'
  · subst hn
    exact sameArgs_n A A' n c c' l r hl hr h9 w hA hB
  · rw [eqL_length (by omega)]
    exact sameArgs_ne A A' n n' c c' hn w
set_option maxHeartbeats 2000000 in
theorem rsame_n {op : Int} (A A' : Option Addr) (n c c' : Nat) (l r : List Ar) (hl : l.length = n) (hr : r.length = n) (h9 : n ≤ 9) (w : World) (hA : Args w w.heap.size A l) (hB : Args w w.heap.size A' r) :
    Calls Try.prog 46 #[.agg #[.int .i64 op, .slice A n c], .agg #[.int .i64 op, .slice A' n c']] w fun e w' => e = .returned (.bool (eqL l r)) ∧ Below w.heap.size w w' := by
  have HA := hid hA
  have HB := hid hB
  have HL := hid hl
  have HR := hid hr
  have HE := hid (show eqL (l.drop n) (r.drop n) = true by rw [List.drop_of_length_le (by omega), List.drop_of_length_le (by omega)]; rfl)
  have HW := hid (((Own.nil w).alloc w.heap.size #[.int .i64 op, .slice A n c] 24 rfl).alloc (w.heap.size + 1) #[.int .i64 op, .slice A' n c'] 24 (by simp))
  clear hA hB hl hr
  go_enter Try.func46, Try.ntmps46
  go_wp2
  go_loopw [5] (fun i wr => ∃ k : Nat, k ≤ n ∧ i = .int .i64 k ∧ Hid (eqL (l.drop k) (r.drop k) = eqL l r) ∧ Hid (Own w [⟨w.heap.size + 1, #[.int .i64 op, .slice A' n c'], 24⟩, ⟨w.heap.size, #[.int .i64 op, .slice A n c], 24⟩] wr)) (fun i _ => n - (intOf i).toNat)
  case atStart => exact ⟨0, by omega, rfl, hid rfl, HW⟩
  case round =>
    clear HW
    obtain ⟨k, hk, rfl, HQ, HW⟩ := hrel
    have c0 := HW.out.c
    have z0 := HW.out.z
    have c1 := HW.out.tl.c
    have z1 := HW.out.tl.z
    by_cases hlt : k < n
    · obtain ⟨a, ha⟩ : ∃ a, l[k]? = some a := ⟨_, List.getElem?_eq_getElem (by have := HL.out; omega)⟩
      obtain ⟨b, hb⟩ : ∃ b, r[k]? = some b := ⟨_, List.getElem?_eq_getElem (by have := HR.out; omega)⟩
      rcases HA.out.below HW.out.below with h0 | ⟨b1, o1, rfl, hb1, hc1⟩
      · rw [h0] at ha; simp at ha
      rcases HB.out.below HW.out.below with h0 | ⟨b2, o2, rfl, hb2, hc2⟩
      · rw [h0] at hb; simp at hb
      obtain ⟨p0, p1, p2, p3, p4, p5, p6, p7, p8, p9, p10⟩ := args_cells hc1 ha
      obtain ⟨q0, q1, q2, q3, q4, q5, q6, q7, q8, q9, q10⟩ := args_cells hc2 hb
      have HS := hid (eqL_at ha hb)
      clear hc1 hc2 ha hb
      cases hab : eqB a b
      · have hcmp := run_neq_arg hab
        have HM := hid (show eqL l r = false by rw [← HQ.out, HS.out, hab]; rfl)
        clear hab
        go_wp2
        go_quiet (fail)
        go_wp2
        go_ret
        exact ⟨ret_b HM.out.symm, (HW.out.drewN _).below⟩
      · have hcmp := run_neq_arg hab
        have HM := hid (show eqL (l.drop (k + 1)) (r.drop (k + 1)) = eqL l r by rw [← HQ.out, HS.out, hab]; rfl)
        clear hab
        go_wp2
        go_quiet (fail)
        go_wp2
        go_roundw
        case rel => exact ⟨k + 1, by omega, by go_num, HM, hid (HW.out.drewN _)⟩
        case measure => simp [intOf]; omega
    · have hkn : k = n := by omega
      have HM := hid (show eqL l r = true by rw [← HQ.out, hkn, HE.out])
      go_wp2
      go_ret
      exact ⟨ret_b HM.out.symm, HW.out.below⟩
theorem rsame_op {op op' : Int} (A A' : Option Addr) (n n' c c' : Nat) (h : op ≠ op') (w : World) :
    Calls Try.prog 46 #[.agg #[.int .i64 op, .slice A n c], .agg #[.int .i64 op', .slice A' n' c']] w fun e w' => e = .returned (.bool false) ∧ Below w.heap.size w w' := by
  have hx : (op != op') = true := by rw [bne_iff_ne]; exact h
  clear h
  go_enter Try.func46, Try.ntmps46
  go_wp2
  go_ret
  exact ⟨rfl, by go_grown⟩
theorem rsame_ne {op : Int} (A A' : Option Addr) (n n' c c' : Nat) (h : n ≠ n') (w : World) :
    Calls Try.prog 46 #[.agg #[.int .i64 op, .slice A n c], .agg #[.int .i64 op, .slice A' n' c']] w fun e w' => e = .returned (.bool false) ∧ Below w.heap.size w w' := by
  have hx : ((n : Int) != n') = true := by rw [bne_iff_ne]; omega
  go_enter Try.func46, Try.ntmps46
  go_wp2
  go_ret
  exact ⟨rfl, by go_grown⟩
theorem rsame_of {op op' : Int} {A A' : Option Addr} {n n' c c' : Nat} {l r : List Ar} {v : Bool} (hv : ((op == op') && eqL l r) = v) (hl : l.length = n) (hr : r.length = n') (h9 : n ≤ 9) (w : World) (hA : Args w w.heap.size A l) (hB : Args w w.heap.size A' r) :
    Calls Try.prog 46 #[.agg #[.int .i64 op, .slice A n c], .agg #[.int .i64 op', .slice A' n' c']] w fun e w' => e = .returned (.bool v) ∧ Below w.heap.size w w' := by
  subst hv
  by_cases ho : op = op'
  · subst ho
    simp only [beq_self_eq_true, Bool.true_and]
    by_cases hn : n = n'
    · subst hn
      exact rsame_n A A' n c c' l r hl hr h9 w hA hB
    · rw [eqL_length (by omega)]
      exact rsame_ne A A' n n' c c' hn w
  · rw [beq_eq_false_iff_ne.2 ho]
    exact rsame_op A A' n n' c c' ho w
/-! ### the kit's SameInst -/
theorem sameInst_op {op op' : Int} (A A' : Option Addr) (n n' c c' : Nat) (h : (op == op') = false) (w : World) :
    Calls Try.prog 14 #[.agg #[.int .i64 op, .slice A n c], .agg #[.int .i64 op', .slice A' n' c']] w fun e w' => e = .returned (.bool false) ∧ Below w.heap.size w w' := by
  go_enter Try.func14, Try.ntmps14
  go_wp2
  go_ret
  exact ⟨rfl, by go_grown⟩
theorem sameInst_args {op : Int} {A A' : Option Addr} {n n' c c' : Nat} {l r : List Ar} (hl : l.length = n) (hr : r.length = n') (h9 : n ≤ 9) (w : World) (hA : Args w w.heap.size A l) (hB : Args w w.heap.size A' r) :
    Calls Try.prog 14 #[.agg #[.int .i64 op, .slice A n c], .agg #[.int .i64 op, .slice A' n' c']] w fun e w' => e = .returned (.bool (eqL l r)) ∧ Below w.heap.size w w' := by
  have HA := hid (hA.call (two_alloc w (.cells #[.int .i64 op, .slice A n c] 24) (.cells #[.int .i64 op, .slice A' n' c'] 24)))
  have HB := hid (hB.call (two_alloc w (.cells #[.int .i64 op, .slice A n c] 24) (.cells #[.int .i64 op, .slice A' n' c'] 24)))
  have HL := hid hl
  have HR := hid hr
  clear hA hB hl hr
  go_enter Try.func14, Try.ntmps14
  go_wp2_with fail
  refine (sameArgs_of (v := eqL l r) rfl HL.out HR.out h9 _ HA.out HB.out).mono ?_
  rintro e w1 ⟨rfl, hb1⟩
  have HW := hid ((two_alloc w (.cells #[.int .i64 op, .slice A n c] 24) (.cells #[.int .i64 op, .slice A' n' c'] 24)).trans (hb1.mono (two_alloc w (.cells #[.int .i64 op, .slice A n c] 24) (.cells #[.int .i64 op, .slice A' n' c'] 24)).size))
  clear hb1
  go_wp2_with fail
  go_ret
  exact ⟨rfl, HW.out⟩
theorem sameInst_of {op op' : Int} {A A' : Option Addr} {n n' c c' : Nat} {l r : List Ar} {v : Bool} (hv : ((op == op') && eqL l r) = v) (hl : l.length = n) (hr : r.length = n') (h9 : n ≤ 9) (w : World) (hA : Args w w.heap.size A l) (hB : Args w w.heap.size A' r) :
    Calls Try.prog 14 #[.agg #[.int .i64 op, .slice A n c], .agg #[.int .i64 op', .slice A' n' c']] w fun e w' => e = .returned (.bool v) ∧ Below w.heap.size w w' := by
  subst hv
  cases ho : (op == op')
  · exact sameInst_op A A' n n' c c' ho w
  · obtain rfl : op = op' := by simpa using ho
    exact sameInst_args hl hr h9 w hA hB
end Go.Proofs.Ytmlmdbholakioaa
