/-
  How many bits an instruction's immediate has, whether it is signed: Bits of both sides; the program's number.
-/
import Derived.Test.YtmlmdbholakioaaInsts
namespace Go.Proofs.Ytmlmdbholakioaa
open Go.RowKit

def bitsF (op : Int) (l : List Ar) : Int × Bool :=
  if okF op then (if (immG op).1 = 0 then (match l with | [] => (0, false) | a :: _ => if asizeF a = 0 then (0, false) else (8 * asizeF a, (immG op).2)) else immG op) else (0, false)
theorem asizeF_range (a : Ar) : 0 ≤ asizeF a ∧ asizeF a ≤ 32 := by
  unfold asizeF
  split
  · rename_i h
    split
    · unfold sizeF; (repeat' split) <;> decide
    · split
      · rename_i h1 h2
        have hc : checkF a.m = 0 := by simpa [argF, h1, h2] using h
        have := (ok_parts hc).2.1
        simp [sizedF] at this
        omega
      · decide
  · decide
theorem immG_bits (op : Int) (h : okF op = true) : (immG op).1 = 0 ∧ immG op = (0, true) ∨ 0 < (immG op).1 := by
  unfold immG
  rw [if_pos h]
  (repeat' split) <;> simp
theorem imm7_of {n : Int} {b : Int} {s : Bool} (h : immG n = (b, s)) (w : World) :
    Calls Try.prog 35 #[.int .i64 n] w fun e w' => e = .returned (.tuple #[.int .i64 b, .bool s]) ∧ w = w' := by
  have := imm7_any n w
  rw [h] at this
  exact this
theorem rimm7_of {n : Int} {b : Int} {s : Bool} (h : immG n = (b, s)) (w : World) :
    Calls Try.prog 38 #[.int .i64 n] w fun e w' => e = .returned (.tuple #[.int .i64 b, .bool s]) ∧ w = w' := by
  have := rimm7_any n w
  rw [h] at this
  exact this
abbrev ZV (op : Int) (A : Option Addr) (n c : Nat) : Value := .agg #[.int .i64 op, .slice A n c]
theorem bits_not {op : Int} (HV : Hid (okF op = false)) (A : Option Addr) (n c : Nat) (w : World) :
    Calls Try.prog 10 #[.agg #[.int .i64 op, .slice A n c]] w fun e w' => e = .returned (.tuple #[.int .i64 0, .bool false]) ∧ Below w.heap.size w w' := by
  have HI := hid (show immG op = (0, false) by simp [immG, HV.out])
  go_enter Try.func10, Try.ntmps10
  go_wp2_with (first | (go_at_call 35; refine (imm7_of HI.out _).mono ?_; rintro e w1 ⟨rfl, rfl⟩) | (go_at_call 36; refine (opvalid_of HV.out _).mono ?_; rintro e w1 ⟨rfl, rfl⟩))
  go_returns
  exact ⟨rfl, by go_grown⟩
theorem bits_own {op x : Int} {s : Bool} (HI : Hid (immG op = (x, s))) (h0 : 0 < x) (A : Option Addr) (n c : Nat) (w : World) :
    Calls Try.prog 10 #[.agg #[.int .i64 op, .slice A n c]] w fun e w' => e = .returned (.tuple #[.int .i64 x, .bool s]) ∧ Below w.heap.size w w' := by
  have h1 : (x == 0) = false := by rw [beq_eq_false_iff_ne]; omega
  have h2 : (x != 0) = true := by rw [bne_iff_ne]; omega
  cases s
  all_goals
    go_enter Try.func10, Try.ntmps10
    go_wp2_with (go_at_call 35; refine (imm7_of HI.out _).mono ?_; rintro e w1 ⟨rfl, rfl⟩)
    go_returns
    exact ⟨rfl, by go_grown⟩
theorem bits_none {op : Int} (HV : Hid (okF op = true)) (HI : Hid (immG op = (0, true))) (A : Option Addr) (c : Nat) (w : World) :
    Calls Try.prog 10 #[.agg #[.int .i64 op, .slice A 0 c]] w fun e w' => e = .returned (.tuple #[.int .i64 0, .bool false]) ∧ Below w.heap.size w w' := by
  go_enter Try.func10, Try.ntmps10
  go_wp2_with (first | (go_at_call 35; refine (imm7_of HI.out _).mono ?_; rintro e w1 ⟨rfl, rfl⟩) | (go_at_call 36; refine (opvalid_of HV.out _).mono ?_; rintro e w1 ⟨rfl, rfl⟩))
  go_returns
  exact ⟨rfl, by go_grown⟩
set_option maxHeartbeats 1000000 in
theorem bits_first {op v : Int} {a : Ar} (HV : Hid (okF op = true)) (HI : Hid (immG op = (0, true))) (HZ : Hid (asizeF a = v)) (HS : Hid (I64 a.m.s)) (b off n c : Nat) (hn : 0 < n) (w : World) (hb : b < w.heap.size)
    (h0 : w.cell? ⟨b, off, none⟩ = some (.int .i64 a.k)) (h1 : w.cell? ⟨b, off + 1, none⟩ = some (.int .i64 a.rc)) (h2 : w.cell? ⟨b, off + 2, none⟩ = some (.int .i64 a.rn)) (h3 : w.cell? ⟨b, off + 3, none⟩ = some (.int .i64 a.m.bc)) (h4 : w.cell? ⟨b, off + 4, none⟩ = some (.int .i64 a.m.bn)) (h5 : w.cell? ⟨b, off + 5, none⟩ = some (.int .i64 a.m.ic)) (h6 : w.cell? ⟨b, off + 6, none⟩ = some (.int .i64 a.m.ix)) (h7 : w.cell? ⟨b, off + 7, none⟩ = some (.int .i64 a.m.s)) (h8 : w.cell? ⟨b, off + 8, none⟩ = some (.int .i64 a.m.d)) (h9 : w.cell? ⟨b, off + 9, none⟩ = some (.int .i64 a.m.z)) (h10 : w.cell? ⟨b, off + 10, none⟩ = some (.int .i64 a.n)) :
    Calls Try.prog 10 #[.agg #[.int .i64 op, .slice (some ⟨b, off, none⟩) n c]] w fun e w' => e = .returned (.tuple #[.int .i64 (8 * v), .bool (v != 0)]) ∧ Below w.heap.size w w' := by
  have hr := asizeF_range a
  rw [HZ.out] at hr
  have hr1 := hr.1
  have hr2 := hr.2
  clear hr
  by_cases hv : v = 0
  · subst hv
    go_enter Try.func10, Try.ntmps10
    go_wp2_with (first | (go_at_call 35; refine (imm7_of HI.out _).mono ?_; rintro e w1 ⟨rfl, rfl⟩) | (go_at_call 36; refine (opvalid_of HV.out _).mono ?_; rintro e w1 ⟨rfl, rfl⟩) | (go_at_call 37; with_reducible refine (asize_ar HZ.out HS.out _).mono ?_; rintro e w1 ⟨rfl, hb1⟩; have HO := hid (((Own.nil w).alloc w.heap.size #[.int .i64 op, .slice (some ⟨b, off, none⟩) n c] 24 rfl).call hb1); clear hb1; have c0 := HO.out.c; have z0 := HO.out.z; have HB := hid HO.out.below))
    go_returns
    exact ⟨rfl, HB.out⟩
  · have hv0 : (v != 0) = true := by rw [bne_iff_ne]; exact hv
    have hv1 : (8 * v != 0) = true := by rw [bne_iff_ne]; omega
    rw [hv0]
    go_enter Try.func10, Try.ntmps10
    go_wp2_with (first | (go_at_call 35; refine (imm7_of HI.out _).mono ?_; rintro e w1 ⟨rfl, rfl⟩) | (go_at_call 36; refine (opvalid_of HV.out _).mono ?_; rintro e w1 ⟨rfl, rfl⟩) | (go_at_call 37; with_reducible refine (asize_ar HZ.out HS.out _).mono ?_; rintro e w1 ⟨rfl, hb1⟩; have HO := hid (((Own.nil w).alloc w.heap.size #[.int .i64 op, .slice (some ⟨b, off, none⟩) n c] 24 rfl).call hb1); clear hb1; have c0 := HO.out.c; have z0 := HO.out.z; have HB := hid HO.out.below))
    go_returns
    exact ⟨rfl, HB.out⟩
theorem rbits_not {op : Int} (HV : Hid (okF op = false)) (A : Option Addr) (n c : Nat) (w : World) :
    Calls Try.prog 11 #[.agg #[.int .i64 op, .slice A n c]] w fun e w' => e = .returned (.tuple #[.int .i64 0, .bool false]) ∧ Below w.heap.size w w' := by
  have HI := hid (show immG op = (0, false) by simp [immG, HV.out])
  go_enter Try.func11, Try.ntmps11
  go_wp2_with (first | (go_at_call 38; refine (rimm7_of HI.out _).mono ?_; rintro e w1 ⟨rfl, rfl⟩) | (go_at_call 39; refine (ropvalid_of HV.out _).mono ?_; rintro e w1 ⟨rfl, rfl⟩))
  go_returns
  exact ⟨rfl, by go_grown⟩
theorem rbits_own {op x : Int} {s : Bool} (HV : Hid (okF op = true)) (HI : Hid (immG op = (x, s))) (h0 : 0 < x) (A : Option Addr) (n c : Nat) (w : World) :
    Calls Try.prog 11 #[.agg #[.int .i64 op, .slice A n c]] w fun e w' => e = .returned (.tuple #[.int .i64 x, .bool s]) ∧ Below w.heap.size w w' := by
  go_enter Try.func11, Try.ntmps11
  go_wp2_with (first | (go_at_call 38; refine (rimm7_of HI.out _).mono ?_; rintro e w1 ⟨rfl, rfl⟩) | (go_at_call 39; refine (ropvalid_of HV.out _).mono ?_; rintro e w1 ⟨rfl, rfl⟩))
  go_returns
  exact ⟨rfl, by go_grown⟩
theorem rbits_none {op : Int} (HV : Hid (okF op = true)) (HI : Hid (immG op = (0, true))) (A : Option Addr) (c : Nat) (w : World) :
    Calls Try.prog 11 #[.agg #[.int .i64 op, .slice A 0 c]] w fun e w' => e = .returned (.tuple #[.int .i64 0, .bool false]) ∧ Below w.heap.size w w' := by
  go_enter Try.func11, Try.ntmps11
  go_wp2_with (first | (go_at_call 38; refine (rimm7_of HI.out _).mono ?_; rintro e w1 ⟨rfl, rfl⟩) | (go_at_call 39; refine (ropvalid_of HV.out _).mono ?_; rintro e w1 ⟨rfl, rfl⟩))
  go_returns
  exact ⟨rfl, by go_grown⟩
set_option maxHeartbeats 1000000 in
theorem rbits_first {op v : Int} {a : Ar} (HV : Hid (okF op = true)) (HI : Hid (immG op = (0, true))) (HZ : Hid (asizeF a = v)) (b off n c : Nat) (hn : 0 < n) (w : World) (hb : b < w.heap.size)
    (h0 : w.cell? ⟨b, off, none⟩ = some (.int .i64 a.k)) (h1 : w.cell? ⟨b, off + 1, none⟩ = some (.int .i64 a.rc)) (h2 : w.cell? ⟨b, off + 2, none⟩ = some (.int .i64 a.rn)) (h3 : w.cell? ⟨b, off + 3, none⟩ = some (.int .i64 a.m.bc)) (h4 : w.cell? ⟨b, off + 4, none⟩ = some (.int .i64 a.m.bn)) (h5 : w.cell? ⟨b, off + 5, none⟩ = some (.int .i64 a.m.ic)) (h6 : w.cell? ⟨b, off + 6, none⟩ = some (.int .i64 a.m.ix)) (h7 : w.cell? ⟨b, off + 7, none⟩ = some (.int .i64 a.m.s)) (h8 : w.cell? ⟨b, off + 8, none⟩ = some (.int .i64 a.m.d)) (h9 : w.cell? ⟨b, off + 9, none⟩ = some (.int .i64 a.m.z)) (h10 : w.cell? ⟨b, off + 10, none⟩ = some (.int .i64 a.n)) :
    Calls Try.prog 11 #[.agg #[.int .i64 op, .slice (some ⟨b, off, none⟩) n c]] w fun e w' => e = .returned (.tuple #[.int .i64 (8 * v), .bool (v != 0)]) ∧ Below w.heap.size w w' := by
  have hr := asizeF_range a
  rw [HZ.out] at hr
  have hr1 := hr.1
  have hr2 := hr.2
  clear hr
  have HB := hid (Below.refl w.heap.size w)
  by_cases hv : v = 0
  · subst hv
    go_enter Try.func11, Try.ntmps11
    go_wp2_with (first | (go_at_call 38; refine (rimm7_of HI.out _).mono ?_; rintro e w1 ⟨rfl, rfl⟩) | (go_at_call 39; refine (ropvalid_of HV.out _).mono ?_; rintro e w1 ⟨rfl, rfl⟩) | (go_at_call 40; with_reducible refine (rasize_ar HZ.out _).mono ?_; rintro e w1 ⟨rfl, hb1⟩; have HO := hid (((Own.nil w).alloc w.heap.size #[.int .i64 op, .slice (some ⟨b, off, none⟩) n c] 24 rfl).call hb1); clear hb1 HB; have c0 := HO.out.c; have z0 := HO.out.z; have HB := hid HO.out.below))
    go_returns
    exact ⟨rfl, HB.out⟩
  · have hv0 : (v != 0) = true := by rw [bne_iff_ne]; exact hv
    have hv2 : (v == 0) = false := by rw [beq_eq_false_iff_ne]; exact hv
    rw [hv0]
    go_enter Try.func11, Try.ntmps11
    go_wp2_with (first | (go_at_call 38; refine (rimm7_of HI.out _).mono ?_; rintro e w1 ⟨rfl, rfl⟩) | (go_at_call 39; refine (ropvalid_of HV.out _).mono ?_; rintro e w1 ⟨rfl, rfl⟩) | fail)
    refine (rasize_ar HZ.out _).mono ?_
    rintro e w1 ⟨rfl, hb1⟩
    have HO := hid (((Own.nil w).alloc w.heap.size #[.int .i64 op, .slice (some ⟨b, off, none⟩) n c] 24 rfl).call hb1)
    have HD := hid (((Below.refl w.heap.size w).alloc (Nat.le_refl _) (.cells #[.int .i64 op, .slice (some ⟨b, off, none⟩) n c] 24)).trans (hb1.mono (by simp)))
    clear hb1 HB
    have c0 := HO.out.c
    have z0 := HO.out.z
    have hz : b < w1.heap.size := Nat.lt_of_lt_of_le hb HD.out.size
    have hc : ∀ o, w1.cell? ⟨b, o, none⟩ = w.cell? ⟨b, o, none⟩ := fun o => HD.out.cell (p := ⟨b, o, none⟩) hb
    go_wp2_with fail
    refine (rasize_ar HZ.out _).mono ?_
    rintro e w2 ⟨rfl, hb1⟩
    have HO := hid (HO.out.call hb1)
    clear hb1 c0 z0 hc
    have c0 := HO.out.c
    have z0 := HO.out.z
    have HB := hid HO.out.below
    go_wp2_with fail
    go_returns
    exact ⟨rfl, HB.out⟩
theorem bitsF_not {op : Int} (h : okF op = false) (l : List Ar) : bitsF op l = (0, false) := by simp [bitsF, h]
theorem bitsF_own {op : Int} (h : okF op = true) (h0 : 0 < (immG op).1) (l : List Ar) : bitsF op l = immG op := by
  unfold bitsF; rw [if_pos h, if_neg (by omega)]
theorem bitsF_none {op : Int} (h : okF op = true) (h0 : immG op = (0, true)) : bitsF op [] = (0, false) := by
  unfold bitsF; rw [if_pos h, if_pos (by rw [h0])]
theorem bitsF_first {op : Int} (h : okF op = true) (h0 : immG op = (0, true)) (a : Ar) (l : List Ar) : bitsF op (a :: l) = (8 * asizeF a, (asizeF a != 0)) := by
  unfold bitsF
  rw [if_pos h, if_pos (by rw [h0]), h0]
  by_cases hz : asizeF a = 0
  · simp [hz]
  · simp [hz]
theorem bits_of {op x : Int} {s : Bool} {A : Option Addr} {c : Nat} {l : List Ar} (h : bitsF op l = (x, s)) (hf : Fine l) (w : World) (hA : Args w w.heap.size A l) :
    Calls Try.prog 10 #[.agg #[.int .i64 op, .slice A l.length c]] w fun e w' => e = .returned (.tuple #[.int .i64 x, .bool s]) ∧ Below w.heap.size w w' := by
  cases hv : okF op
  · rw [bitsF_not hv] at h
    cases h
    exact bits_not (hid hv) A l.length c w
  · rcases immG_bits op hv with ⟨_, h0⟩ | h0
    · match l, hA, hf, h with
      | [], _, _, h =>
        rw [bitsF_none hv h0] at h
        cases h
        exact bits_none (hid hv) (hid h0) A c w
      | a :: l, hA, hf, h =>
        rw [bitsF_first hv h0] at h
        rcases hA with h1 | ⟨b, off, rfl, hb, hc⟩
        · cases h1
        have hk := args_cells hc (i := 0) (a := a) rfl
        simp only [Nat.zero_mul, Nat.add_zero] at hk
        cases h
        exact bits_first (hid hv) (hid h0) (hid rfl) (hid (hf a List.mem_cons_self).1) b off _ c (by simp) w hb hk.1 hk.2.1 hk.2.2.1 hk.2.2.2.1 hk.2.2.2.2.1 hk.2.2.2.2.2.1 hk.2.2.2.2.2.2.1 hk.2.2.2.2.2.2.2.1 hk.2.2.2.2.2.2.2.2.1 hk.2.2.2.2.2.2.2.2.2.1 hk.2.2.2.2.2.2.2.2.2.2
    · rw [bitsF_own hv h0] at h
      exact bits_own (hid h) (by rw [h] at h0; exact h0) A _ c w
theorem rbits_of {op x : Int} {s : Bool} {A : Option Addr} {c : Nat} {l : List Ar} (h : bitsF op l = (x, s)) (w : World) (hA : Args w w.heap.size A l) :
    Calls Try.prog 11 #[.agg #[.int .i64 op, .slice A l.length c]] w fun e w' => e = .returned (.tuple #[.int .i64 x, .bool s]) ∧ Below w.heap.size w w' := by
  cases hv : okF op
  · rw [bitsF_not hv] at h
    cases h
    exact rbits_not (hid hv) A l.length c w
  · rcases immG_bits op hv with ⟨_, h0⟩ | h0
    · match l, hA, h with
      | [], _, h =>
        rw [bitsF_none hv h0] at h
        cases h
        exact rbits_none (hid hv) (hid h0) A c w
      | a :: l, hA, h =>
        rw [bitsF_first hv h0] at h
        rcases hA with h1 | ⟨b, off, rfl, hb, hc⟩
        · cases h1
        have hk := args_cells hc (i := 0) (a := a) rfl
        simp only [Nat.zero_mul, Nat.add_zero] at hk
        cases h
        exact rbits_first (hid hv) (hid h0) (hid rfl) b off _ c (by simp) w hb hk.1 hk.2.1 hk.2.2.1 hk.2.2.2.1 hk.2.2.2.2.1 hk.2.2.2.2.2.1 hk.2.2.2.2.2.2.1 hk.2.2.2.2.2.2.2.1 hk.2.2.2.2.2.2.2.2.1 hk.2.2.2.2.2.2.2.2.2.1 hk.2.2.2.2.2.2.2.2.2.2
    · rw [bitsF_own hv h0] at h
      exact rbits_own (hid hv) (hid h) (by rw [h] at h0; exact h0) A _ c w
theorem number_of {op x n v e' : Int} {s : Bool} {A : Option Addr} {c : Nat} {l : List Ar} (h : bitsF op l = (x, s)) (hf : Fine l) (hn : I64 n) (hv : immV n x s = v) (he : immE n x = e') (w : World) (hA : Args w w.heap.size A l) :
    Calls Try.prog 28 #[.agg #[.int .i64 op, .slice A l.length c], .int .i64 n] w fun e w' => e = .returned (.tuple #[.int .i64 v, .int .i64 e']) ∧ Below w.heap.size w w' := by
  have H := hid h
  have HF := hid hf
  have HN := hid hn
  have HV := hid hv
  have HE := hid he
  have HA := hid hA
  clear h hf hn hv he hA
  go_enter Try.func28, Try.ntmps28
  go_wp2_with fail
  refine (bits_of H.out HF.out _ ((HA.out.below ((Below.refl _ _).alloc (Nat.le_refl _) _)).mono (by simp))).mono ?_
  rintro e w1 ⟨rfl, hb1⟩
  have HB := hid (((Below.refl w.heap.size w).alloc (Nat.le_refl _) (.cells #[.int .i64 op, .slice A l.length c] 24)).trans (hb1.mono (by simp)))
  clear hb1
  go_wp2_with fail
  refine (imm_of HN.out HV.out HE.out _).mono ?_
  rintro e w2 ⟨rfl, hb1⟩
  go_wp2_with fail
  go_ret2
  exact ⟨rfl, HB.out.trans (hb1.mono HB.out.size)⟩
end Go.Proofs.Ytmlmdbholakioaa
