/-
  Places in memory, plainly: which may be, and what they are written as; and the small functions of the program and of the document that tell these.
  The scales of an index: a map that the call makes, and looks up with two values.
-/
import Derived.Test.YtiiepdgpnnjpiaaDoorBase
import Derived.BigQuiet
import Derived.Maps.OwnSet
import Derived.Laws.StructEq
section
namespace Go.Proofs.YtiiepdgpnnjpiaaDoor
open Go.RowKit Go.Maps

/-- A class's first number, and how many it has. -/
def spanF (c : Int) : Int × Int := if c = 1 ∨ c = 3 ∨ c = 4 ∨ c = 5 ∨ c = 6 ∨ c = 7 then (0, 16) else if c = 2 then (4, 4) else if c = 8 then (0, 1) else (0, 0)
def validF (c n : Int) : Bool := decide ((spanF c).1 ≤ n) && decide (n < (spanF c).1 + (spanF c).2)
theorem spanF_range (c : Int) : 0 ≤ (spanF c).1 ∧ (spanF c).1 ≤ 4 ∧ 0 ≤ (spanF c).2 ∧ (spanF c).2 ≤ 16 := by unfold spanF; (repeat' split) <;> decide
theorem span_any (c : Int) (w : World) :
    Calls Tryd.prog 77 #[.int .i64 c] w fun e w' => e = .returned (.tuple #[.int .i64 (spanF c).1, .int .i64 (spanF c).2]) ∧ w = w' := by
  go_enter Tryd.func77, Tryd.ntmps77
  go_wp2
  all_goals go_returns
  all_goals refine ⟨?_, rfl⟩
  all_goals simp_all [spanF]
theorem span_of {c a b : Int} (h : spanF c = (a, b)) (w : World) :
    Calls Tryd.prog 77 #[.int .i64 c] w fun e w' => e = .returned (.tuple #[.int .i64 a, .int .i64 b]) ∧ w = w' := by
  have := span_any c w
  rw [h] at this
  exact this
theorem valid_any (c n : Int) (w : World) :
    Calls Tryd.prog 64 #[.agg #[.int .i64 c, .int .i64 n]] w fun e w' => e = .returned (.bool (validF c n)) ∧ Below w.heap.size w w' := by
  obtain ⟨a, b, hs⟩ : ∃ a b, spanF c = (a, b) := ⟨_, _, rfl⟩
  have hr := spanF_range c
  rw [hs] at hr
  simp only [] at hr
  have HV := hid (show validF c n = (decide (a ≤ n) && decide (n < a + b)) by unfold validF; rw [hs])
  have HS := hid hs
  clear hs
  by_cases h1 : a ≤ n
  · go_enter Tryd.func64, Tryd.ntmps64
    go_wp2_with (go_at_call 77; refine (span_of HS.out _).mono ?_; rintro e w' ⟨rfl, rfl⟩)
    all_goals go_returns
    all_goals exact ⟨by rw [HV.out]; simp_all, by go_grown⟩
  · go_enter Tryd.func64, Tryd.ntmps64
    go_wp2_with (go_at_call 77; refine (span_of HS.out _).mono ?_; rintro e w' ⟨rfl, rfl⟩)
    all_goals go_returns
    all_goals exact ⟨by rw [HV.out]; simp; omega, by go_grown⟩
theorem rvalid_any (c n : Int) (w : World) :
    Calls Tryd.prog 51 #[.agg #[.int .i64 c, .int .i64 n]] w fun e w' => e = .returned (.bool (validF c n)) ∧ Below w.heap.size w w' := by
  go_enter Tryd.func51, Tryd.ntmps51
  go_wp2
  all_goals
    go_returns
    refine ⟨?_, by go_grown⟩
    try simp_all [validF, spanF]
    all_goals first | done | omega | (rw [Bool.eq_iff_iff]; simp; omega)

/-- One of R64. -/
def wideF (c n : Int) : Bool := c == 5 && (decide (0 ≤ n) && decide (n < 16))
theorem wide_valid (n : Int) : validF 5 n = (decide (0 ≤ n) && decide (n < 16)) := by simp [validF, spanF]
/-- No register at all. -/
def noneF (c n : Int) : Bool := c == 0 && n == 0
/-- rsp. -/
def stackF (c n : Int) : Bool := c == 5 && n == 4
def sizedF (z : Int) : Bool := z == 0 || z == 1 || z == 2 || z == 4 || z == 8 || z == 16 || z == 32
def basedF (c n : Int) : Bool := noneF c n || wideF c n || (c == 8 && n == 0)
/-- The bits by which a scale shifts. -/
def shiftF (s : Int) : Int := if s = 2 then 1 else if s = 4 then 2 else if s = 8 then 3 else 0
def scaleF (s : Int) : Bool := s == 1 || s == 2 || s == 4 || s == 8

theorem none_any (c n : Int) (w : World) :
    Calls Tryd.prog 66 #[.agg #[.int .i64 c, .int .i64 n]] w fun e w' => e = .returned (.bool (noneF c n)) ∧ Below w.heap.size w w' := by
  go_enter Tryd.func66, Tryd.ntmps66
  go_wp2
  all_goals
    go_returns
    exact ⟨by simp_all [noneF], by go_grown⟩
theorem rnone_any (c n : Int) (w : World) :
    Calls Tryd.prog 53 #[.agg #[.int .i64 c, .int .i64 n]] w fun e w' => e = .returned (.bool (noneF c n)) ∧ Below w.heap.size w w' := by
  go_enter Tryd.func53, Tryd.ntmps53
  go_wp2
  all_goals
    go_returns
    exact ⟨by simp_all [noneF], by go_grown⟩
theorem stack_any (c n : Int) (w : World) :
    Calls Tryd.prog 67 #[.agg #[.int .i64 c, .int .i64 n]] w fun e w' => e = .returned (.bool (stackF c n)) ∧ Below w.heap.size w w' := by
  go_enter Tryd.func67, Tryd.ntmps67
  go_wp2
  all_goals
    go_returns
    exact ⟨by simp_all [stackF], by go_grown⟩
theorem sized_any (z : Int) (w : World) :
    Calls Tryd.prog 78 #[.int .i64 z] w fun e w' => e = .returned (.bool (sizedF z)) ∧ w = w' := by
  go_enter Tryd.func78, Tryd.ntmps78
  go_wp2
  all_goals (go_ret; exact ⟨ret_b (by simp_all [sizedF]), rfl⟩)
theorem wide_any (c n : Int) (w : World) :
    Calls Tryd.prog 90 #[.agg #[.int .i64 c, .int .i64 n]] w fun e w' => e = .returned (.bool (wideF c n)) ∧ Below w.heap.size w w' := by
  by_cases h : c = 5
  · subst h
    go_enter Tryd.func90, Tryd.ntmps90
    go_wp2_with (go_at_call 64; refine (valid_any _ _ _).mono ?_; rintro e w1 ⟨rfl, hb1⟩; obtain ⟨hc1, hf1⟩ := bcell hb1; have hz1 : w.heap.size < w1.heap.size := by have := hb1.size; simp at this; omega)
    go_returns
    exact ⟨by simp [wideF, wide_valid], ((Below.refl _ _).alloc (Nat.le_refl _) _).trans (hb1.mono (by simp))⟩
  · go_enter Tryd.func90, Tryd.ntmps90
    go_wp2_with fail
    go_returns
    exact ⟨by simp [wideF, h], by go_grown⟩
theorem rwide_any (c n : Int) (w : World) :
    Calls Tryd.prog 74 #[.agg #[.int .i64 c, .int .i64 n]] w fun e w' => e = .returned (.bool (wideF c n)) ∧ Below w.heap.size w w' := by
  by_cases h : c = 5
  · subst h
    go_enter Tryd.func74, Tryd.ntmps74
    go_wp2_with (go_at_call 51; refine (rvalid_any _ _ _).mono ?_; rintro e w1 ⟨rfl, hb1⟩; obtain ⟨hc1, hf1⟩ := bcell hb1; have hz1 : w.heap.size < w1.heap.size := by have := hb1.size; simp at this; omega)
    go_returns
    exact ⟨by simp [wideF, wide_valid], ((Below.refl _ _).alloc (Nat.le_refl _) _).trans (hb1.mono (by simp))⟩
  · go_enter Tryd.func74, Tryd.ntmps74
    go_wp2_with fail
    go_returns
    exact ⟨by simp [wideF, h], by go_grown⟩
end Go.Proofs.YtiiepdgpnnjpiaaDoor
end
section
namespace Go.Proofs.YtiiepdgpnnjpiaaDoor
open Go.RowKit Go.Maps
set_option maxRecDepth 100000

/-- An entry of a map literal, at the operation. -/
theorem wpList_insert_own {H : Type} {P : Program} (w : World) {ops : Array Oper} {rest : List Oper} {o : Oper} {a : Act} {Q : Exit → Act → World → Prop}
    (hg : o.guard = none) (m x v : Operand) (t : TypeId) (hop : o.op = Op.insert t m x v)
    (k e : TypeId) (K : Keyed P k) (ht : P.underlying t = some (.map k e)) (R : Value → Option (DataW H × List MemPlace)) (b n : Nat) (D : DataW H)
    (hm : a.eval m = .map (some b)) (hown : w.ownsMap P k R b n D) (hn : n < maxLen) (key val : Value) (kl : Lit) (hx : a.eval x = key) (hv : a.eval v = val) (hkey : keyOf P k key = some kl)
    (d : DataW H) (ps : List MemPlace) (hval : R val = some (d, ps))
    (hK : ∀ w', w'.ownsMap P k R b (n + 1) (D.put kl d) → w.grownBy w' (some b) → wpList P ops Q rest (a.put o.dst undef) w') :
    wpList P ops Q (o :: rest) a w := by
  refine wpList_plain hg fun K' hK' => ?_
  obtain ⟨w', hrun, r1, r2⟩ := hown.update K ht hn hkey hval
  unfold Oper.wp
  simp [execOp, hop, hm, hx, hv, hrun, Result.andThen]
  exact hK' _ _ (hK w' r1 r2)
theorem law : Keyed Tryd.prog 3 := int_keyed Tryd.underlying3
theorem zeroInt (w : World) : (zeroValue 3).run Tryd.prog w = .ok (.int .i64 0) w := by kernel_rfl
theorem below_made (w : World) (o : Obj) {w1 w2 w3 w4 : World} (h1 : (w.alloc o).grownBy w1 (some w.heap.size)) (h2 : w1.grownBy w2 (some w.heap.size)) (h3 : w2.grownBy w3 (some w.heap.size)) (h4 : w3.grownBy w4 (some w.heap.size)) :
    Below w.heap.size w w4 := by
  have b0 : Below w.heap.size w (w.alloc o) := (Below.refl _ _).alloc (Nat.le_refl _) _
  have b1 := b0.grown h1 b0.size (fun j hj => by cases hj; exact Nat.le_refl _)
  have b2 := b1.grown h2 b1.size (fun j hj => by cases hj; exact Nat.le_refl _)
  have b3 := b2.grown h3 b2.size (fun j hj => by cases hj; exact Nat.le_refl _)
  exact b3.grown h4 b3.size (fun j hj => by cases hj; exact Nat.le_refl _)
theorem scales_eq (H : Type) : (((((DataW.map []).put (.int .i64 1) (.lit (.int .i64 0))).put (.int .i64 2) (.lit (.int .i64 1))).put (.int .i64 4) (.lit (.int .i64 2))).put (.int .i64 8) (.lit (.int .i64 3))) =
    DataW.map (H := H) [(.int .i64 1, .lit (.int .i64 0)), (.int .i64 2, .lit (.int .i64 1)), (.int .i64 4, .lit (.int .i64 2)), (.int .i64 8, .lit (.int .i64 3))] := rfl
theorem scales_has (H : Type) (s : Int) : Maps.has (H := H) (.map [(.int .i64 1, .lit (.int .i64 0)), (.int .i64 2, .lit (.int .i64 1)), (.int .i64 4, .lit (.int .i64 2)), (.int .i64 8, .lit (.int .i64 3))]) (.int .i64 s) = scaleF s := by
  rw [Bool.eq_iff_iff]
  simp [Maps.has, Lit.sameKey, scaleF, or_assoc, eq_comm (a := s)]
theorem scales_at (H : Type) (s c : Int) (h : (DataW.map [(.int .i64 1, .lit (.int .i64 0)), (.int .i64 2, .lit (.int .i64 1)), (.int .i64 4, .lit (.int .i64 2)), (.int .i64 8, .lit (.int .i64 3))]).atKey (.int .i64 s) (.lit (.int .i64 0)) = DataW.lit (H := H) (.int .i64 c)) : c = shiftF s := by
  by_cases h1 : s = 1
  · subst h1; exact (by injection h with h; injection h with _ h; exact h.symm)
  by_cases h2 : s = 2
  · subst h2; exact (by injection h with h; injection h with _ h; exact h.symm)
  by_cases h4 : s = 4
  · subst h4; exact (by injection h with h; injection h with _ h; exact h.symm)
  by_cases h8 : s = 8
  · subst h8; exact (by injection h with h; injection h with _ h; exact h.symm)
  simp [DataW.atKey, Lit.sameKey, eq_comm, h1, h2, h4, h8] at h
  simp [shiftF, h2, h4, h8, h]
theorem scaled_any (s : Int) (hs : I64 s) (w : World) :
    Calls Tryd.prog 91 #[.int .i64 s] w fun e w' => e = .returned (.tuple #[.int .i64 (shiftF s), .bool (scaleF s)]) ∧ Below w.heap.size w w' := by
  have hmm := @run_makeMap Tryd.prog
  have hown0 := World.ownsMap_made (H := Unit) w Tryd.prog 3 (plainElem Tryd.prog 3)
  have hkey : keyOf Tryd.prog 3 (.int .i64 s) = some (.int .i64 s) := keyOf_int_mk Tryd.underlying3 (WalkArith.wf_i64 hs)
  go_enter Tryd.func91, Tryd.ntmps91
  go_wp2_with (first
    | (at_lookup; refine wpList_lookup_own_ok_int _ rfl _ _ 132 rfl 3 3 .i64 law Tryd.underlying132 Tryd.underlying3 (zeroInt _) w.heap.size _ _ rfl (by assumption) _ _ rfl hkey ?_; intro c hat hwc)
    | (refine wpList_insert_own _ rfl _ _ _ 132 rfl 3 3 law Tryd.underlying132 (plainElem Tryd.prog 3) w.heap.size _ _ rfl (by assumption) (by decide) _ _ _ rfl rfl (keyOf_int_mk Tryd.underlying3 (by decide)) _ [] (plainElem_int Tryd.underlying3 (by decide)) ?_; intro wx hown hgrow)
    | go_in)
  rw [scales_eq] at hat
  have hc := scales_at Unit s c hat
  subst hc
  rw [scales_eq, scales_has Unit s]
  have hb := below_made w _ ‹_› ‹_› ‹_› hgrow
  go_returns
  exact ⟨rfl, hb⟩
end Go.Proofs.YtiiepdgpnnjpiaaDoor
end
