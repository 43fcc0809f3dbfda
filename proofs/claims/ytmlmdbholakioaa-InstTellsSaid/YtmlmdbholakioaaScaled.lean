/-
  The scales of an index: a map that the call makes, and looks up with two values.
-/
import Derived.Test.YtmlmdbholakioaaPlace
namespace Go.Proofs.Ytmlmdbholakioaa
open Go.RowKit Go.Maps

/-- An entry of a map literal, at the operation. -/
theorem wpList_insert_own {H : Type} {P : Program} (w : World) {ops : Array Oper} {rest : List Oper} {o : Oper} {a : Act} {Q : Exit → Act → World → Prop}
    (hg : o.guard = none) (m x v : Operand) (t : TypeId) (hop : o.op = Op.insert t m x v)
    (k e : TypeId) (K : Keyed P k) (ht : P.underlying t = some (.map k e)) (R : Value → Option (DataW H × List MemPlace)) (b n : Nat) (D : DataW H)
    (hm : a.eval m = .map (some b)) (hown : w.ownsMap P k R b n D) (hn : n < maxLen) (key val : Value) (kl : Lit) (hx : a.eval x = key) (hv : a.eval v = val) (hkey : keyOf P k key = some kl)
    (d : DataW H) (ps : List MemPlace) (hval : R val = some (d, ps))
    (hK : ∀ w', w'.ownsMap P k R b (n + 1) (D.put kl d) → w.grownBy w' (some b) → wpList P ops Q rest (a.put o.dst undef) w') :
    wpList P ops Q (o :: rest) a w := by
  refine wpList_plain hg fun K' hK' => ?_
  obtain ⟨w', hrun, r1, r2⟩ := hown.update K ht hn hkey hval
  unfold Oper.wp
  simp [execOp, hop, hm, hx, hv, hrun, Result.andThen]
  exact hK' _ _ (hK w' r1 r2)
theorem law : Keyed Try.prog 3 := int_keyed Try.underlying3
theorem zeroInt (w : World) : (zeroValue 3).run Try.prog w = .ok (.int .i64 0) w := by kernel_rfl
theorem below_made (w : World) (o : Obj) {w1 w2 w3 w4 : World} (h1 : (w.alloc o).grownBy w1 (some w.heap.size)) (h2 : w1.grownBy w2 (some w.heap.size)) (h3 : w2.grownBy w3 (some w.heap.size)) (h4 : w3.grownBy w4 (some w.heap.size)) :
    Below w.heap.size w w4 := by
  have b0 : Below w.heap.size w (w.alloc o) := (Below.refl _ _).alloc (Nat.le_refl _) _
  have b1 := b0.grown h1 b0.size (fun j hj => by cases hj; exact Nat.le_refl _)
  have b2 := b1.grown h2 b1.size (fun j hj => by cases hj; exact Nat.le_refl _)
  have b3 := b2.grown h3 b2.size (fun j hj => by cases hj; exact Nat.le_refl _)
  exact b3.grown h4 b3.size (fun j hj => by cases hj; exact Nat.le_refl _)
theorem scales_eq (H : Type) : (((((DataW.map []).put (.int .i64 1) (.lit (.int .i64 0))).put (.int .i64 2) (.lit (.int .i64 1))).put (.int .i64 4) (.lit (.int .i64 2))).put (.int .i64 8) (.lit (.int .i64 3))) =
    DataW.map (H := H) [(.int .i64 1, .lit (.int .i64 0)), (.int .i64 2, .lit (.int .i64 1)), (.int .i64 4, .lit (.int .i64 2)), (.int .i64 8, .lit (.int .i64 3))] := rfl
theorem scales_has (H : Type) (s : Int) : Maps.has (H := H) (.map [(.int .i64 1, .lit (.int .i64 0)), (.int .i64 2, .lit (.int .i64 1)), (.int .i64 4, .lit (.int .i64 2)), (.int .i64 8, .lit (.int .i64 3))]) (.int .i64 s) = scaleF s := by
  rw [Bool.eq_iff_iff]
  simp [Maps.has, Lit.sameKey, scaleF, or_assoc, eq_comm (a := s)]
theorem scales_at (H : Type) (s c : Int) (h : (DataW.map [(.int .i64 1, .lit (.int .i64 0)), (.int .i64 2, .lit (.int .i64 1)), (.int .i64 4, .lit (.int .i64 2)), (.int .i64 8, .lit (.int .i64 3))]).atKey (.int .i64 s) (.lit (.int .i64 0)) = DataW.lit (H := H) (.int .i64 c)) : c = shiftF s := by
  by_cases h1 : s = 1
  · subst h1; exact (by injection h with h; injection h with _ h; exact h.symm)
  by_cases h2 : s = 2
  · subst h2; exact (by injection h with h; injection h with _ h; exact h.symm)
  by_cases h4 : s = 4
  · subst h4; exact (by injection h with h; injection h with _ h; exact h.symm)
  by_cases h8 : s = 8
  · subst h8; exact (by injection h with h; injection h with _ h; exact h.symm)
  simp [DataW.atKey, Lit.sameKey, eq_comm, h1, h2, h4, h8] at h
  simp [shiftF, h2, h4, h8, h]
theorem scaled_any (s : Int) (hs : I64 s) (w : World) :
    Calls Try.prog 75 #[.int .i64 s] w fun e w' => e = .returned (.tuple #[.int .i64 (shiftF s), .bool (scaleF s)]) ∧ Below w.heap.size w w' := by
  have hmm := @run_makeMap Try.prog
  have hown0 := World.ownsMap_made (H := Unit) w Try.prog 3 (plainElem Try.prog 3)
  have hkey : keyOf Try.prog 3 (.int .i64 s) = some (.int .i64 s) := keyOf_int_mk Try.underlying3 (WalkArith.wf_i64 hs)
  go_enter Try.func75, Try.ntmps75
  go_wp2_with (first
    | (at_lookup; refine wpList_lookup_own_ok_int _ rfl _ _ 84 rfl 3 3 .i64 law Try.underlying84 Try.underlying3 (zeroInt _) w.heap.size _ _ rfl (by assumption) _ _ rfl hkey ?_; intro c hat hwc)
    | (refine wpList_insert_own _ rfl _ _ _ 84 rfl 3 3 law Try.underlying84 (plainElem Try.prog 3) w.heap.size _ _ rfl (by assumption) (by decide) _ _ _ rfl rfl (keyOf_int_mk Try.underlying3 (by decide)) _ [] (plainElem_int Try.underlying3 (by decide)) ?_; intro wx hown hgrow)
    | go_in)
  rw [scales_eq] at hat
  have hc := scales_at Unit s c hat
  subst hc
  rw [scales_eq, scales_has Unit s]
  have hb := below_made w _ ‹_› ‹_› ‹_› hgrow
  go_returns
  exact ⟨rfl, hb⟩
end Go.Proofs.Ytmlmdbholakioaa
