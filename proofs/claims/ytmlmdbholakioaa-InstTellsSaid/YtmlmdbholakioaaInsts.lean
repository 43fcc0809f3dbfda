/-
  Instructions' operands in memory: a row of operands, eleven cells each; how many are of a kind.
-/
import Derived.Test.YtmlmdbholakioaaArgSize
import Derived.Test.YtmlmdbholakioaaImm2
import Derived.Test.YtmlmdbholakioaaOpBits
import Derived.Test.YtmlmdbholakioaaOld
namespace Go.Proofs.Ytmlmdbholakioaa
open Go.RowKit

/-- The cells of an operand. -/
abbrev AC (a : Ar) : List Value := [.int .i64 a.k, .int .i64 a.rc, .int .i64 a.rn, .int .i64 a.m.bc, .int .i64 a.m.bn, .int .i64 a.m.ic, .int .i64 a.m.ix, .int .i64 a.m.s, .int .i64 a.m.d, .int .i64 a.m.z, .int .i64 a.n]
/-- From A on the operands l stand, in a block below B. -/
def Args (w : World) (B : Nat) (A : Option Addr) (l : List Ar) : Prop :=
  l = [] ∨ ∃ b off, A = some ⟨b, off, none⟩ ∧ b < B ∧ ∀ i a, l[i]? = some a → ∀ j, j < 11 → w.cell? ⟨b, off + i * 11 + j, none⟩ = (AC a)[j]?
theorem Args.below {w w' : World} {B : Nat} {A : Option Addr} {l : List Ar} (h : Args w B A l) (hb : Below B w w') : Args w' B A l := by
  rcases h with rfl | ⟨b, off, rfl, hlt, hc⟩
  · left; rfl
  · exact .inr ⟨b, off, rfl, hlt, fun i a hi j hj => by rw [hb.cell (p := ⟨b, off + i * 11 + j, none⟩) hlt]; exact hc i a hi j hj⟩
theorem Args.mono {w : World} {B B' : Nat} {A : Option Addr} {l : List Ar} (h : Args w B A l) (hB : B ≤ B') : Args w B' A l := by
  rcases h with rfl | ⟨b, off, rfl, hlt, hc⟩
  · left; rfl
  · exact .inr ⟨b, off, rfl, by omega, hc⟩
/-- The cells of the operand at place i, as the walk asks for them. -/
theorem args_cells {w : World} {b off : Nat} {l : List Ar} (hc : ∀ i a, l[i]? = some a → ∀ j, j < 11 → w.cell? ⟨b, off + i * 11 + j, none⟩ = (AC a)[j]?) {i : Nat} {a : Ar} (ha : l[i]? = some a) :
    w.cell? ⟨b, off + i * 11, none⟩ = some (.int .i64 a.k) ∧ w.cell? ⟨b, off + i * 11 + 1, none⟩ = some (.int .i64 a.rc) ∧ w.cell? ⟨b, off + i * 11 + 2, none⟩ = some (.int .i64 a.rn) ∧ w.cell? ⟨b, off + i * 11 + 3, none⟩ = some (.int .i64 a.m.bc) ∧ w.cell? ⟨b, off + i * 11 + 4, none⟩ = some (.int .i64 a.m.bn) ∧ w.cell? ⟨b, off + i * 11 + 5, none⟩ = some (.int .i64 a.m.ic) ∧ w.cell? ⟨b, off + i * 11 + 6, none⟩ = some (.int .i64 a.m.ix) ∧ w.cell? ⟨b, off + i * 11 + 7, none⟩ = some (.int .i64 a.m.s) ∧ w.cell? ⟨b, off + i * 11 + 8, none⟩ = some (.int .i64 a.m.d) ∧ w.cell? ⟨b, off + i * 11 + 9, none⟩ = some (.int .i64 a.m.z) ∧ w.cell? ⟨b, off + i * 11 + 10, none⟩ = some (.int .i64 a.n) :=
  ⟨hc i a ha 0 (by decide), hc i a ha 1 (by decide), hc i a ha 2 (by decide), hc i a ha 3 (by decide), hc i a ha 4 (by decide), hc i a ha 5 (by decide), hc i a ha 6 (by decide), hc i a ha 7 (by decide), hc i a ha 8 (by decide), hc i a ha 9 (by decide), hc i a ha 10 (by decide)⟩
/-- What came in fits: scales and numbers are ints. -/
def Fine (l : List Ar) : Prop := ∀ a ∈ l, I64 a.m.s ∧ I64 a.n
theorem Fine.get {l : List Ar} (h : Fine l) {i : Nat} {a : Ar} (ha : l[i]? = some a) : I64 a.m.s ∧ I64 a.n := h a (List.mem_of_getElem? ha)
theorem acheck_ar {a : Ar} {e' : Int} (h : argF a = e') (hs : I64 a.m.s) (w : World) :
    Calls Try.prog 41 #[AV a] w fun e w' => e = .returned (.int .i64 e') ∧ Below w.heap.size w w' := acheck_of (k := a.k) (rc := a.rc) (rn := a.rn) (bc := a.m.bc) (bn := a.m.bn) (ic := a.m.ic) (ix := a.m.ix) (s := a.m.s) (d := a.m.d) (z := a.m.z) (n := a.n) h hs w
theorem racheck_ar {a : Ar} {e' : Int} (h : argF a = e') (w : World) :
    Calls Try.prog 42 #[AV a] w fun e w' => e = .returned (.int .i64 e') ∧ Below w.heap.size w w' := racheck_of (k := a.k) (rc := a.rc) (rn := a.rn) (bc := a.m.bc) (bn := a.m.bn) (ic := a.m.ic) (ix := a.m.ix) (s := a.m.s) (d := a.m.d) (z := a.m.z) (n := a.n) h w
theorem acanon_ar {a x : Ar} {e' : Int} (hx : aoutF a = x) (h : argF a = e') (hs : I64 a.m.s) (w : World) :
    Calls Try.prog 27 #[AV a] w fun e w' => e = .returned (.tuple #[AV x, .int .i64 e']) ∧ Below w.heap.size w w' := acanon_of (k := a.k) (rc := a.rc) (rn := a.rn) (bc := a.m.bc) (bn := a.m.bn) (ic := a.m.ic) (ix := a.m.ix) (s := a.m.s) (d := a.m.d) (z := a.m.z) (n := a.n) hx h hs w
theorem racanon_ar {a x : Ar} {e' : Int} (hx : aoutF a = x) (h : argF a = e') (w : World) :
    Calls Try.prog 31 #[AV a] w fun e w' => e = .returned (.tuple #[AV x, .int .i64 e']) ∧ Below w.heap.size w w' := racanon_of (k := a.k) (rc := a.rc) (rn := a.rn) (bc := a.m.bc) (bn := a.m.bn) (ic := a.m.ic) (ix := a.m.ix) (s := a.m.s) (d := a.m.d) (z := a.m.z) (n := a.n) hx h w
theorem asize_ar {a : Ar} {v : Int} (h : asizeF a = v) (hs : I64 a.m.s) (w : World) :
    Calls Try.prog 37 #[AV a] w fun e w' => e = .returned (.int .i64 v) ∧ Below w.heap.size w w' := asize_of (k := a.k) (rc := a.rc) (rn := a.rn) (bc := a.m.bc) (bn := a.m.bn) (ic := a.m.ic) (ix := a.m.ix) (s := a.m.s) (d := a.m.d) (z := a.m.z) (n := a.n) h hs w
theorem rasize_ar {a : Ar} {v : Int} (h : asizeF a = v) (w : World) :
    Calls Try.prog 40 #[AV a] w fun e w' => e = .returned (.int .i64 v) ∧ Below w.heap.size w w' := rasize_of (k := a.k) (rc := a.rc) (rn := a.rn) (bc := a.m.bc) (bn := a.m.bn) (ic := a.m.ic) (ix := a.m.ix) (s := a.m.s) (d := a.m.d) (z := a.m.z) (n := a.n) h w
/-- How many operands are of a kind. -/
def manyF (l : List Ar) (kd : Int) : Nat := l.countP (fun a => a.k == kd)
theorem manyF_next {l : List Ar} {i : Nat} {a : Ar} (h : l[i]? = some a) (kd : Int) : manyF (l.take (i + 1)) kd = manyF (l.take i) kd + (if a.k = kd then 1 else 0) := by
  unfold manyF
  rw [List.take_add_one, h, List.countP_append]
  by_cases hk : a.k = kd
  · simp [hk]
  · simp [hk]
theorem manyF_le (l : List Ar) (kd : Int) : manyF l kd ≤ l.length := List.countP_le_length
set_option maxHeartbeats 1000000 in
theorem many_any (op : Int) (A : Option Addr) (c : Nat) (l : List Ar) (kd : Int) (hl : l.length ≤ 100) (w : World) (hA : Args w w.heap.size A l) :
    Calls Try.prog 43 #[.agg #[.int .i64 op, .slice A l.length c], .int .i64 kd] w fun e w' => e = .returned (.int .i64 (manyF l kd)) ∧ Below w.heap.size w w' := by
  have HA := hid hA
  clear hA
  go_enter Try.func43, Try.ntmps43
  go_wp2
  have HO := hid ((Own.nil w).alloc w.heap.size #[.int .i64 op, .slice A l.length c] 24 rfl)
  go_loopw [5, 6] (fun n i wr => ∃ k : Nat, k ≤ l.length ∧ i = .int .i64 k ∧ n = .int .i64 (manyF (l.take k) kd) ∧ wr = w.alloc (.cells #[.int .i64 op, .slice A l.length c] 24)) (fun _ i _ => l.length - (intOf i).toNat)
  case atStart => exact ⟨0, by omega, rfl, rfl, rfl⟩
  case round =>
    obtain ⟨k, hk, rfl, rfl, rfl⟩ := hrel
    by_cases hlt : k < l.length
    · obtain ⟨a, ha⟩ : ∃ a, l[k]? = some a := ⟨_, List.getElem?_eq_getElem hlt⟩
      rcases HA.out with h0 | ⟨b, off, rfl, hb, hc⟩
      · rw [h0] at hlt; simp at hlt
      have hcell := (args_cells hc ha).1
      have HN := hid (manyF_next ha kd)
      have HL : manyF (l.take k) kd ≤ 100 := Nat.le_trans (manyF_le _ _) (by rw [List.length_take]; omega)
      generalize manyF (l.take k) kd = t at HN HL
      by_cases hk : a.k = kd
      · have HM := hid (show manyF (l.take (k + 1)) kd = t + 1 by rw [HN.out, if_pos hk])
        clear hc ha HN
        go_wp2
        go_roundw
        case rel => exact ⟨k + 1, by omega, by go_num, by rw [HM.out]; go_num, trivial⟩
        case measure => simp [intOf]; omega
      · have HM := hid (show manyF (l.take (k + 1)) kd = t by rw [HN.out, if_neg hk]; rfl)
        clear hc ha HN
        go_wp2
        go_roundw
        case rel => exact ⟨k + 1, by omega, by go_num, by rw [HM.out], trivial⟩
        case measure => simp [intOf]; omega
    · have HK := hid (show l.take k = l by rw [List.take_of_length_le (by omega)])
      rw [HK.out]
      go_wp2
      go_ret
      exact ⟨rfl, HO.out.below⟩
end Go.Proofs.Ytmlmdbholakioaa
