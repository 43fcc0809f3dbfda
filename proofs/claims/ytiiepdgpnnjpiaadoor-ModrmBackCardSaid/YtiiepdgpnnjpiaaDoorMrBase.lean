/-
  What was seen, held against what was seen: == on structs of ten cells.
  Law 9: what its own functions answer: fails, first, r, place.
  Law 9: awake.
-/
import Derived.Test.YtiiepdgpnnjpiaaDoorWays
import Derived.BigQuiet
import Derived.Laws.StructEq
import Derived.Test.YtiiepdgpnnjpiaaDoorReads
import Derived.Test.YtiiepdgpnnjpiaaDoorMAll
import Derived.Test.YtiiepdgpnnjpiaaDoorFKit
import Derived.Test.YtiiepdgpnnjpiaaDoorOwns
section
namespace Go.Proofs.YtiiepdgpnnjpiaaDoor
open Go.RowKit

def seenEq (p q : Sn) (j k : Int) : Bool := p.f == q.f && p.r == q.r && ((p.m.bc == q.m.bc && p.m.bn == q.m.bn) && (p.m.ic == q.m.ic && p.m.ix == q.m.ix) && p.m.s == q.m.s && p.m.d == q.m.d && p.m.z == q.m.z) && j == k
theorem seenEq_self (p : Sn) (j : Int) : seenEq p p j j = true := by simp [seenEq]
theorem run_eq_reg (a b c d : Int) (n : Nat) (w : World) : (Op.equalIn (n + 4) 23 (.agg #[.int .i64 a, .int .i64 b]) (.agg #[.int .i64 c, .int .i64 d])).run Tryd.prog w = .ok (a == c && b == d) w := by
  cases h1 : (a == c)
  · simp [go_sem, *]
  · cases h2 : (b == d)
    all_goals simp [go_sem, *]
set_option maxHeartbeats 1000000 in
theorem run_eq_mem (p q : Pl) (n : Nat) (w : World) : (Op.equalIn (n + 6) 25 (.agg #[.int .i64 p.bc, .int .i64 p.bn, .int .i64 p.ic, .int .i64 p.ix, .int .i64 p.s, .int .i64 p.d, .int .i64 p.z]) (.agg #[.int .i64 q.bc, .int .i64 q.bn, .int .i64 q.ic, .int .i64 q.ix, .int .i64 q.s, .int .i64 q.d, .int .i64 q.z])).run Tryd.prog w = .ok ((p.bc == q.bc && p.bn == q.bn) && (p.ic == q.ic && p.ix == q.ix) && p.s == q.s && p.d == q.d && p.z == q.z) w := by
  have hr := run_eq_reg
  rw [run_equalIn_agg _ _ _ _ _ (by kernel_rfl) (by kernel_rfl)]
  simp only [Program.fieldsOf, Tryd.underlying25]
  cases h0 : (p.bc == q.bc && p.bn == q.bn)
  · simp [go_sem, Op.eqFields, hr, h0]
  ·
    cases h1 : (p.ic == q.ic && p.ix == q.ix)
    · simp [go_sem, Op.eqFields, hr, h0, h1]
    ·
      cases h2 : (p.s == q.s)
      · simp [go_sem, Op.eqFields, hr, h0, h1, h2]
      ·
        cases h3 : (p.d == q.d)
        · simp [go_sem, Op.eqFields, hr, h0, h1, h2, h3]
        ·
          cases h4 : (p.z == q.z)
          · simp [go_sem, Op.eqFields, hr, h0, h1, h2, h3, h4]
          · simp [go_sem, Op.eqFields, hr, h0, h1, h2, h3, h4]
set_option maxHeartbeats 1000000 in
theorem run_eq_seen (p q : Sn) (j k : Int) (n : Nat) (w : World) : (Op.equalIn (n + 8) 41 (.agg #[.int .i64 p.f, .int .i64 p.r, .int .i64 p.m.bc, .int .i64 p.m.bn, .int .i64 p.m.ic, .int .i64 p.m.ix, .int .i64 p.m.s, .int .i64 p.m.d, .int .i64 p.m.z, .int .i64 j]) (.agg #[.int .i64 q.f, .int .i64 q.r, .int .i64 q.m.bc, .int .i64 q.m.bn, .int .i64 q.m.ic, .int .i64 q.m.ix, .int .i64 q.m.s, .int .i64 q.m.d, .int .i64 q.m.z, .int .i64 k])).run Tryd.prog w = .ok (seenEq p q j k) w := by
  have hm := run_eq_mem p.m q.m
  unfold seenEq
  rw [run_equalIn_agg _ _ _ _ _ (by kernel_rfl) (by kernel_rfl)]
  simp only [Program.fieldsOf, Tryd.underlying41]
  cases h0 : (p.f == q.f)
  · simp [go_sem, Op.eqFields, hm, h0]
  ·
    cases h1 : (p.r == q.r)
    · simp [go_sem, Op.eqFields, hm, h0, h1]
    ·
      cases h2 : ((p.m.bc == q.m.bc && p.m.bn == q.m.bn) && (p.m.ic == q.m.ic && p.m.ix == q.m.ix) && p.m.s == q.m.s && p.m.d == q.m.d && p.m.z == q.m.z)
      · simp [go_sem, Op.eqFields, hm, h0, h1, h2]
      ·
        cases h3 : (j == k)
        · simp [go_sem, Op.eqFields, hm, h0, h1, h2, h3]
        · simp [go_sem, Op.eqFields, hm, h0, h1, h2, h3]
theorem run_eql_seen {p q : Sn} {j k : Int} {v : Bool} (h : seenEq p q j k = v) (w : World) : (binOp .eql 41 (.agg #[.int .i64 p.f, .int .i64 p.r, .int .i64 p.m.bc, .int .i64 p.m.bn, .int .i64 p.m.ic, .int .i64 p.m.ix, .int .i64 p.m.s, .int .i64 p.m.d, .int .i64 p.m.z, .int .i64 j]) (.agg #[.int .i64 q.f, .int .i64 q.r, .int .i64 q.m.bc, .int .i64 q.m.bn, .int .i64 q.m.ic, .int .i64 q.m.ix, .int .i64 q.m.s, .int .i64 q.m.d, .int .i64 q.m.z, .int .i64 k])).run Tryd.prog w = .ok (.bool v) w := by
  rw [run_eql_struct, run_eq_seen p q j k 9992 w, h]
  rfl
end Go.Proofs.YtiiepdgpnnjpiaaDoor
end
section
namespace Go.Proofs.YtiiepdgpnnjpiaaDoor
open Go.RowKit
set_option maxRecDepth 100000

theorem lr_any (n : Int) (w : World) :
    Calls Tryd.prog 18 #[.int .i64 n] w fun e w' => e = .returned (.agg #[.int .i64 5, .int .i64 n]) ∧ Below w.heap.size w w' := by
  go_enter Tryd.func18, Tryd.ntmps18
  go_wp2
  refine bodyPost_ret (v := .agg #[.int .i64 5, .int .i64 n]) (by simp [results, Tryd.results18, go_sem, *]) rfl ⟨rfl, ?_⟩
  go_grown
theorem fails_yes {A : Option Addr} {m c : Nat} {x er : Int} {xs : List Int} (hR : readA xs 0 x 0 = (er, zeroS, 0)) (hm : xs.length = m) (hmc : m ≤ c) (hmb : m ≤ 10000) (w : World) (hM : Mem w w.heap.size A xs) :
    Calls Tryd.prog 20 #[.slice A m c, .int .i64 x, .int .i64 er] w fun e w' => e = .returned (.bool true) ∧ Below w.heap.size w w' := by
  have H := mread_any A m c 0 x 0 xs w hm hmc (by omega) hM
  rw [hR] at H
  have HH := hid H
  have heq := run_eql_seen (seenEq_self zeroS 0)
  clear H hR hM
  go_enter Tryd.func20, Tryd.ntmps20
  go_wp2_with fail
  refine HH.out.mono ?_
  rintro e w1 ⟨rfl, hb1⟩
  simp only [RV, zeroS, zeroM] at heq ⊢
  have HB := hid hb1
  clear hb1
  go_wp2
  go_ret
  exact ⟨rfl, HB.out.alloc HB.out.size _⟩
theorem Whole.mem {w : World} {z : Zb} (h : Whole w z) (hb : isBytes z.y.bs) : Mem w (z.g + 1) (some ⟨z.g, 0, none⟩) z.y.bs := by
  obtain ⟨zs, h1, h2, h3, h4⟩ := h
  refine ⟨hb, .inr ⟨z.g, 0, rfl, Nat.lt_succ_self _, fun i hi => ?_⟩⟩
  rw [Nat.zero_add, h1.cell i (by omega)]
  have : z.y.bs[i]? = zs[i]? := by rw [← h3, List.getElem?_take, if_pos hi]
  rw [this]
/-- The first way's cells. -/
theorem LaysP.head {w : World} {base : Nat} {v : Value} {y : Way} {L : List Way} (h : LaysP w base v (y :: L)) : ∃ g c q k, v = .slice (some ⟨g, 0, none⟩) (L.length + 1) c ∧ L.length + 1 ≤ c ∧ base ≤ g ∧ base ≤ q ∧ (∀ j, j < 3 → w.cell? ⟨g, j, none⟩ = (#[Value.slice (some ⟨q, 0, none⟩) y.bs.length k, .int .i64 y.x, .int .i64 y.b] : Array Value)[j]?) ∧ Whole w ⟨q, k, y⟩ := by
  obtain ⟨Z, h1, h2, h3, _⟩ := h
  cases Z with
  | nil => simp at h1
  | cons z Z =>
    simp only [List.map_cons, List.cons.injEq] at h1
    obtain ⟨h1a, h1b⟩ := h1
    have hl : Z.length = L.length := by rw [← h1b, List.length_map]
    obtain ⟨q, k, y'⟩ := z
    simp only at h1a
    subst h1a
    rcases h2.2 with ⟨_, he⟩ | ⟨g, cap, cur, rfl, hg, _, hle, _⟩
    · simp at he
    · refine ⟨g, cap, q, k, by simp [hl], by simp [hl] at hle; omega, hg, (h3 _ List.mem_cons_self).1, ?_, (h3 _ List.mem_cons_self).2⟩
      intro j hj
      rw [h2.cellAt j (by simp; omega)]
      have : j = 0 ∨ j = 1 ∨ j = 2 := by omega
      rcases this with rfl | rfl | rfl <;> simp [zcells, ZV]
theorem first_yes {f k rc rn bc bn ic ix s d z n b : Int} {A : Option Addr} {m c : Nat} {want : List Int} {L : List Way} (hE : allE f ⟨k, rc, rn, ⟨bc, bn, ic, ix, s, d, z⟩, n⟩ = 0) (hF : allF f ⟨k, rc, rn, ⟨bc, bn, ic, ix, s, d, z⟩, n⟩ = ⟨want, 0, b⟩ :: L) (hs : I64 s) (hm : want.length = m) (w : World) (ht : Tz w) (hM : Mem w w.heap.size A want) :
    Calls Tryd.prog 19 #[.int .i64 f, AV ⟨k, rc, rn, ⟨bc, bn, ic, ix, s, d, z⟩, n⟩, .int .i64 b, .slice A m c] w fun e w' => e = .returned (.bool true) ∧ Below w.heap.size w w' := by
  have HO := hid ((Own.nil w).alloc w.heap.size #[.int .i64 k, .int .i64 rc, .int .i64 rn, .int .i64 bc, .int .i64 bn, .int .i64 ic, .int .i64 ix, .int .i64 s, .int .i64 d, .int .i64 z, .int .i64 n] 27 rfl)
  have HM := hid hM
  have HT := hid ht
  have HE := hid (And.intro hE hF)
  clear hM ht hE hF
  unfold AV
  go_enter Tryd.func19, Tryd.ntmps19
  go_wp2_with fail
  refine (mall_any f k rc rn bc bn ic ix s d z n hs _ (HT.out.below HO.out.below)).mono ?_
  unfold MAll
  rw [HE.out.1, HE.out.2]
  rintro e w1 ⟨v, rfl, hb1, hl1⟩
  obtain ⟨g, cc, q, kk, rfl, hcc, hg, hq, hcells, hwh⟩ := hl1.head
  have c0 := hcells 0 (by decide)
  have c1 := hcells 1 (by decide)
  have c2 := hcells 2 (by decide)
  simp only at c0 c1 c2
  have HB := hid (HO.out.below.trans (hb1.mono HO.out.below.size))
  have HW := hid hwh
  clear hb1 hl1 hcells hwh
  have hlen : (0 : Int) < ((L.length + 1 : Nat) : Int) := by omega
  go_wp2_with fail
  refine (same_of _ _ m m kk c want want w1 ⟨_, HW.out.mem (HM.out.1)⟩ ⟨_, HM.out.below HB.out⟩ hm hm).mono ?_
  rintro e w2 ⟨rfl, rfl⟩
  have hd : decide (want = want) = true := by simp
  rw [hd]
  go_wp2
  go_ret
  exact ⟨rfl, HB.out⟩
end Go.Proofs.YtiiepdgpnnjpiaaDoor
end
section
namespace Go.Proofs.YtiiepdgpnnjpiaaDoor
open Go.RowKit
set_option maxRecDepth 100000

theorem mem_new {W : World} {zs : List Int} (hz : isBytes zs) (hB : W.heap.size < (W.alloc (.cells (zs.map (Value.int .u8)).toArray 5)).heap.size) : Mem (W.alloc (.cells (zs.map (Value.int .u8)).toArray 5)) (W.alloc (.cells (zs.map (Value.int .u8)).toArray 5)).heap.size (some ⟨W.heap.size, 0, none⟩) zs :=
  (ByB.mem (t := 5) (heap_alloc_new W _) hz hB)
theorem is_bytes {zs : List Int} (h : zs.all (fun z => decide (0 ≤ z) && decide (z < 256)) = true) : isBytes zs := fun z hz => by simpa using List.all_eq_true.1 h z hz
set_option maxHeartbeats 2000000 in
theorem lawake_any (w : World) (ht : Tz w) : Calls Tryd.prog 12 #[] w fun e w' => e = .returned (.bool true) ∧ Below w.heap.size w w' := by
  have HT := hid ht
  have HR := hid (show readA [68, 32, 5] 0 0 0 = (0, ⟨0, -1, ⟨5, 0, 0, 0, 0, 5, 0⟩, 3⟩, 3) by kernel_rfl)
  have HF := hid (show readA [5, 0, 0] 0 0 0 = (9, zeroS, 0) by kernel_rfl)
  have HA := hid (show allE 2 ⟨1, 4, 1, ⟨0, 0, 0, 0, 0, 0, 0⟩, 0⟩ = 0 ∧ allF 2 ⟨1, 4, 1, ⟨0, 0, 0, 0, 0, 0, 0⟩, 0⟩ = ⟨[209], 0, 0⟩ :: [] from ⟨by kernel_rfl, by kernel_rfl⟩)
  have heq := run_eql_seen (seenEq_self ⟨0, -1, ⟨5, 0, 0, 0, 0, 5, 0⟩, 3⟩ 3)
  simp only at heq
  clear ht
  have HO := hid ((Own.nil w).alloc w.heap.size #[.int .u8 68, .int .u8 32, .int .u8 5] 5 rfl)
  have HM := hid (mem_new (W := w) (zs := [68, 32, 5]) (is_bytes (by decide)) (by simp))
  go_enter Tryd.func12, Tryd.ntmps12
  go_wp2_with fail
  refine (mread_any _ 3 3 0 0 0 [68, 32, 5] _ rfl (by decide) (by decide) HM.out).mono ?_
  rw [HR.out]
  rintro e w1 ⟨rfl, hb1⟩
  simp only [RV]
  have HO := hid (HO.out.call hb1)
  clear hb1
  go_wp2_with fail
  have HO := hid (HO.out.alloc w1.heap.size #[.int .i64 0, .int .i64 (-1), .int .i64 5, .int .i64 0, .int .i64 0, .int .i64 0, .int .i64 0, .int .i64 5, .int .i64 0, .int .i64 3] 41 rfl)
  generalize w1.alloc (.cells #[.int .i64 0, .int .i64 (-1), .int .i64 5, .int .i64 0, .int .i64 0, .int .i64 0, .int .i64 0, .int .i64 5, .int .i64 0, .int .i64 3] 41) = W at *
  have c0 := HO.out.c
  have z0 := HO.out.z
  have HTW := hid (HT.out.below HO.out.below)
  have hS := old_drew (Old.of (Below.refl W.heap.size W))
  go_region_held3 (fun w' => Below W.heap.size W w' ∧ ∀ b o, b < W.heap.size → w'.cell? ⟨b, o, none⟩ = W.cell? ⟨b, o, none⟩) (first | with_reducible assumption | (with_reducible refine old_kept ?_ (by assumption); with_reducible assumption) | exact old_drew (old_alloc (Old.of (Below.refl W.heap.size W)) _) | (refine old_alloc ?_ _; with_reducible assumption)) (first | (go_at_call 19; (refine (first_yes (f := 2) (k := 1) (rc := 4) (rn := 1) (bc := 0) (bn := 0) (ic := 0) (ix := 0) (s := 0) (d := 0) (z := 0) (n := 0) (want := [209]) (L := []) HA.out.1 HA.out.2 (by unfold I64; omega) rfl _ ((HTW.out.below (And.left ‹Below W.heap.size W _ ∧ _›))) (by exact mem_new (W := W) (zs := [209]) (is_bytes (by decide)) (by simp))).mono ?_); rintro e w5 ⟨rfl, hbel⟩) | (go_at_call 18; (with_reducible refine (lr_any _ _).mono ?_); rintro e w6 ⟨rfl, hbel⟩) | (go_at_call 20; (refine (fails_yes (xs := [5, 0, 0]) HF.out rfl (by decide) (by decide) _ (by exact mem_new (zs := [5, 0, 0]) (is_bytes (by decide)) (by simp))).mono ?_); rintro e w7 ⟨rfl, hbel⟩))
  have hk := (‹Below W.heap.size W w7 ∧ _›).1
  go_wp2
  go_ret
  exact ⟨rfl, HO.out.below.trans (hk.mono HO.out.below.size)⟩
end Go.Proofs.YtiiepdgpnnjpiaaDoor
end
