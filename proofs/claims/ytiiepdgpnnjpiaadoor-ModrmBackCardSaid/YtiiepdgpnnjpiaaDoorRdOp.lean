/-
  The program's reader: an operand; Read.
-/
import Derived.Test.YtiiepdgpnnjpiaaDoorRdPlaces
namespace Go.Proofs.YtiiepdgpnnjpiaaDoor
open Go.RowKit
set_option maxRecDepth 100000

theorem PlaceAns.parts {er p0 p1 p2 p3 p4 p5 p6 : Int} {n g : Nat} {bs : List Int} {sz a : Nat} {w w' : World} {e : Ending} (h : PlaceAns (er, ⟨p0, p1, p2, p3, p4, p5, p6⟩, n) g bs sz a w e w') :
    e = .returned (.tuple #[.agg #[.int .i64 p0, .int .i64 p1, .int .i64 p2, .int .i64 p3, .int .i64 p4, .int .i64 p5, .int .i64 p6], .int .i64 er]) ∧ w.grownBy w' (some g) ∧ (er = 0 → CurAt w' g bs sz ((a + n : Nat) : Int) 0) := h
/-- What was seen, as it lies in memory; the place behind it. -/
abbrev SV (s : Sn) (k : Int) : Value := .agg #[.int .i64 s.f, .int .i64 s.r, .int .i64 s.m.bc, .int .i64 s.m.bn, .int .i64 s.m.ic, .int .i64 s.m.ix, .int .i64 s.m.s, .int .i64 s.m.d, .int .i64 s.m.z, .int .i64 k]
set_option maxHeartbeats 1000000 in
theorem op_stop (g : Nat) (bs : List Int) (sz : Nat) (x b : Int) (w : World) (hc : CurAt w g bs sz sz 0) (hsz : sz ≤ 15) :
    Calls Tryd.prog 35 #[.agg #[.pointer (some ⟨g, 0, none⟩), .int .i64 x, .int .i64 b]] w fun e w' => e = .returned (.tuple #[.agg #[.int .i64 0, .int .i64 0, .int .i64 0, .int .i64 0, .int .i64 0, .int .i64 0, .int .i64 0, .int .i64 0, .int .i64 0, .int .i64 0], .int .i64 9]) ∧ w.grownBy w' (some g) := by
  have HC := hid hc
  have HG := hid hc.lt
  clear hc
  have HO := hid (((Own.nil w).alloc w.heap.size #[.pointer (some ⟨g, 0, none⟩), .int .i64 x, .int .i64 b] 70 rfl).alloc (w.heap.size + 1) #[.int .i64 0, .int .i64 0, .int .i64 0, .int .i64 0, .int .i64 0, .int .i64 0, .int .i64 0, .int .i64 0, .int .i64 0, .int .i64 0] 41 (by simp))
  go_enter Tryd.func35, Tryd.ntmps35
  go_wp2_with fail
  generalize hW1 : (w.alloc (.cells #[.pointer (some ⟨g, 0, none⟩), .int .i64 x, .int .i64 b] 70)).alloc (.cells #[.int .i64 0, .int .i64 0, .int .i64 0, .int .i64 0, .int .i64 0, .int .i64 0, .int .i64 0, .int .i64 0, .int .i64 0, .int .i64 0] 41) = W1 at *
  have HC1 := hid (HC.out.below HO.out.below HG.out)
  refine (byte_stop g bs sz _ HC1.out hsz).mono ?_
  rintro e wb ⟨rfl, hg1, hc1⟩
  obtain ⟨u, hu1, hu2, ho⟩ := HO.out.turn hg1 HG.out
  have HU := hid (And.intro hu1 hu2)
  have HO := hid ho
  have HC := hid hc1
  clear hg1 hc1 hu1 hu2 ho HC1 hW1
  have c0 := HO.out.tl.c
  have z0 := HO.out.tl.z
  have c1 := HO.out.c
  have z1 := HO.out.z
  have f1 := HO.out.f
  go_wp2_with fail
  refine (split_any 0 (by omega) _).mono ?_
  rintro e w2 ⟨rfl, rfl⟩
  go_wp2_with fail
  refine (err_any g bs sz _ _ _ HC.out).mono ?_
  rintro e w3 ⟨rfl, rfl⟩
  go_wp2_with fail
  refine (err_any g bs sz _ _ _ HC.out).mono ?_
  rintro e w3 ⟨rfl, rfl⟩
  have hge : u.heap.size ≤ w.heap.size + 1 := by have := HU.out.2; omega
  have hg3 : g ≠ w.heap.size + 1 := by have := HG.out; omega
  go_wp2_with (with_reducible change bodyPost _ _ _ Exit.ret _ _; go_loud (refine bodyPost_ret (v := .tuple #[.agg #[.int .i64 0, .int .i64 0, .int .i64 0, .int .i64 0, .int .i64 0, .int .i64 0, .int .i64 0, .int .i64 0, .int .i64 0, .int .i64 0], .int .i64 9]) (by simp [results, Tryd.results35, go_sem, *]) rfl ⟨rfl, turn_trans HU.out.1 (turn_of_below ?_ _)⟩))
  · repeat first | with_reducible exact HO.out.below | with_reducible refine below_set ?_ hge _ _ | with_reducible refine below_alloc ?_ _
set_option maxHeartbeats 1000000 in
theorem op_bytes (g : Nat) (bs : List Int) (sz a : Nat) (b i l s : Int)  (hs : Hid (getN (bs.take sz) a 1 false = s ∧ s / 64 = 3 ∧ s / 8 % 8 = i ∧ s % 8 = l)) (w : World) (hc : CurAt w g bs sz a 0) (hsz : sz ≤ 15) (has : a < sz) :
    Calls Tryd.prog 35 #[.agg #[.pointer (some ⟨g, 0, none⟩), .int .i64 1, .int .i64 b]] w fun e w' => e = .returned (.tuple #[.agg #[.int .i64 0, .int .i64 0, .int .i64 0, .int .i64 0, .int .i64 0, .int .i64 0, .int .i64 0, .int .i64 0, .int .i64 0, .int .i64 0], .int .i64 4]) ∧ w.grownBy w' (some g) := by
  have HC := hid hc
  have HG := hid hc.lt
  have HBs := hid (And.intro hc.2.1 (show sz ≤ bs.length by rw [hc.1]; exact hsz))
  clear hc
  have HO := hid (((Own.nil w).alloc w.heap.size #[.pointer (some ⟨g, 0, none⟩), .int .i64 1, .int .i64 b] 70 rfl).alloc (w.heap.size + 1) #[.int .i64 0, .int .i64 0, .int .i64 0, .int .i64 0, .int .i64 0, .int .i64 0, .int .i64 0, .int .i64 0, .int .i64 0, .int .i64 0] 41 (by simp))
  go_enter Tryd.func35, Tryd.ntmps35
  go_wp2_with fail
  generalize hW1 : (w.alloc (.cells #[.pointer (some ⟨g, 0, none⟩), .int .i64 1, .int .i64 b] 70)).alloc (.cells #[.int .i64 0, .int .i64 0, .int .i64 0, .int .i64 0, .int .i64 0, .int .i64 0, .int .i64 0, .int .i64 0, .int .i64 0, .int .i64 0] 41) = W1 at *
  have HC1 := hid (HC.out.below HO.out.below HG.out)
  refine (byte_ok g bs sz a _ HC1.out hsz has).mono ?_
  rintro e wb ⟨rfl, hg1, hc1⟩
  obtain ⟨u, hu1, hu2, ho⟩ := HO.out.turn hg1 HG.out
  have HU := hid (And.intro hu1 hu2)
  have HO := hid ho
  have HC := hid hc1
  clear hg1 hc1 hu1 hu2 ho HC1 hW1
  have c0 := HO.out.tl.c
  have z0 := HO.out.tl.z
  have c1 := HO.out.c
  have z1 := HO.out.z
  have f1 := HO.out.f
  rw [hs.out.1]
  have hs0 : 0 ≤ s ∧ s < 256 := hs.out.1 ▸ getN_byte HBs.out.1 HBs.out.2 has
  have hl : 0 ≤ l ∧ l ≤ 7 := by have := hs.out.2.2.2; omega
  go_wp2_with fail
  refine (split_any s hs0 _).mono ?_
  rintro e w2 ⟨rfl, rfl⟩
  rw [hs.out.2.1, hs.out.2.2.1, hs.out.2.2.2]
  go_wp2_with fail
  refine (err_any g bs sz _ _ _ HC.out).mono ?_
  rintro e w3 ⟨rfl, rfl⟩
  have hge : u.heap.size ≤ w.heap.size + 1 := by have := HU.out.2; omega
  have hg3 : g ≠ w.heap.size + 1 := by have := HG.out; omega
  go_wp2_with (with_reducible change bodyPost _ _ _ Exit.ret _ _; go_loud (refine bodyPost_ret (v := .tuple #[.agg #[.int .i64 0, .int .i64 0, .int .i64 0, .int .i64 0, .int .i64 0, .int .i64 0, .int .i64 0, .int .i64 0, .int .i64 0, .int .i64 0], .int .i64 4]) (by simp [results, Tryd.results35, go_sem, *]) rfl ⟨rfl, turn_trans HU.out.1 (turn_of_below ?_ _)⟩))
  · repeat first | with_reducible exact HO.out.below | with_reducible refine below_set ?_ hge _ _ | with_reducible refine below_alloc ?_ _
set_option maxHeartbeats 1000000 in
theorem op_reg (g : Nat) (bs : List Int) (sz a : Nat) (b i l s : Int) (hb : 0 ≤ b ∧ b ≤ 1) (hs : Hid (getN (bs.take sz) a 1 false = s ∧ s / 64 = 3 ∧ s / 8 % 8 = i ∧ s % 8 = l)) (w : World) (hc : CurAt w g bs sz a 0) (hsz : sz ≤ 15) (has : a < sz) :
    Calls Tryd.prog 35 #[.agg #[.pointer (some ⟨g, 0, none⟩), .int .i64 0, .int .i64 b]] w fun e w' => e = .returned (.tuple #[.agg #[.int .i64 i, .int .i64 (8 * b + l), .int .i64 0, .int .i64 0, .int .i64 0, .int .i64 0, .int .i64 0, .int .i64 0, .int .i64 0, .int .i64 0], .int .i64 0]) ∧ Turned w w' g bs sz ((a : Int) + 1) 0 := by
  have HC := hid hc
  have HG := hid hc.lt
  have HBs := hid (And.intro hc.2.1 (show sz ≤ bs.length by rw [hc.1]; exact hsz))
  clear hc
  have HO := hid (((Own.nil w).alloc w.heap.size #[.pointer (some ⟨g, 0, none⟩), .int .i64 0, .int .i64 b] 70 rfl).alloc (w.heap.size + 1) #[.int .i64 0, .int .i64 0, .int .i64 0, .int .i64 0, .int .i64 0, .int .i64 0, .int .i64 0, .int .i64 0, .int .i64 0, .int .i64 0] 41 (by simp))
  go_enter Tryd.func35, Tryd.ntmps35
  go_wp2_with fail
  generalize hW1 : (w.alloc (.cells #[.pointer (some ⟨g, 0, none⟩), .int .i64 0, .int .i64 b] 70)).alloc (.cells #[.int .i64 0, .int .i64 0, .int .i64 0, .int .i64 0, .int .i64 0, .int .i64 0, .int .i64 0, .int .i64 0, .int .i64 0, .int .i64 0] 41) = W1 at *
  have HC1 := hid (HC.out.below HO.out.below HG.out)
  refine (byte_ok g bs sz a _ HC1.out hsz has).mono ?_
  rintro e wb ⟨rfl, hg1, hc1⟩
  obtain ⟨u, hu1, hu2, ho⟩ := HO.out.turn hg1 HG.out
  have HU := hid (And.intro hu1 hu2)
  have HO := hid ho
  have HC := hid hc1
  clear hg1 hc1 hu1 hu2 ho HC1 hW1
  have c0 := HO.out.tl.c
  have z0 := HO.out.tl.z
  have c1 := HO.out.c
  have z1 := HO.out.z
  have f1 := HO.out.f
  rw [hs.out.1]
  have hs0 : 0 ≤ s ∧ s < 256 := hs.out.1 ▸ getN_byte HBs.out.1 HBs.out.2 has
  have hl : 0 ≤ l ∧ l ≤ 7 := by have := hs.out.2.2.2; omega
  go_wp2_with fail
  refine (split_any s hs0 _).mono ?_
  rintro e w2 ⟨rfl, rfl⟩
  rw [hs.out.2.1, hs.out.2.2.1, hs.out.2.2.2]
  go_wp2_with fail
  refine (err_any g bs sz _ _ _ HC.out).mono ?_
  rintro e w3 ⟨rfl, rfl⟩
  have hge : u.heap.size ≤ w.heap.size + 1 := by have := HU.out.2; omega
  have hg3 : g ≠ w.heap.size + 1 := by have := HG.out; omega
  go_wp2_with (with_reducible change bodyPost _ _ _ Exit.ret _ _; go_loud (refine bodyPost_ret (v := .tuple #[.agg #[.int .i64 i, .int .i64 (8 * b + l), .int .i64 0, .int .i64 0, .int .i64 0, .int .i64 0, .int .i64 0, .int .i64 0, .int .i64 0, .int .i64 0], .int .i64 0]) (by simp [results, Tryd.results35, go_sem, *]) rfl ⟨rfl, turned_mk (turn_trans HU.out.1 (turn_of_below ?_ _)) ?_⟩))
  · repeat first | with_reducible exact HO.out.below | with_reducible refine below_set ?_ hge _ _ | with_reducible refine below_alloc ?_ _
  · repeat first | with_reducible exact HC.out | with_reducible refine CurAt.far ?_ hg3 _ _ | with_reducible refine CurAt.alloc ?_ _ | exact HC.out
set_option maxHeartbeats 1000000 in
theorem op_ok (g : Nat) (bs : List Int) (sz a n : Nat) (x b q i l s p0 p1 p2 p3 p4 p5 p6 : Int) (hq : q = 0 ∨ q = 1 ∨ q = 2) (hq3 : ¬ q = 3) (hx : 0 ≤ x ∧ x ≤ 1) (hb : 0 ≤ b ∧ b ≤ 1) (HP : Hid (placeF q l x b ((bs.take sz).drop (a + 1)) = (0, ⟨p0, p1, p2, p3, p4, p5, p6⟩, n))) (hs : Hid (getN (bs.take sz) a 1 false = s ∧ s / 64 = q ∧ s / 8 % 8 = i ∧ s % 8 = l)) (w : World) (hc : CurAt w g bs sz a 0) (hsz : sz ≤ 15) (has : a < sz) :
    Calls Tryd.prog 35 #[.agg #[.pointer (some ⟨g, 0, none⟩), .int .i64 x, .int .i64 b]] w fun e w' => e = .returned (.tuple #[.agg #[.int .i64 i, .int .i64 (-1), .int .i64 p0, .int .i64 p1, .int .i64 p2, .int .i64 p3, .int .i64 p4, .int .i64 p5, .int .i64 p6, .int .i64 0], .int .i64 0]) ∧ Turned w w' g bs sz ((a + 1 + n : Nat) : Int) 0 := by
  have HC := hid hc
  have HG := hid hc.lt
  have HBs := hid (And.intro hc.2.1 (show sz ≤ bs.length by rw [hc.1]; exact hsz))
  clear hc
  have HO := hid (((Own.nil w).alloc w.heap.size #[.pointer (some ⟨g, 0, none⟩), .int .i64 x, .int .i64 b] 70 rfl).alloc (w.heap.size + 1) #[.int .i64 0, .int .i64 0, .int .i64 0, .int .i64 0, .int .i64 0, .int .i64 0, .int .i64 0, .int .i64 0, .int .i64 0, .int .i64 0] 41 (by simp))
  go_enter Tryd.func35, Tryd.ntmps35
  go_wp2_with fail
  generalize hW1 : (w.alloc (.cells #[.pointer (some ⟨g, 0, none⟩), .int .i64 x, .int .i64 b] 70)).alloc (.cells #[.int .i64 0, .int .i64 0, .int .i64 0, .int .i64 0, .int .i64 0, .int .i64 0, .int .i64 0, .int .i64 0, .int .i64 0, .int .i64 0] 41) = W1 at *
  have HC1 := hid (HC.out.below HO.out.below HG.out)
  refine (byte_ok g bs sz a _ HC1.out hsz has).mono ?_
  rintro e wb ⟨rfl, hg1, hc1⟩
  obtain ⟨u, hu1, hu2, ho⟩ := HO.out.turn hg1 HG.out
  have HU := hid (And.intro hu1 hu2)
  have HO := hid ho
  have HC := hid hc1
  clear hg1 hc1 hu1 hu2 ho HC1 hW1
  have c0 := HO.out.tl.c
  have z0 := HO.out.tl.z
  have c1 := HO.out.c
  have z1 := HO.out.z
  have f1 := HO.out.f
  rw [hs.out.1]
  have hs0 : 0 ≤ s ∧ s < 256 := hs.out.1 ▸ getN_byte HBs.out.1 HBs.out.2 has
  have hl : 0 ≤ l ∧ l ≤ 7 := by have := hs.out.2.2.2; omega
  go_wp2_with fail
  refine (split_any s hs0 _).mono ?_
  rintro e w2 ⟨rfl, rfl⟩
  rw [hs.out.2.1, hs.out.2.2.1, hs.out.2.2.2]
  go_wp2_with fail
  refine (err_any g bs sz _ _ _ HC.out).mono ?_
  rintro e w3 ⟨rfl, rfl⟩
  go_wp2_with fail
  have HC := hid (show CurAt wb g bs sz ((a + 1 : Nat) : Int) 0 by rw [show ((a + 1 : Nat) : Int) = (a : Int) + 1 by omega]; exact HC.out)
  refine (rdplace_any g bs sz (a + 1) q l x b hq hl hx hb _ HC.out hsz has).mono ?_
  rw [HP.out]
  intro e wp hans
  obtain ⟨rfl, hg2, hc2⟩ := hans.parts
  clear hans
  obtain ⟨u2, hu1, hu2, ho⟩ := HO.out.turn2 hg2 HU.out.2 HG.out
  have HU2 := hid (And.intro (turn_trans HU.out.1 hu1) hu2)
  have HO := hid ho
  have HC := hid hc2
  clear hg2 hc2 hu1 hu2 ho c0 z0 c1 z1 f1
  have c0 := HO.out.tl.c
  have z0 := HO.out.tl.z
  have c1 := HO.out.c
  have z1 := HO.out.z
  have f1 := HO.out.f
  have a0 := HO.out.tl.a
  have a1 := HO.out.a
  have b1 := HO.out.fa
  have HCK := hid (HC.out rfl)
  clear HC
  have HC := HCK
  clear HCK
  have hge : u2.heap.size ≤ w.heap.size + 1 := by have := HU2.out.2; omega
  have hg3 : g ≠ w.heap.size + 1 := by have := HG.out; omega
  go_wp2_with (with_reducible change bodyPost _ _ _ Exit.ret _ _; go_loud (refine bodyPost_ret (v := .tuple #[.agg #[.int .i64 i, .int .i64 (-1), .int .i64 p0, .int .i64 p1, .int .i64 p2, .int .i64 p3, .int .i64 p4, .int .i64 p5, .int .i64 p6, .int .i64 0], .int .i64 0]) (by simp [results, Tryd.results35, go_sem, *]) rfl ⟨rfl, turned_mk (turn_trans HU2.out.1 (turn_of_below ?_ _)) ?_⟩))
  · repeat first | with_reducible exact HO.out.below | with_reducible refine below_set ?_ hge _ _ | with_reducible refine below_alloc ?_ _
  · repeat first | with_reducible exact HC.out | with_reducible refine CurAt.far ?_ hg3 _ _ | with_reducible refine CurAt.alloc ?_ _ | exact HC.out
set_option maxHeartbeats 1000000 in
theorem op_err (g : Nat) (bs : List Int) (sz a n : Nat) (x b q i l s p0 p1 p2 p3 p4 p5 p6 er : Int) (hq : q = 0 ∨ q = 1 ∨ q = 2) (hq3 : ¬ q = 3) (hx : 0 ≤ x ∧ x ≤ 1) (hb : 0 ≤ b ∧ b ≤ 1) (HP : Hid (placeF q l x b ((bs.take sz).drop (a + 1)) = (er, ⟨p0, p1, p2, p3, p4, p5, p6⟩, n))) (hs : Hid (getN (bs.take sz) a 1 false = s ∧ s / 64 = q ∧ s / 8 % 8 = i ∧ s % 8 = l)) (w : World) (hc : CurAt w g bs sz a 0) (hsz : sz ≤ 15) (has : a < sz) :
    Calls Tryd.prog 35 #[.agg #[.pointer (some ⟨g, 0, none⟩), .int .i64 x, .int .i64 b]] w fun e w' => (∃ (y : Sn) (k : Int), e = .returned (.tuple #[SV y k, .int .i64 er])) ∧ w.grownBy w' (some g) := by
  have HC := hid hc
  have HG := hid hc.lt
  have HBs := hid (And.intro hc.2.1 (show sz ≤ bs.length by rw [hc.1]; exact hsz))
  clear hc
  have HO := hid (((Own.nil w).alloc w.heap.size #[.pointer (some ⟨g, 0, none⟩), .int .i64 x, .int .i64 b] 70 rfl).alloc (w.heap.size + 1) #[.int .i64 0, .int .i64 0, .int .i64 0, .int .i64 0, .int .i64 0, .int .i64 0, .int .i64 0, .int .i64 0, .int .i64 0, .int .i64 0] 41 (by simp))
  go_enter Tryd.func35, Tryd.ntmps35
  go_wp2_with fail
  generalize hW1 : (w.alloc (.cells #[.pointer (some ⟨g, 0, none⟩), .int .i64 x, .int .i64 b] 70)).alloc (.cells #[.int .i64 0, .int .i64 0, .int .i64 0, .int .i64 0, .int .i64 0, .int .i64 0, .int .i64 0, .int .i64 0, .int .i64 0, .int .i64 0] 41) = W1 at *
  have HC1 := hid (HC.out.below HO.out.below HG.out)
  refine (byte_ok g bs sz a _ HC1.out hsz has).mono ?_
  rintro e wb ⟨rfl, hg1, hc1⟩
  obtain ⟨u, hu1, hu2, ho⟩ := HO.out.turn hg1 HG.out
  have HU := hid (And.intro hu1 hu2)
  have HO := hid ho
  have HC := hid hc1
  clear hg1 hc1 hu1 hu2 ho HC1 hW1
  have c0 := HO.out.tl.c
  have z0 := HO.out.tl.z
  have c1 := HO.out.c
  have z1 := HO.out.z
  have f1 := HO.out.f
  rw [hs.out.1]
  have hs0 : 0 ≤ s ∧ s < 256 := hs.out.1 ▸ getN_byte HBs.out.1 HBs.out.2 has
  have hl : 0 ≤ l ∧ l ≤ 7 := by have := hs.out.2.2.2; omega
  go_wp2_with fail
  refine (split_any s hs0 _).mono ?_
  rintro e w2 ⟨rfl, rfl⟩
  rw [hs.out.2.1, hs.out.2.2.1, hs.out.2.2.2]
  go_wp2_with fail
  refine (err_any g bs sz _ _ _ HC.out).mono ?_
  rintro e w3 ⟨rfl, rfl⟩
  go_wp2_with fail
  have HC := hid (show CurAt wb g bs sz ((a + 1 : Nat) : Int) 0 by rw [show ((a + 1 : Nat) : Int) = (a : Int) + 1 by omega]; exact HC.out)
  refine (rdplace_any g bs sz (a + 1) q l x b hq hl hx hb _ HC.out hsz has).mono ?_
  rw [HP.out]
  intro e wp hans
  obtain ⟨rfl, hg2, hc2⟩ := hans.parts
  clear hans
  obtain ⟨u2, hu1, hu2, ho⟩ := HO.out.turn2 hg2 HU.out.2 HG.out
  have HU2 := hid (And.intro (turn_trans HU.out.1 hu1) hu2)
  have HO := hid ho
  have HC := hid hc2
  clear hg2 hc2 hu1 hu2 ho c0 z0 c1 z1 f1
  have c0 := HO.out.tl.c
  have z0 := HO.out.tl.z
  have c1 := HO.out.c
  have z1 := HO.out.z
  have f1 := HO.out.f
  have a0 := HO.out.tl.a
  have a1 := HO.out.a
  have b1 := HO.out.fa
  have hge : u2.heap.size ≤ w.heap.size + 1 := by have := HU2.out.2; omega
  have hg3 : g ≠ w.heap.size + 1 := by have := HG.out; omega
  go_wp2_with (with_reducible change bodyPost _ _ _ Exit.ret _ _; go_loud (refine bodyPost_ret (v := .tuple #[.agg #[.int .i64 i, .int .i64 (-1), .int .i64 p0, .int .i64 p1, .int .i64 p2, .int .i64 p3, .int .i64 p4, .int .i64 p5, .int .i64 p6, .int .i64 0], .int .i64 er]) (by simp [results, Tryd.results35, go_sem, *]) rfl ⟨⟨⟨i, -1, ⟨p0, p1, p2, p3, p4, p5, p6⟩, 0⟩, 0, rfl⟩, turn_trans HU2.out.1 (turn_of_below ?_ _)⟩))
  · repeat first | with_reducible exact HO.out.below | with_reducible refine below_set ?_ hge _ _ | with_reducible refine below_alloc ?_ _
end Go.Proofs.YtiiepdgpnnjpiaaDoor
