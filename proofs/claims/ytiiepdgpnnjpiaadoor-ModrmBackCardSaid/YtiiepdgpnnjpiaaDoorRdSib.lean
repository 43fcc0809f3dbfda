/-
  The program's reader: SIB.
-/
import Derived.Test.YtiiepdgpnnjpiaaDoorDisp
import Derived.Test.YtiiepdgpnnjpiaaDoorSib
import Derived.Test.YtiiepdgpnnjpiaaDoorOwns
import Derived.OwnWalk
import Derived.RangeFuncRecord
namespace Go.Proofs.YtiiepdgpnnjpiaaDoor
open Go.RowKit
set_option maxRecDepth 100000

/-- The call's own blocks behind what turns one elder block. -/
theorem Own.turn {w wx wy : World} {l : List Blk} {g : Nat} (h : Own w l wx) (hg : wx.grownBy wy (some g)) (hlt : g < w.heap.size) : ∃ u : World, w.grownBy u (some g) ∧ u.heap.size = w.heap.size ∧ Own u l wy := by
  obtain ⟨o, ho⟩ : ∃ o, wy.heap[g]? = some o := ⟨_, Array.getElem?_eq_getElem (Nat.lt_of_lt_of_le hlt (Nat.le_trans h.1.size hg.size))⟩
  refine ⟨w.putObj g o, ⟨rfl, rfl, rfl, by simp, fun k hk hr => World.putObj_heap_other (fun e => hr (by rw [e]))⟩, World.putObj_size, ⟨?_, ?_, h.2.2⟩⟩
  · refine ⟨hg.os.trans h.1.os, hg.tape.trans h.1.tape, hg.output.trans h.1.output, by have := hg.size; have := h.1.size; simp; omega, fun k hk => ?_⟩
    rw [World.putObj_size] at hk
    by_cases e : k = g
    · subst e
      rw [World.putObj_heap_same hlt, ho]
    · rw [World.putObj_heap_other e]
      exact (hg.block k (Nat.lt_of_lt_of_le hk h.1.size) (by simpa using e)).trans (h.1.block k hk)
  · intro x hx
    have h1 := h.2.1 x hx
    rw [World.putObj_size]
    exact ⟨h1.1, (hg.block x.b (h.lt hx) (by simp; omega)).trans h1.2⟩
/-- A cursor's answer. -/
def Turned (w w' : World) (g : Nat) (bs : List Int) (sz a er : Int) : Prop := w.grownBy w' (some g) ∧ CurAt w' g bs sz a er
theorem getN_one {xs : List Int} (h : isBytes xs) (a : Nat) (ha : a < xs.length) : getN xs a 1 false = xs[a]?.getD 0 ∧ 0 ≤ xs[a]?.getD 0 ∧ xs[a]?.getD 0 < 256 := by
  have e : (xs.drop a).take 1 = [xs[a]] := by
    rw [List.drop_eq_getElem_cons ha]; rfl
  have hr := h xs[a] (List.getElem_mem ha)
  have e2 : xs[a]?.getD 0 = xs[a] := by rw [List.getElem?_eq_getElem ha]; rfl
  have e3 := getN_ok xs a 1 false rfl (by omega)
  rw [e2]
  refine ⟨?_, hr⟩
  refine e3.trans ?_
  simp only [numAt, e, le, Bool.false_eq_true, if_false]
  have : wrap64 (xs[a] + 256 * 0) = xs[a] := by rw [Int.mul_zero, Int.add_zero]; exact IntWalk.wrap64_in _ ⟨by omega, by omega⟩
  exact this
theorem getN_byte {bs : List Int} (h : isBytes bs) {sz a : Nat} (h1 : sz ≤ bs.length) (h2 : a < sz) : 0 ≤ getN (bs.take sz) a 1 false ∧ getN (bs.take sz) a 1 false < 256 := by
  have := getN_one (h.take sz) a (by rw [List.length_take]; omega)
  rw [this.1]
  exact this.2
theorem i1_ok : (0 : Int) ≤ 1 ∧ (1 : Int) ≤ 1 := by omega
theorem i4 : (0 : Int) ≤ 4 ∧ (4 : Int) ≤ 7 := by omega
theorem i5 : (0 : Int) ≤ 5 ∧ (5 : Int) ≤ 7 := by omega
theorem CurAt.far {w : World} {g b : Nat} {bs : List Int} {sz a er : Int} (h : CurAt w g bs sz a er) (hne : g ≠ b) (i : Nat) (v : Value) : CurAt (w.setCell ⟨b, i, none⟩ v) g bs sz a er := ⟨h.1, h.2.1, (Below.heap_setCell _ _ _ _ hne).trans h.2.2⟩
theorem below_set {u w : World} {k : Nat} (h : Below u.heap.size u w) (hk : u.heap.size ≤ k) (i : Nat) (v : Value) : Below u.heap.size u (w.setCell ⟨k, i, none⟩ v) := h.setCell hk v
theorem below_alloc {u w : World} (h : Below u.heap.size u w) (o : Obj) : Below u.heap.size u (w.alloc o) := h.alloc h.size o
theorem CurAt.alloc {w : World} {g : Nat} {bs : List Int} {sz a er : Int} (h : CurAt w g bs sz a er) (o : Obj) : CurAt (w.alloc o) g bs sz a er := h.below ((Below.refl _ _).alloc (Nat.le_refl _) o) h.lt
theorem turned_mk {w w' : World} {g : Nat} {bs : List Int} {sz a er : Int} (h : w.grownBy w' (some g)) (k : CurAt w' g bs sz a er) : Turned w w' g bs sz a er := ⟨h, k⟩
theorem turn_of_below {u w : World} (h : Below u.heap.size u w) (row : Option Nat) : u.grownBy w row := ⟨h.os, h.tape, h.output, h.size, fun k hk _ => h.block k hk⟩
theorem wrap_pow {q : Int} (hq : 0 ≤ q ∧ q ≤ 3) : IntKind.i64.wrap (2 ^ q.toNat) = 2 ^ q.toNat := by
  have : q = 0 ∨ q = 1 ∨ q = 2 ∨ q = 3 := by omega
  rcases this with rfl | rfl | rfl | rfl <;> decide
set_option maxHeartbeats 1000000 in
theorem sib_stop (g : Nat) (bs : List Int) (sz : Nat) (x b mod : Int) (w : World) (hc : CurAt w g bs sz sz 0) (hsz : sz ≤ 15) :
    Calls Tryd.prog 88 #[.agg #[.pointer (some ⟨g, 0, none⟩), .int .i64 x, .int .i64 b], .int .i64 mod] w fun e w' => e = .returned (.tuple #[.agg #[.int .i64 0, .int .i64 0, .int .i64 0, .int .i64 0, .int .i64 0, .int .i64 0, .int .i64 0], .int .i64 9]) ∧ Turned w w' g bs sz sz 9 := by
  have HC := hid hc
  have HG := hid hc.lt
  clear hc
  have HO := hid (((Own.nil w).alloc w.heap.size #[.pointer (some ⟨g, 0, none⟩), .int .i64 x, .int .i64 b] 70 rfl).alloc (w.heap.size + 1) #[.int .i64 0, .int .i64 0, .int .i64 0, .int .i64 0, .int .i64 0, .int .i64 0, .int .i64 0] 25 (by simp))
  go_enter Tryd.func88, Tryd.ntmps88
  go_wp2_with fail
  generalize hW1 : (w.alloc (.cells #[.pointer (some ⟨g, 0, none⟩), .int .i64 x, .int .i64 b] 70)).alloc (.cells #[.int .i64 0, .int .i64 0, .int .i64 0, .int .i64 0, .int .i64 0, .int .i64 0, .int .i64 0] 25) = W1 at *
  have HC1 := hid (HC.out.below HO.out.below HG.out)
  refine (byte_stop g bs sz _ HC1.out hsz).mono ?_
  rintro e wb ⟨rfl, hg1, hc1⟩
  obtain ⟨u, hu1, hu2, ho⟩ := HO.out.turn hg1 HG.out
  have HU := hid (And.intro hu1 hu2)
  have HO := hid ho
  have HC := hid hc1
  clear hg1 hc1 hu1 hu2 ho HC1 hW1
  have c0 := HO.out.tl.c
  have z0 := HO.out.tl.z
  have c1 := HO.out.c
  have z1 := HO.out.z
  have f1 := HO.out.f
  go_wp2_with fail
  refine (split_any 0 (by omega) _).mono ?_
  rintro e w2 ⟨rfl, rfl⟩
  go_wp2_with fail
  refine (err_any g bs sz _ _ _ HC.out).mono ?_
  rintro e w3 ⟨rfl, rfl⟩
  have hge : u.heap.size ≤ w.heap.size + 1 := by have := HU.out.2; omega
  have hg3 : g ≠ w.heap.size + 1 := by have := HG.out; omega
  go_wp2_with (with_reducible change bodyPost _ _ _ Exit.ret _ _; go_loud (refine bodyPost_ret (v := .tuple #[.agg #[.int .i64 0, .int .i64 0, .int .i64 0, .int .i64 0, .int .i64 0, .int .i64 0, .int .i64 0], .int .i64 9]) (by simp [results, Tryd.results88, go_sem, *]) rfl ⟨rfl, turned_mk (turn_trans HU.out.1 (turn_of_below ?_ _)) ?_⟩))
  · repeat first | with_reducible exact HO.out.below | with_reducible refine below_set ?_ hge _ _
  · repeat first | with_reducible exact HC.out | with_reducible refine CurAt.far ?_ hg3 _ _
set_option maxHeartbeats 1000000 in
theorem sib_a_a (g : Nat) (bs : List Int) (sz a : Nat) (x b mod i q l s : Int) (hx : 0 ≤ x ∧ x ≤ 1) (hb : 0 ≤ b ∧ b ≤ 1)  (hi : 0 ≤ i ∧ i ≤ 7) (hq : 0 ≤ q ∧ q ≤ 3) (hl : 0 ≤ l ∧ l ≤ 7) (h4 : ¬ i = 4) (h5 : ¬ l = 5) (hs : Hid (getN (bs.take sz) a 1 false = s ∧ s / 64 = q ∧ s / 8 % 8 = i ∧ s % 8 = l)) (w : World) (hc : CurAt w g bs sz a 0) (hsz : sz ≤ 15) (has : a < sz) :
    Calls Tryd.prog 88 #[.agg #[.pointer (some ⟨g, 0, none⟩), .int .i64 x, .int .i64 b], .int .i64 mod] w fun e w' => e = .returned (.tuple #[.agg #[.int .i64 (5), .int .i64 (8 * b + l), .int .i64 (5), .int .i64 (8 * x + i), .int .i64 (2 ^ q.toNat), .int .i64 0, .int .i64 0], .int .i64 0]) ∧ Turned w w' g bs sz ((a : Int) + 1) 0 := by
  have HC := hid hc
  have HG := hid hc.lt
  have HBs := hid (And.intro hc.2.1 (show sz ≤ bs.length by rw [hc.1]; exact hsz))
  clear hc
  have HO := hid (((Own.nil w).alloc w.heap.size #[.pointer (some ⟨g, 0, none⟩), .int .i64 x, .int .i64 b] 70 rfl).alloc (w.heap.size + 1) #[.int .i64 0, .int .i64 0, .int .i64 0, .int .i64 0, .int .i64 0, .int .i64 0, .int .i64 0] 25 (by simp))
  go_enter Tryd.func88, Tryd.ntmps88
  go_wp2_with fail
  generalize hW1 : (w.alloc (.cells #[.pointer (some ⟨g, 0, none⟩), .int .i64 x, .int .i64 b] 70)).alloc (.cells #[.int .i64 0, .int .i64 0, .int .i64 0, .int .i64 0, .int .i64 0, .int .i64 0, .int .i64 0] 25) = W1 at *
  have HC1 := hid (HC.out.below HO.out.below HG.out)
  refine (byte_ok g bs sz a _ HC1.out hsz has).mono ?_
  rintro e wb ⟨rfl, hg1, hc1⟩
  obtain ⟨u, hu1, hu2, ho⟩ := HO.out.turn hg1 HG.out
  have HU := hid (And.intro hu1 hu2)
  have HO := hid ho
  have HC := hid hc1
  clear hg1 hc1 hu1 hu2 ho HC1 hW1
  have c0 := HO.out.tl.c
  have z0 := HO.out.tl.z
  have c1 := HO.out.c
  have z1 := HO.out.z
  have f1 := HO.out.f
  rw [hs.out.1]
  have hs0 : 0 ≤ s ∧ s < 256 := hs.out.1 ▸ getN_byte HBs.out.1 HBs.out.2 has
  go_wp2_with fail
  refine (split_any s hs0 _).mono ?_
  rintro e w2 ⟨rfl, rfl⟩
  rw [hs.out.2.1, hs.out.2.2.1, hs.out.2.2.2]
  go_wp2_with fail
  refine (err_any g bs sz _ _ _ HC.out).mono ?_
  rintro e w3 ⟨rfl, rfl⟩
  have hzb := HO.out.z
  have hn1 : ¬ wb.heap.size = w.heap.size + 1 := by omega
  have hn2 : ¬ w.heap.size + 1 = wb.heap.size := by omega
  have hn3 : ¬ w.heap.size = wb.heap.size := by omega
  have hn4 : ¬ wb.heap.size = w.heap.size := by omega
  have HM := hid (HO.out.alloc wb.heap.size #[.int .i64 0, .int .i64 0, .int .i64 0, .int .i64 0, .int .i64 0, .int .i64 0, .int .i64 0] 25 rfl)
  have HCM := hid (HC.out.below ((Below.refl wb.heap.size wb).alloc (Nat.le_refl _) (.cells #[.int .i64 0, .int .i64 0, .int .i64 0, .int .i64 0, .int .i64 0, .int .i64 0, .int .i64 0] 25)) HC.out.lt)
  have a0 := HO.out.tl.a
  have a1 := HO.out.a
  have b1 := HO.out.fa
  go_wp2_with fail
  have hS := old_drew (old_alloc (Old.of (Below.refl wb.heap.size wb)) (.cells #[.int .i64 0, .int .i64 0, .int .i64 0, .int .i64 0, .int .i64 0, .int .i64 0, .int .i64 0] 25))
  go_region_held3 (fun w' => Below wb.heap.size wb w' ∧ ∀ b o, b < wb.heap.size → w'.cell? ⟨b, o, none⟩ = wb.cell? ⟨b, o, none⟩) (first | with_reducible assumption | (with_reducible refine old_kept ?_ (by assumption); with_reducible assumption) | (with_reducible refine old_set ?_ _ _ (by simp); first | with_reducible assumption | (with_reducible refine old_set ?_ _ _ (by simp); first | with_reducible assumption | (with_reducible refine old_set ?_ _ _ (by simp); with_reducible assumption)))) (first | (go_at_call 89; (with_reducible refine (mwide_any x i hx hi _).mono ?_); rintro e w4 ⟨rfl, hbel⟩; obtain ⟨hx4, hy4, hz4⟩ := bel_cells hbel wb.heap.size (by first | assumption | (simp; done))))
  rw [wrap_pow hq]
  have HM := hid ((((HM.out.drew.call hbel).set 2 (.int .i64 5)).set 3 (.int .i64 (8 * x + i))).set 4 (.int .i64 (2 ^ q.toNat)))
  have HCM := hid ((((HCM.out.below ((Below.refl _ _).drew.trans hbel) HCM.out.lt).far (Nat.ne_of_lt HC.out.lt) 2 (.int .i64 5)).far (Nat.ne_of_lt HC.out.lt) 3 (.int .i64 (8 * x + i))).far (Nat.ne_of_lt HC.out.lt) 4 (.int .i64 (2 ^ q.toNat)))
  clear hS hbel hx4 hy4 hz4
  clear a0 a1 b1
  generalize ((((w4.setCell ⟨wb.heap.size, 2, none⟩ (.int .i64 5)).setCell ⟨wb.heap.size, 3, none⟩ (.int .i64 (8 * x + i)))).setCell ⟨wb.heap.size, 4, none⟩ (.int .i64 (2 ^ q.toNat))) = wm at *
  clear c0 z0 c1 z1 f1
  have c0 := HM.out.tl.tl.c
  have z0 := HM.out.tl.tl.z
  have c1 := HM.out.tl.c
  have z1 := HM.out.tl.z
  have f1 := HM.out.tl.f
  have c2 := HM.out.c
  have f2 := HM.out.f
  have z2 := HM.out.z
  go_wp2_with fail
  clear c0 z0 c1 z1 f1 c2 f2 z2
  refine (mwide_any b l hb hl _).mono ?_
  rintro e w5 ⟨rfl, hb5⟩
  have HM := hid (HM.out.call hb5)
  have HCM := hid (HCM.out.below hb5 HCM.out.lt)
  clear hb5
  have c0 := HM.out.tl.tl.c
  have z0 := HM.out.tl.tl.z
  have c1 := HM.out.tl.c
  have z1 := HM.out.tl.z
  have f1 := HM.out.tl.f
  have c2 := HM.out.c
  have f2 := HM.out.f
  have z2 := HM.out.z
  have hge : u.heap.size ≤ w.heap.size + 1 := by have := HU.out.2; omega
  have hge2 : u.heap.size ≤ wb.heap.size := by have := HU.out.2; omega
  have hg3 : g ≠ w.heap.size + 1 := by have := HG.out; omega
  have hg4 : g ≠ wb.heap.size := by have := HG.out; omega
  go_wp2_with (with_reducible change bodyPost _ _ _ Exit.ret _ _; go_loud (refine bodyPost_ret (v := .tuple #[.agg #[.int .i64 (5), .int .i64 (8 * b + l), .int .i64 (5), .int .i64 (8 * x + i), .int .i64 (2 ^ q.toNat), .int .i64 0, .int .i64 0], .int .i64 0]) (by simp [results, Tryd.results88, go_sem, *]) rfl ⟨rfl, turned_mk (turn_trans HU.out.1 (turn_of_below ?_ _)) ?_⟩))
  · repeat first | with_reducible exact HM.out.below | with_reducible exact HO.out.below | with_reducible refine below_alloc ?_ _ | with_reducible refine below_set ?_ hge _ _ | with_reducible refine below_set ?_ hge2 _ _
  · repeat first | with_reducible exact HCM.out | with_reducible exact HC.out | with_reducible refine CurAt.alloc ?_ _ | with_reducible refine CurAt.far ?_ hg3 _ _ | with_reducible refine CurAt.far ?_ hg4 _ _
set_option maxHeartbeats 1000000 in
theorem sib_a_b (g : Nat) (bs : List Int) (sz a : Nat) (x b mod i q s : Int) (hx : 0 ≤ x ∧ x ≤ 1) (hb : 0 ≤ b ∧ b ≤ 1)  (hi : 0 ≤ i ∧ i ≤ 7) (hq : 0 ≤ q ∧ q ≤ 3) (h4 : ¬ i = 4) (h6 : ¬ mod = 0) (hs : Hid (getN (bs.take sz) a 1 false = s ∧ s / 64 = q ∧ s / 8 % 8 = i ∧ s % 8 = 5)) (w : World) (hc : CurAt w g bs sz a 0) (hsz : sz ≤ 15) (has : a < sz) :
    Calls Tryd.prog 88 #[.agg #[.pointer (some ⟨g, 0, none⟩), .int .i64 x, .int .i64 b], .int .i64 mod] w fun e w' => e = .returned (.tuple #[.agg #[.int .i64 (5), .int .i64 (8 * b + 5), .int .i64 (5), .int .i64 (8 * x + i), .int .i64 (2 ^ q.toNat), .int .i64 0, .int .i64 0], .int .i64 0]) ∧ Turned w w' g bs sz ((a : Int) + 1) 0 := by
  have HC := hid hc
  have HG := hid hc.lt
  have HBs := hid (And.intro hc.2.1 (show sz ≤ bs.length by rw [hc.1]; exact hsz))
  clear hc
  have HO := hid (((Own.nil w).alloc w.heap.size #[.pointer (some ⟨g, 0, none⟩), .int .i64 x, .int .i64 b] 70 rfl).alloc (w.heap.size + 1) #[.int .i64 0, .int .i64 0, .int .i64 0, .int .i64 0, .int .i64 0, .int .i64 0, .int .i64 0] 25 (by simp))
  go_enter Tryd.func88, Tryd.ntmps88
  go_wp2_with fail
  generalize hW1 : (w.alloc (.cells #[.pointer (some ⟨g, 0, none⟩), .int .i64 x, .int .i64 b] 70)).alloc (.cells #[.int .i64 0, .int .i64 0, .int .i64 0, .int .i64 0, .int .i64 0, .int .i64 0, .int .i64 0] 25) = W1 at *
  have HC1 := hid (HC.out.below HO.out.below HG.out)
  refine (byte_ok g bs sz a _ HC1.out hsz has).mono ?_
  rintro e wb ⟨rfl, hg1, hc1⟩
  obtain ⟨u, hu1, hu2, ho⟩ := HO.out.turn hg1 HG.out
  have HU := hid (And.intro hu1 hu2)
  have HO := hid ho
  have HC := hid hc1
  clear hg1 hc1 hu1 hu2 ho HC1 hW1
  have c0 := HO.out.tl.c
  have z0 := HO.out.tl.z
  have c1 := HO.out.c
  have z1 := HO.out.z
  have f1 := HO.out.f
  rw [hs.out.1]
  have hs0 : 0 ≤ s ∧ s < 256 := hs.out.1 ▸ getN_byte HBs.out.1 HBs.out.2 has
  go_wp2_with fail
  refine (split_any s hs0 _).mono ?_
  rintro e w2 ⟨rfl, rfl⟩
  rw [hs.out.2.1, hs.out.2.2.1, hs.out.2.2.2]
  go_wp2_with fail
  refine (err_any g bs sz _ _ _ HC.out).mono ?_
  rintro e w3 ⟨rfl, rfl⟩
  have hzb := HO.out.z
  have hn1 : ¬ wb.heap.size = w.heap.size + 1 := by omega
  have hn2 : ¬ w.heap.size + 1 = wb.heap.size := by omega
  have hn3 : ¬ w.heap.size = wb.heap.size := by omega
  have hn4 : ¬ wb.heap.size = w.heap.size := by omega
  have HM := hid (HO.out.alloc wb.heap.size #[.int .i64 0, .int .i64 0, .int .i64 0, .int .i64 0, .int .i64 0, .int .i64 0, .int .i64 0] 25 rfl)
  have HCM := hid (HC.out.below ((Below.refl wb.heap.size wb).alloc (Nat.le_refl _) (.cells #[.int .i64 0, .int .i64 0, .int .i64 0, .int .i64 0, .int .i64 0, .int .i64 0, .int .i64 0] 25)) HC.out.lt)
  have a0 := HO.out.tl.a
  have a1 := HO.out.a
  have b1 := HO.out.fa
  go_wp2_with fail
  have hS := old_drew (old_alloc (Old.of (Below.refl wb.heap.size wb)) (.cells #[.int .i64 0, .int .i64 0, .int .i64 0, .int .i64 0, .int .i64 0, .int .i64 0, .int .i64 0] 25))
  go_region_held3 (fun w' => Below wb.heap.size wb w' ∧ ∀ b o, b < wb.heap.size → w'.cell? ⟨b, o, none⟩ = wb.cell? ⟨b, o, none⟩) (first | with_reducible assumption | (with_reducible refine old_kept ?_ (by assumption); with_reducible assumption) | (with_reducible refine old_set ?_ _ _ (by simp); first | with_reducible assumption | (with_reducible refine old_set ?_ _ _ (by simp); first | with_reducible assumption | (with_reducible refine old_set ?_ _ _ (by simp); with_reducible assumption)))) (first | (go_at_call 89; (with_reducible refine (mwide_any x i hx hi _).mono ?_); rintro e w4 ⟨rfl, hbel⟩; obtain ⟨hx4, hy4, hz4⟩ := bel_cells hbel wb.heap.size (by first | assumption | (simp; done))))
  rw [wrap_pow hq]
  have HM := hid ((((HM.out.drew.call hbel).set 2 (.int .i64 5)).set 3 (.int .i64 (8 * x + i))).set 4 (.int .i64 (2 ^ q.toNat)))
  have HCM := hid ((((HCM.out.below ((Below.refl _ _).drew.trans hbel) HCM.out.lt).far (Nat.ne_of_lt HC.out.lt) 2 (.int .i64 5)).far (Nat.ne_of_lt HC.out.lt) 3 (.int .i64 (8 * x + i))).far (Nat.ne_of_lt HC.out.lt) 4 (.int .i64 (2 ^ q.toNat)))
  clear hS hbel hx4 hy4 hz4
  clear a0 a1 b1
  generalize ((((w4.setCell ⟨wb.heap.size, 2, none⟩ (.int .i64 5)).setCell ⟨wb.heap.size, 3, none⟩ (.int .i64 (8 * x + i)))).setCell ⟨wb.heap.size, 4, none⟩ (.int .i64 (2 ^ q.toNat))) = wm at *
  clear c0 z0 c1 z1 f1
  have c0 := HM.out.tl.tl.c
  have z0 := HM.out.tl.tl.z
  have c1 := HM.out.tl.c
  have z1 := HM.out.tl.z
  have f1 := HM.out.tl.f
  have c2 := HM.out.c
  have f2 := HM.out.f
  have z2 := HM.out.z
  go_wp2_with fail
  clear c0 z0 c1 z1 f1 c2 f2 z2
  refine (mwide_any b 5 hb i5 _).mono ?_
  rintro e w5 ⟨rfl, hb5⟩
  have HM := hid (HM.out.call hb5)
  have HCM := hid (HCM.out.below hb5 HCM.out.lt)
  clear hb5
  have c0 := HM.out.tl.tl.c
  have z0 := HM.out.tl.tl.z
  have c1 := HM.out.tl.c
  have z1 := HM.out.tl.z
  have f1 := HM.out.tl.f
  have c2 := HM.out.c
  have f2 := HM.out.f
  have z2 := HM.out.z
  have hge : u.heap.size ≤ w.heap.size + 1 := by have := HU.out.2; omega
  have hge2 : u.heap.size ≤ wb.heap.size := by have := HU.out.2; omega
  have hg3 : g ≠ w.heap.size + 1 := by have := HG.out; omega
  have hg4 : g ≠ wb.heap.size := by have := HG.out; omega
  go_wp2_with (with_reducible change bodyPost _ _ _ Exit.ret _ _; go_loud (refine bodyPost_ret (v := .tuple #[.agg #[.int .i64 (5), .int .i64 (8 * b + 5), .int .i64 (5), .int .i64 (8 * x + i), .int .i64 (2 ^ q.toNat), .int .i64 0, .int .i64 0], .int .i64 0]) (by simp [results, Tryd.results88, go_sem, *]) rfl ⟨rfl, turned_mk (turn_trans HU.out.1 (turn_of_below ?_ _)) ?_⟩))
  · repeat first | with_reducible exact HM.out.below | with_reducible exact HO.out.below | with_reducible refine below_alloc ?_ _ | with_reducible refine below_set ?_ hge _ _ | with_reducible refine below_set ?_ hge2 _ _
  · repeat first | with_reducible exact HCM.out | with_reducible exact HC.out | with_reducible refine CurAt.alloc ?_ _ | with_reducible refine CurAt.far ?_ hg3 _ _ | with_reducible refine CurAt.far ?_ hg4 _ _
set_option maxHeartbeats 1000000 in
theorem sib_a_0 (g : Nat) (bs : List Int) (sz a : Nat) (x i q s : Int) (hx : 0 ≤ x ∧ x ≤ 1) (hi : 0 ≤ i ∧ i ≤ 7) (hq : 0 ≤ q ∧ q ≤ 3) (h4 : ¬ i = 4) (hs : Hid (getN (bs.take sz) a 1 false = s ∧ s / 64 = q ∧ s / 8 % 8 = i ∧ s % 8 = 5)) (w : World) (hc : CurAt w g bs sz a 0) (hsz : sz ≤ 15) (has : a < sz) :
    Calls Tryd.prog 88 #[.agg #[.pointer (some ⟨g, 0, none⟩), .int .i64 x, .int .i64 0], .int .i64 0] w fun e w' => e = .returned (.tuple #[.agg #[.int .i64 (0), .int .i64 (0), .int .i64 (5), .int .i64 (8 * x + i), .int .i64 (2 ^ q.toNat), .int .i64 0, .int .i64 0], .int .i64 0]) ∧ Turned w w' g bs sz ((a : Int) + 1) 0 := by
  have HC := hid hc
  have HG := hid hc.lt
  have HBs := hid (And.intro hc.2.1 (show sz ≤ bs.length by rw [hc.1]; exact hsz))
  clear hc
  have HO := hid (((Own.nil w).alloc w.heap.size #[.pointer (some ⟨g, 0, none⟩), .int .i64 x, .int .i64 0] 70 rfl).alloc (w.heap.size + 1) #[.int .i64 0, .int .i64 0, .int .i64 0, .int .i64 0, .int .i64 0, .int .i64 0, .int .i64 0] 25 (by simp))
  go_enter Tryd.func88, Tryd.ntmps88
  go_wp2_with fail
  generalize hW1 : (w.alloc (.cells #[.pointer (some ⟨g, 0, none⟩), .int .i64 x, .int .i64 0] 70)).alloc (.cells #[.int .i64 0, .int .i64 0, .int .i64 0, .int .i64 0, .int .i64 0, .int .i64 0, .int .i64 0] 25) = W1 at *
  have HC1 := hid (HC.out.below HO.out.below HG.out)
  refine (byte_ok g bs sz a _ HC1.out hsz has).mono ?_
  rintro e wb ⟨rfl, hg1, hc1⟩
  obtain ⟨u, hu1, hu2, ho⟩ := HO.out.turn hg1 HG.out
  have HU := hid (And.intro hu1 hu2)
  have HO := hid ho
  have HC := hid hc1
  clear hg1 hc1 hu1 hu2 ho HC1 hW1
  have c0 := HO.out.tl.c
  have z0 := HO.out.tl.z
  have c1 := HO.out.c
  have z1 := HO.out.z
  have f1 := HO.out.f
  rw [hs.out.1]
  have hs0 : 0 ≤ s ∧ s < 256 := hs.out.1 ▸ getN_byte HBs.out.1 HBs.out.2 has
  go_wp2_with fail
  refine (split_any s hs0 _).mono ?_
  rintro e w2 ⟨rfl, rfl⟩
  rw [hs.out.2.1, hs.out.2.2.1, hs.out.2.2.2]
  go_wp2_with fail
  refine (err_any g bs sz _ _ _ HC.out).mono ?_
  rintro e w3 ⟨rfl, rfl⟩
  have hzb := HO.out.z
  have hn1 : ¬ wb.heap.size = w.heap.size + 1 := by omega
  have hn2 : ¬ w.heap.size + 1 = wb.heap.size := by omega
  have hn3 : ¬ w.heap.size = wb.heap.size := by omega
  have hn4 : ¬ wb.heap.size = w.heap.size := by omega
  have HM := hid (HO.out.alloc wb.heap.size #[.int .i64 0, .int .i64 0, .int .i64 0, .int .i64 0, .int .i64 0, .int .i64 0, .int .i64 0] 25 rfl)
  have HCM := hid (HC.out.below ((Below.refl wb.heap.size wb).alloc (Nat.le_refl _) (.cells #[.int .i64 0, .int .i64 0, .int .i64 0, .int .i64 0, .int .i64 0, .int .i64 0, .int .i64 0] 25)) HC.out.lt)
  have a0 := HO.out.tl.a
  have a1 := HO.out.a
  have b1 := HO.out.fa
  go_wp2_with fail
  have hS := old_drew (old_alloc (Old.of (Below.refl wb.heap.size wb)) (.cells #[.int .i64 0, .int .i64 0, .int .i64 0, .int .i64 0, .int .i64 0, .int .i64 0, .int .i64 0] 25))
  go_region_held3 (fun w' => Below wb.heap.size wb w' ∧ ∀ b o, b < wb.heap.size → w'.cell? ⟨b, o, none⟩ = wb.cell? ⟨b, o, none⟩) (first | with_reducible assumption | (with_reducible refine old_kept ?_ (by assumption); with_reducible assumption) | (with_reducible refine old_set ?_ _ _ (by simp); first | with_reducible assumption | (with_reducible refine old_set ?_ _ _ (by simp); first | with_reducible assumption | (with_reducible refine old_set ?_ _ _ (by simp); with_reducible assumption)))) (first | (go_at_call 89; (with_reducible refine (mwide_any x i hx hi _).mono ?_); rintro e w4 ⟨rfl, hbel⟩; obtain ⟨hx4, hy4, hz4⟩ := bel_cells hbel wb.heap.size (by first | assumption | (simp; done))))
  rw [wrap_pow hq]
  have HM := hid ((((HM.out.drew.call hbel).set 2 (.int .i64 5)).set 3 (.int .i64 (8 * x + i))).set 4 (.int .i64 (2 ^ q.toNat)))
  have HCM := hid ((((HCM.out.below ((Below.refl _ _).drew.trans hbel) HCM.out.lt).far (Nat.ne_of_lt HC.out.lt) 2 (.int .i64 5)).far (Nat.ne_of_lt HC.out.lt) 3 (.int .i64 (8 * x + i))).far (Nat.ne_of_lt HC.out.lt) 4 (.int .i64 (2 ^ q.toNat)))
  clear hS hbel hx4 hy4 hz4
  clear a0 a1 b1
  generalize ((((w4.setCell ⟨wb.heap.size, 2, none⟩ (.int .i64 5)).setCell ⟨wb.heap.size, 3, none⟩ (.int .i64 (8 * x + i)))).setCell ⟨wb.heap.size, 4, none⟩ (.int .i64 (2 ^ q.toNat))) = wm at *
  clear c0 z0 c1 z1 f1
  have c0 := HM.out.tl.tl.c
  have z0 := HM.out.tl.tl.z
  have c1 := HM.out.tl.c
  have z1 := HM.out.tl.z
  have f1 := HM.out.tl.f
  have c2 := HM.out.c
  have f2 := HM.out.f
  have z2 := HM.out.z
  have hge : u.heap.size ≤ w.heap.size + 1 := by have := HU.out.2; omega
  have hge2 : u.heap.size ≤ wb.heap.size := by have := HU.out.2; omega
  have hg3 : g ≠ w.heap.size + 1 := by have := HG.out; omega
  have hg4 : g ≠ wb.heap.size := by have := HG.out; omega
  go_wp2_with (with_reducible change bodyPost _ _ _ Exit.ret _ _; go_loud (refine bodyPost_ret (v := .tuple #[.agg #[.int .i64 (0), .int .i64 (0), .int .i64 (5), .int .i64 (8 * x + i), .int .i64 (2 ^ q.toNat), .int .i64 0, .int .i64 0], .int .i64 0]) (by simp [results, Tryd.results88, go_sem, *]) rfl ⟨rfl, turned_mk (turn_trans HU.out.1 (turn_of_below ?_ _)) ?_⟩))
  · repeat first | with_reducible exact HM.out.below | with_reducible exact HO.out.below | with_reducible refine below_alloc ?_ _ | with_reducible refine below_set ?_ hge _ _ | with_reducible refine below_set ?_ hge2 _ _
  · repeat first | with_reducible exact HCM.out | with_reducible exact HC.out | with_reducible refine CurAt.alloc ?_ _ | with_reducible refine CurAt.far ?_ hg3 _ _ | with_reducible refine CurAt.far ?_ hg4 _ _
set_option maxHeartbeats 1000000 in
theorem sib_a_1 (g : Nat) (bs : List Int) (sz a : Nat) (x i q s : Int) (hx : 0 ≤ x ∧ x ≤ 1) (hi : 0 ≤ i ∧ i ≤ 7) (hq : 0 ≤ q ∧ q ≤ 3) (h4 : ¬ i = 4) (hs : Hid (getN (bs.take sz) a 1 false = s ∧ s / 64 = q ∧ s / 8 % 8 = i ∧ s % 8 = 5)) (w : World) (hc : CurAt w g bs sz a 0) (hsz : sz ≤ 15) (has : a < sz) :
    Calls Tryd.prog 88 #[.agg #[.pointer (some ⟨g, 0, none⟩), .int .i64 x, .int .i64 1], .int .i64 0] w fun e w' => e = .returned (.tuple #[.agg #[.int .i64 (0), .int .i64 (0), .int .i64 (0), .int .i64 (0), .int .i64 (0), .int .i64 0, .int .i64 0], .int .i64 4]) ∧ Turned w w' g bs sz ((a : Int) + 1) 0 := by
  have HC := hid hc
  have HG := hid hc.lt
  have HBs := hid (And.intro hc.2.1 (show sz ≤ bs.length by rw [hc.1]; exact hsz))
  clear hc
  have HO := hid (((Own.nil w).alloc w.heap.size #[.pointer (some ⟨g, 0, none⟩), .int .i64 x, .int .i64 1] 70 rfl).alloc (w.heap.size + 1) #[.int .i64 0, .int .i64 0, .int .i64 0, .int .i64 0, .int .i64 0, .int .i64 0, .int .i64 0] 25 (by simp))
  go_enter Tryd.func88, Tryd.ntmps88
  go_wp2_with fail
  generalize hW1 : (w.alloc (.cells #[.pointer (some ⟨g, 0, none⟩), .int .i64 x, .int .i64 1] 70)).alloc (.cells #[.int .i64 0, .int .i64 0, .int .i64 0, .int .i64 0, .int .i64 0, .int .i64 0, .int .i64 0] 25) = W1 at *
  have HC1 := hid (HC.out.below HO.out.below HG.out)
  refine (byte_ok g bs sz a _ HC1.out hsz has).mono ?_
  rintro e wb ⟨rfl, hg1, hc1⟩
  obtain ⟨u, hu1, hu2, ho⟩ := HO.out.turn hg1 HG.out
  have HU := hid (And.intro hu1 hu2)
  have HO := hid ho
  have HC := hid hc1
  clear hg1 hc1 hu1 hu2 ho HC1 hW1
  have c0 := HO.out.tl.c
  have z0 := HO.out.tl.z
  have c1 := HO.out.c
  have z1 := HO.out.z
  have f1 := HO.out.f
  rw [hs.out.1]
  have hs0 : 0 ≤ s ∧ s < 256 := hs.out.1 ▸ getN_byte HBs.out.1 HBs.out.2 has
  go_wp2_with fail
  refine (split_any s hs0 _).mono ?_
  rintro e w2 ⟨rfl, rfl⟩
  rw [hs.out.2.1, hs.out.2.2.1, hs.out.2.2.2]
  go_wp2_with fail
  refine (err_any g bs sz _ _ _ HC.out).mono ?_
  rintro e w3 ⟨rfl, rfl⟩
  have hzb := HO.out.z
  have hn1 : ¬ wb.heap.size = w.heap.size + 1 := by omega
  have hn2 : ¬ w.heap.size + 1 = wb.heap.size := by omega
  have hn3 : ¬ w.heap.size = wb.heap.size := by omega
  have hn4 : ¬ wb.heap.size = w.heap.size := by omega
  have HM := hid (HO.out.alloc wb.heap.size #[.int .i64 0, .int .i64 0, .int .i64 0, .int .i64 0, .int .i64 0, .int .i64 0, .int .i64 0] 25 rfl)
  have HCM := hid (HC.out.below ((Below.refl wb.heap.size wb).alloc (Nat.le_refl _) (.cells #[.int .i64 0, .int .i64 0, .int .i64 0, .int .i64 0, .int .i64 0, .int .i64 0, .int .i64 0] 25)) HC.out.lt)
  have a0 := HO.out.tl.a
  have a1 := HO.out.a
  have b1 := HO.out.fa
  go_wp2_with fail
  have hS := old_drew (old_alloc (Old.of (Below.refl wb.heap.size wb)) (.cells #[.int .i64 0, .int .i64 0, .int .i64 0, .int .i64 0, .int .i64 0, .int .i64 0, .int .i64 0] 25))
  go_region_held3 (fun w' => Below wb.heap.size wb w' ∧ ∀ b o, b < wb.heap.size → w'.cell? ⟨b, o, none⟩ = wb.cell? ⟨b, o, none⟩) (first | with_reducible assumption | (with_reducible refine old_kept ?_ (by assumption); with_reducible assumption) | (with_reducible refine old_set ?_ _ _ (by simp); first | with_reducible assumption | (with_reducible refine old_set ?_ _ _ (by simp); first | with_reducible assumption | (with_reducible refine old_set ?_ _ _ (by simp); with_reducible assumption)))) (first | (go_at_call 89; (with_reducible refine (mwide_any x i hx hi _).mono ?_); rintro e w4 ⟨rfl, hbel⟩; obtain ⟨hx4, hy4, hz4⟩ := bel_cells hbel wb.heap.size (by first | assumption | (simp; done))))
  rw [wrap_pow hq]
  have HM := hid ((((HM.out.drew.call hbel).set 2 (.int .i64 5)).set 3 (.int .i64 (8 * x + i))).set 4 (.int .i64 (2 ^ q.toNat)))
  have HCM := hid ((((HCM.out.below ((Below.refl _ _).drew.trans hbel) HCM.out.lt).far (Nat.ne_of_lt HC.out.lt) 2 (.int .i64 5)).far (Nat.ne_of_lt HC.out.lt) 3 (.int .i64 (8 * x + i))).far (Nat.ne_of_lt HC.out.lt) 4 (.int .i64 (2 ^ q.toNat)))
  clear hS hbel hx4 hy4 hz4
  clear a0 a1 b1
  generalize ((((w4.setCell ⟨wb.heap.size, 2, none⟩ (.int .i64 5)).setCell ⟨wb.heap.size, 3, none⟩ (.int .i64 (8 * x + i)))).setCell ⟨wb.heap.size, 4, none⟩ (.int .i64 (2 ^ q.toNat))) = wm at *
  clear c0 z0 c1 z1 f1
  have c0 := HM.out.tl.tl.c
  have z0 := HM.out.tl.tl.z
  have c1 := HM.out.tl.c
  have z1 := HM.out.tl.z
  have f1 := HM.out.tl.f
  have c2 := HM.out.c
  have f2 := HM.out.f
  have z2 := HM.out.z
  have hge : u.heap.size ≤ w.heap.size + 1 := by have := HU.out.2; omega
  have hge2 : u.heap.size ≤ wb.heap.size := by have := HU.out.2; omega
  have hg3 : g ≠ w.heap.size + 1 := by have := HG.out; omega
  have hg4 : g ≠ wb.heap.size := by have := HG.out; omega
  go_wp2_with (with_reducible change bodyPost _ _ _ Exit.ret _ _; go_loud (refine bodyPost_ret (v := .tuple #[.agg #[.int .i64 (0), .int .i64 (0), .int .i64 (0), .int .i64 (0), .int .i64 (0), .int .i64 0, .int .i64 0], .int .i64 4]) (by simp [results, Tryd.results88, go_sem, *]) rfl ⟨rfl, turned_mk (turn_trans HU.out.1 (turn_of_below ?_ _)) ?_⟩))
  · repeat first | with_reducible exact HM.out.below | with_reducible exact HO.out.below | with_reducible refine below_alloc ?_ _ | with_reducible refine below_set ?_ hge _ _ | with_reducible refine below_set ?_ hge2 _ _
  · repeat first | with_reducible exact HCM.out | with_reducible exact HC.out | with_reducible refine CurAt.alloc ?_ _ | with_reducible refine CurAt.far ?_ hg3 _ _ | with_reducible refine CurAt.far ?_ hg4 _ _
set_option maxHeartbeats 1000000 in
theorem sib_b_a (g : Nat) (bs : List Int) (sz a : Nat) (b mod q l s : Int) (hb : 0 ≤ b ∧ b ≤ 1)  (hq : 0 ≤ q ∧ q ≤ 3) (hl : 0 ≤ l ∧ l ≤ 7) (h5 : ¬ l = 5) (hs : Hid (getN (bs.take sz) a 1 false = s ∧ s / 64 = q ∧ s / 8 % 8 = 4 ∧ s % 8 = l)) (w : World) (hc : CurAt w g bs sz a 0) (hsz : sz ≤ 15) (has : a < sz) :
    Calls Tryd.prog 88 #[.agg #[.pointer (some ⟨g, 0, none⟩), .int .i64 1, .int .i64 b], .int .i64 mod] w fun e w' => e = .returned (.tuple #[.agg #[.int .i64 (5), .int .i64 (8 * b + l), .int .i64 (5), .int .i64 (12), .int .i64 (2 ^ q.toNat), .int .i64 0, .int .i64 0], .int .i64 0]) ∧ Turned w w' g bs sz ((a : Int) + 1) 0 := by
  have HC := hid hc
  have HG := hid hc.lt
  have HBs := hid (And.intro hc.2.1 (show sz ≤ bs.length by rw [hc.1]; exact hsz))
  clear hc
  have HO := hid (((Own.nil w).alloc w.heap.size #[.pointer (some ⟨g, 0, none⟩), .int .i64 1, .int .i64 b] 70 rfl).alloc (w.heap.size + 1) #[.int .i64 0, .int .i64 0, .int .i64 0, .int .i64 0, .int .i64 0, .int .i64 0, .int .i64 0] 25 (by simp))
  go_enter Tryd.func88, Tryd.ntmps88
  go_wp2_with fail
  generalize hW1 : (w.alloc (.cells #[.pointer (some ⟨g, 0, none⟩), .int .i64 1, .int .i64 b] 70)).alloc (.cells #[.int .i64 0, .int .i64 0, .int .i64 0, .int .i64 0, .int .i64 0, .int .i64 0, .int .i64 0] 25) = W1 at *
  have HC1 := hid (HC.out.below HO.out.below HG.out)
  refine (byte_ok g bs sz a _ HC1.out hsz has).mono ?_
  rintro e wb ⟨rfl, hg1, hc1⟩
  obtain ⟨u, hu1, hu2, ho⟩ := HO.out.turn hg1 HG.out
  have HU := hid (And.intro hu1 hu2)
  have HO := hid ho
  have HC := hid hc1
  clear hg1 hc1 hu1 hu2 ho HC1 hW1
  have c0 := HO.out.tl.c
  have z0 := HO.out.tl.z
  have c1 := HO.out.c
  have z1 := HO.out.z
  have f1 := HO.out.f
  rw [hs.out.1]
  have hs0 : 0 ≤ s ∧ s < 256 := hs.out.1 ▸ getN_byte HBs.out.1 HBs.out.2 has
  go_wp2_with fail
  refine (split_any s hs0 _).mono ?_
  rintro e w2 ⟨rfl, rfl⟩
  rw [hs.out.2.1, hs.out.2.2.1, hs.out.2.2.2]
  go_wp2_with fail
  refine (err_any g bs sz _ _ _ HC.out).mono ?_
  rintro e w3 ⟨rfl, rfl⟩
  have hzb := HO.out.z
  have hn1 : ¬ wb.heap.size = w.heap.size + 1 := by omega
  have hn2 : ¬ w.heap.size + 1 = wb.heap.size := by omega
  have hn3 : ¬ w.heap.size = wb.heap.size := by omega
  have hn4 : ¬ wb.heap.size = w.heap.size := by omega
  have HM := hid (HO.out.alloc wb.heap.size #[.int .i64 0, .int .i64 0, .int .i64 0, .int .i64 0, .int .i64 0, .int .i64 0, .int .i64 0] 25 rfl)
  have HCM := hid (HC.out.below ((Below.refl wb.heap.size wb).alloc (Nat.le_refl _) (.cells #[.int .i64 0, .int .i64 0, .int .i64 0, .int .i64 0, .int .i64 0, .int .i64 0, .int .i64 0] 25)) HC.out.lt)
  have a0 := HO.out.tl.a
  have a1 := HO.out.a
  have b1 := HO.out.fa
  go_wp2_with fail
  have hS := old_drew (old_alloc (Old.of (Below.refl wb.heap.size wb)) (.cells #[.int .i64 0, .int .i64 0, .int .i64 0, .int .i64 0, .int .i64 0, .int .i64 0, .int .i64 0] 25))
  go_region_held3 (fun w' => Below wb.heap.size wb w' ∧ ∀ b o, b < wb.heap.size → w'.cell? ⟨b, o, none⟩ = wb.cell? ⟨b, o, none⟩) (first | with_reducible assumption | (with_reducible refine old_kept ?_ (by assumption); with_reducible assumption) | (with_reducible refine old_set ?_ _ _ (by simp); first | with_reducible assumption | (with_reducible refine old_set ?_ _ _ (by simp); first | with_reducible assumption | (with_reducible refine old_set ?_ _ _ (by simp); with_reducible assumption)))) (first | (go_at_call 89; (with_reducible refine (mwide_any 1 4 i1_ok i4 _).mono ?_); rintro e w4 ⟨rfl, hbel⟩; obtain ⟨hx4, hy4, hz4⟩ := bel_cells hbel wb.heap.size (by first | assumption | (simp; done))))
  rw [wrap_pow hq]
  have HM := hid ((((HM.out.drew.call hbel).set 2 (.int .i64 5)).set 3 (.int .i64 (12))).set 4 (.int .i64 (2 ^ q.toNat)))
  have HCM := hid ((((HCM.out.below ((Below.refl _ _).drew.trans hbel) HCM.out.lt).far (Nat.ne_of_lt HC.out.lt) 2 (.int .i64 5)).far (Nat.ne_of_lt HC.out.lt) 3 (.int .i64 (12))).far (Nat.ne_of_lt HC.out.lt) 4 (.int .i64 (2 ^ q.toNat)))
  clear hS hbel hx4 hy4 hz4
  clear a0 a1 b1
  generalize ((((w4.setCell ⟨wb.heap.size, 2, none⟩ (.int .i64 5)).setCell ⟨wb.heap.size, 3, none⟩ (.int .i64 (12)))).setCell ⟨wb.heap.size, 4, none⟩ (.int .i64 (2 ^ q.toNat))) = wm at *
  clear c0 z0 c1 z1 f1
  have c0 := HM.out.tl.tl.c
  have z0 := HM.out.tl.tl.z
  have c1 := HM.out.tl.c
  have z1 := HM.out.tl.z
  have f1 := HM.out.tl.f
  have c2 := HM.out.c
  have f2 := HM.out.f
  have z2 := HM.out.z
  go_wp2_with fail
  clear c0 z0 c1 z1 f1 c2 f2 z2
  refine (mwide_any b l hb hl _).mono ?_
  rintro e w5 ⟨rfl, hb5⟩
  have HM := hid (HM.out.call hb5)
  have HCM := hid (HCM.out.below hb5 HCM.out.lt)
  clear hb5
  have c0 := HM.out.tl.tl.c
  have z0 := HM.out.tl.tl.z
  have c1 := HM.out.tl.c
  have z1 := HM.out.tl.z
  have f1 := HM.out.tl.f
  have c2 := HM.out.c
  have f2 := HM.out.f
  have z2 := HM.out.z
  have hge : u.heap.size ≤ w.heap.size + 1 := by have := HU.out.2; omega
  have hge2 : u.heap.size ≤ wb.heap.size := by have := HU.out.2; omega
  have hg3 : g ≠ w.heap.size + 1 := by have := HG.out; omega
  have hg4 : g ≠ wb.heap.size := by have := HG.out; omega
  go_wp2_with (with_reducible change bodyPost _ _ _ Exit.ret _ _; go_loud (refine bodyPost_ret (v := .tuple #[.agg #[.int .i64 (5), .int .i64 (8 * b + l), .int .i64 (5), .int .i64 (12), .int .i64 (2 ^ q.toNat), .int .i64 0, .int .i64 0], .int .i64 0]) (by simp [results, Tryd.results88, go_sem, *]) rfl ⟨rfl, turned_mk (turn_trans HU.out.1 (turn_of_below ?_ _)) ?_⟩))
  · repeat first | with_reducible exact HM.out.below | with_reducible exact HO.out.below | with_reducible refine below_alloc ?_ _ | with_reducible refine below_set ?_ hge _ _ | with_reducible refine below_set ?_ hge2 _ _
  · repeat first | with_reducible exact HCM.out | with_reducible exact HC.out | with_reducible refine CurAt.alloc ?_ _ | with_reducible refine CurAt.far ?_ hg3 _ _ | with_reducible refine CurAt.far ?_ hg4 _ _
set_option maxHeartbeats 1000000 in
theorem sib_b_b (g : Nat) (bs : List Int) (sz a : Nat) (b mod q s : Int) (hb : 0 ≤ b ∧ b ≤ 1)  (hq : 0 ≤ q ∧ q ≤ 3) (h6 : ¬ mod = 0) (hs : Hid (getN (bs.take sz) a 1 false = s ∧ s / 64 = q ∧ s / 8 % 8 = 4 ∧ s % 8 = 5)) (w : World) (hc : CurAt w g bs sz a 0) (hsz : sz ≤ 15) (has : a < sz) :
    Calls Tryd.prog 88 #[.agg #[.pointer (some ⟨g, 0, none⟩), .int .i64 1, .int .i64 b], .int .i64 mod] w fun e w' => e = .returned (.tuple #[.agg #[.int .i64 (5), .int .i64 (8 * b + 5), .int .i64 (5), .int .i64 (12), .int .i64 (2 ^ q.toNat), .int .i64 0, .int .i64 0], .int .i64 0]) ∧ Turned w w' g bs sz ((a : Int) + 1) 0 := by
  have HC := hid hc
  have HG := hid hc.lt
  have HBs := hid (And.intro hc.2.1 (show sz ≤ bs.length by rw [hc.1]; exact hsz))
  clear hc
  have HO := hid (((Own.nil w).alloc w.heap.size #[.pointer (some ⟨g, 0, none⟩), .int .i64 1, .int .i64 b] 70 rfl).alloc (w.heap.size + 1) #[.int .i64 0, .int .i64 0, .int .i64 0, .int .i64 0, .int .i64 0, .int .i64 0, .int .i64 0] 25 (by simp))
  go_enter Tryd.func88, Tryd.ntmps88
  go_wp2_with fail
  generalize hW1 : (w.alloc (.cells #[.pointer (some ⟨g, 0, none⟩), .int .i64 1, .int .i64 b] 70)).alloc (.cells #[.int .i64 0, .int .i64 0, .int .i64 0, .int .i64 0, .int .i64 0, .int .i64 0, .int .i64 0] 25) = W1 at *
  have HC1 := hid (HC.out.below HO.out.below HG.out)
  refine (byte_ok g bs sz a _ HC1.out hsz has).mono ?_
  rintro e wb ⟨rfl, hg1, hc1⟩
  obtain ⟨u, hu1, hu2, ho⟩ := HO.out.turn hg1 HG.out
  have HU := hid (And.intro hu1 hu2)
  have HO := hid ho
  have HC := hid hc1
  clear hg1 hc1 hu1 hu2 ho HC1 hW1
  have c0 := HO.out.tl.c
  have z0 := HO.out.tl.z
  have c1 := HO.out.c
  have z1 := HO.out.z
  have f1 := HO.out.f
  rw [hs.out.1]
  have hs0 : 0 ≤ s ∧ s < 256 := hs.out.1 ▸ getN_byte HBs.out.1 HBs.out.2 has
  go_wp2_with fail
  refine (split_any s hs0 _).mono ?_
  rintro e w2 ⟨rfl, rfl⟩
  rw [hs.out.2.1, hs.out.2.2.1, hs.out.2.2.2]
  go_wp2_with fail
  refine (err_any g bs sz _ _ _ HC.out).mono ?_
  rintro e w3 ⟨rfl, rfl⟩
  have hzb := HO.out.z
  have hn1 : ¬ wb.heap.size = w.heap.size + 1 := by omega
  have hn2 : ¬ w.heap.size + 1 = wb.heap.size := by omega
  have hn3 : ¬ w.heap.size = wb.heap.size := by omega
  have hn4 : ¬ wb.heap.size = w.heap.size := by omega
  have HM := hid (HO.out.alloc wb.heap.size #[.int .i64 0, .int .i64 0, .int .i64 0, .int .i64 0, .int .i64 0, .int .i64 0, .int .i64 0] 25 rfl)
  have HCM := hid (HC.out.below ((Below.refl wb.heap.size wb).alloc (Nat.le_refl _) (.cells #[.int .i64 0, .int .i64 0, .int .i64 0, .int .i64 0, .int .i64 0, .int .i64 0, .int .i64 0] 25)) HC.out.lt)
  have a0 := HO.out.tl.a
  have a1 := HO.out.a
  have b1 := HO.out.fa
  go_wp2_with fail
  have hS := old_drew (old_alloc (Old.of (Below.refl wb.heap.size wb)) (.cells #[.int .i64 0, .int .i64 0, .int .i64 0, .int .i64 0, .int .i64 0, .int .i64 0, .int .i64 0] 25))
  go_region_held3 (fun w' => Below wb.heap.size wb w' ∧ ∀ b o, b < wb.heap.size → w'.cell? ⟨b, o, none⟩ = wb.cell? ⟨b, o, none⟩) (first | with_reducible assumption | (with_reducible refine old_kept ?_ (by assumption); with_reducible assumption) | (with_reducible refine old_set ?_ _ _ (by simp); first | with_reducible assumption | (with_reducible refine old_set ?_ _ _ (by simp); first | with_reducible assumption | (with_reducible refine old_set ?_ _ _ (by simp); with_reducible assumption)))) (first | (go_at_call 89; (with_reducible refine (mwide_any 1 4 i1_ok i4 _).mono ?_); rintro e w4 ⟨rfl, hbel⟩; obtain ⟨hx4, hy4, hz4⟩ := bel_cells hbel wb.heap.size (by first | assumption | (simp; done))))
  rw [wrap_pow hq]
  have HM := hid ((((HM.out.drew.call hbel).set 2 (.int .i64 5)).set 3 (.int .i64 (12))).set 4 (.int .i64 (2 ^ q.toNat)))
  have HCM := hid ((((HCM.out.below ((Below.refl _ _).drew.trans hbel) HCM.out.lt).far (Nat.ne_of_lt HC.out.lt) 2 (.int .i64 5)).far (Nat.ne_of_lt HC.out.lt) 3 (.int .i64 (12))).far (Nat.ne_of_lt HC.out.lt) 4 (.int .i64 (2 ^ q.toNat)))
  clear hS hbel hx4 hy4 hz4
  clear a0 a1 b1
  generalize ((((w4.setCell ⟨wb.heap.size, 2, none⟩ (.int .i64 5)).setCell ⟨wb.heap.size, 3, none⟩ (.int .i64 (12)))).setCell ⟨wb.heap.size, 4, none⟩ (.int .i64 (2 ^ q.toNat))) = wm at *
  clear c0 z0 c1 z1 f1
  have c0 := HM.out.tl.tl.c
  have z0 := HM.out.tl.tl.z
  have c1 := HM.out.tl.c
  have z1 := HM.out.tl.z
  have f1 := HM.out.tl.f
  have c2 := HM.out.c
  have f2 := HM.out.f
  have z2 := HM.out.z
  go_wp2_with fail
  clear c0 z0 c1 z1 f1 c2 f2 z2
  refine (mwide_any b 5 hb i5 _).mono ?_
  rintro e w5 ⟨rfl, hb5⟩
  have HM := hid (HM.out.call hb5)
  have HCM := hid (HCM.out.below hb5 HCM.out.lt)
  clear hb5
  have c0 := HM.out.tl.tl.c
  have z0 := HM.out.tl.tl.z
  have c1 := HM.out.tl.c
  have z1 := HM.out.tl.z
  have f1 := HM.out.tl.f
  have c2 := HM.out.c
  have f2 := HM.out.f
  have z2 := HM.out.z
  have hge : u.heap.size ≤ w.heap.size + 1 := by have := HU.out.2; omega
  have hge2 : u.heap.size ≤ wb.heap.size := by have := HU.out.2; omega
  have hg3 : g ≠ w.heap.size + 1 := by have := HG.out; omega
  have hg4 : g ≠ wb.heap.size := by have := HG.out; omega
  go_wp2_with (with_reducible change bodyPost _ _ _ Exit.ret _ _; go_loud (refine bodyPost_ret (v := .tuple #[.agg #[.int .i64 (5), .int .i64 (8 * b + 5), .int .i64 (5), .int .i64 (12), .int .i64 (2 ^ q.toNat), .int .i64 0, .int .i64 0], .int .i64 0]) (by simp [results, Tryd.results88, go_sem, *]) rfl ⟨rfl, turned_mk (turn_trans HU.out.1 (turn_of_below ?_ _)) ?_⟩))
  · repeat first | with_reducible exact HM.out.below | with_reducible exact HO.out.below | with_reducible refine below_alloc ?_ _ | with_reducible refine below_set ?_ hge _ _ | with_reducible refine below_set ?_ hge2 _ _
  · repeat first | with_reducible exact HCM.out | with_reducible exact HC.out | with_reducible refine CurAt.alloc ?_ _ | with_reducible refine CurAt.far ?_ hg3 _ _ | with_reducible refine CurAt.far ?_ hg4 _ _
set_option maxHeartbeats 1000000 in
theorem sib_b_0 (g : Nat) (bs : List Int) (sz a : Nat) (q s : Int) (hq : 0 ≤ q ∧ q ≤ 3)  (hs : Hid (getN (bs.take sz) a 1 false = s ∧ s / 64 = q ∧ s / 8 % 8 = 4 ∧ s % 8 = 5)) (w : World) (hc : CurAt w g bs sz a 0) (hsz : sz ≤ 15) (has : a < sz) :
    Calls Tryd.prog 88 #[.agg #[.pointer (some ⟨g, 0, none⟩), .int .i64 1, .int .i64 0], .int .i64 0] w fun e w' => e = .returned (.tuple #[.agg #[.int .i64 (0), .int .i64 (0), .int .i64 (5), .int .i64 (12), .int .i64 (2 ^ q.toNat), .int .i64 0, .int .i64 0], .int .i64 0]) ∧ Turned w w' g bs sz ((a : Int) + 1) 0 := by
  have HC := hid hc
  have HG := hid hc.lt
  have HBs := hid (And.intro hc.2.1 (show sz ≤ bs.length by rw [hc.1]; exact hsz))
  clear hc
  have HO := hid (((Own.nil w).alloc w.heap.size #[.pointer (some ⟨g, 0, none⟩), .int .i64 1, .int .i64 0] 70 rfl).alloc (w.heap.size + 1) #[.int .i64 0, .int .i64 0, .int .i64 0, .int .i64 0, .int .i64 0, .int .i64 0, .int .i64 0] 25 (by simp))
  go_enter Tryd.func88, Tryd.ntmps88
  go_wp2_with fail
  generalize hW1 : (w.alloc (.cells #[.pointer (some ⟨g, 0, none⟩), .int .i64 1, .int .i64 0] 70)).alloc (.cells #[.int .i64 0, .int .i64 0, .int .i64 0, .int .i64 0, .int .i64 0, .int .i64 0, .int .i64 0] 25) = W1 at *
  have HC1 := hid (HC.out.below HO.out.below HG.out)
  refine (byte_ok g bs sz a _ HC1.out hsz has).mono ?_
  rintro e wb ⟨rfl, hg1, hc1⟩
  obtain ⟨u, hu1, hu2, ho⟩ := HO.out.turn hg1 HG.out
  have HU := hid (And.intro hu1 hu2)
  have HO := hid ho
  have HC := hid hc1
  clear hg1 hc1 hu1 hu2 ho HC1 hW1
  have c0 := HO.out.tl.c
  have z0 := HO.out.tl.z
  have c1 := HO.out.c
  have z1 := HO.out.z
  have f1 := HO.out.f
  rw [hs.out.1]
  have hs0 : 0 ≤ s ∧ s < 256 := hs.out.1 ▸ getN_byte HBs.out.1 HBs.out.2 has
  go_wp2_with fail
  refine (split_any s hs0 _).mono ?_
  rintro e w2 ⟨rfl, rfl⟩
  rw [hs.out.2.1, hs.out.2.2.1, hs.out.2.2.2]
  go_wp2_with fail
  refine (err_any g bs sz _ _ _ HC.out).mono ?_
  rintro e w3 ⟨rfl, rfl⟩
  have hzb := HO.out.z
  have hn1 : ¬ wb.heap.size = w.heap.size + 1 := by omega
  have hn2 : ¬ w.heap.size + 1 = wb.heap.size := by omega
  have hn3 : ¬ w.heap.size = wb.heap.size := by omega
  have hn4 : ¬ wb.heap.size = w.heap.size := by omega
  have HM := hid (HO.out.alloc wb.heap.size #[.int .i64 0, .int .i64 0, .int .i64 0, .int .i64 0, .int .i64 0, .int .i64 0, .int .i64 0] 25 rfl)
  have HCM := hid (HC.out.below ((Below.refl wb.heap.size wb).alloc (Nat.le_refl _) (.cells #[.int .i64 0, .int .i64 0, .int .i64 0, .int .i64 0, .int .i64 0, .int .i64 0, .int .i64 0] 25)) HC.out.lt)
  have a0 := HO.out.tl.a
  have a1 := HO.out.a
  have b1 := HO.out.fa
  go_wp2_with fail
  have hS := old_drew (old_alloc (Old.of (Below.refl wb.heap.size wb)) (.cells #[.int .i64 0, .int .i64 0, .int .i64 0, .int .i64 0, .int .i64 0, .int .i64 0, .int .i64 0] 25))
  go_region_held3 (fun w' => Below wb.heap.size wb w' ∧ ∀ b o, b < wb.heap.size → w'.cell? ⟨b, o, none⟩ = wb.cell? ⟨b, o, none⟩) (first | with_reducible assumption | (with_reducible refine old_kept ?_ (by assumption); with_reducible assumption) | (with_reducible refine old_set ?_ _ _ (by simp); first | with_reducible assumption | (with_reducible refine old_set ?_ _ _ (by simp); first | with_reducible assumption | (with_reducible refine old_set ?_ _ _ (by simp); with_reducible assumption)))) (first | (go_at_call 89; (with_reducible refine (mwide_any 1 4 i1_ok i4 _).mono ?_); rintro e w4 ⟨rfl, hbel⟩; obtain ⟨hx4, hy4, hz4⟩ := bel_cells hbel wb.heap.size (by first | assumption | (simp; done))))
  rw [wrap_pow hq]
  have HM := hid ((((HM.out.drew.call hbel).set 2 (.int .i64 5)).set 3 (.int .i64 (12))).set 4 (.int .i64 (2 ^ q.toNat)))
  have HCM := hid ((((HCM.out.below ((Below.refl _ _).drew.trans hbel) HCM.out.lt).far (Nat.ne_of_lt HC.out.lt) 2 (.int .i64 5)).far (Nat.ne_of_lt HC.out.lt) 3 (.int .i64 (12))).far (Nat.ne_of_lt HC.out.lt) 4 (.int .i64 (2 ^ q.toNat)))
  clear hS hbel hx4 hy4 hz4
  clear a0 a1 b1
  generalize ((((w4.setCell ⟨wb.heap.size, 2, none⟩ (.int .i64 5)).setCell ⟨wb.heap.size, 3, none⟩ (.int .i64 (12)))).setCell ⟨wb.heap.size, 4, none⟩ (.int .i64 (2 ^ q.toNat))) = wm at *
  clear c0 z0 c1 z1 f1
  have c0 := HM.out.tl.tl.c
  have z0 := HM.out.tl.tl.z
  have c1 := HM.out.tl.c
  have z1 := HM.out.tl.z
  have f1 := HM.out.tl.f
  have c2 := HM.out.c
  have f2 := HM.out.f
  have z2 := HM.out.z
  have hge : u.heap.size ≤ w.heap.size + 1 := by have := HU.out.2; omega
  have hge2 : u.heap.size ≤ wb.heap.size := by have := HU.out.2; omega
  have hg3 : g ≠ w.heap.size + 1 := by have := HG.out; omega
  have hg4 : g ≠ wb.heap.size := by have := HG.out; omega
  go_wp2_with (with_reducible change bodyPost _ _ _ Exit.ret _ _; go_loud (refine bodyPost_ret (v := .tuple #[.agg #[.int .i64 (0), .int .i64 (0), .int .i64 (5), .int .i64 (12), .int .i64 (2 ^ q.toNat), .int .i64 0, .int .i64 0], .int .i64 0]) (by simp [results, Tryd.results88, go_sem, *]) rfl ⟨rfl, turned_mk (turn_trans HU.out.1 (turn_of_below ?_ _)) ?_⟩))
  · repeat first | with_reducible exact HM.out.below | with_reducible exact HO.out.below | with_reducible refine below_alloc ?_ _ | with_reducible refine below_set ?_ hge _ _ | with_reducible refine below_set ?_ hge2 _ _
  · repeat first | with_reducible exact HCM.out | with_reducible exact HC.out | with_reducible refine CurAt.alloc ?_ _ | with_reducible refine CurAt.far ?_ hg3 _ _ | with_reducible refine CurAt.far ?_ hg4 _ _
set_option maxHeartbeats 1000000 in
theorem sib_b_1 (g : Nat) (bs : List Int) (sz a : Nat) (q s : Int) (hq : 0 ≤ q ∧ q ≤ 3)  (hs : Hid (getN (bs.take sz) a 1 false = s ∧ s / 64 = q ∧ s / 8 % 8 = 4 ∧ s % 8 = 5)) (w : World) (hc : CurAt w g bs sz a 0) (hsz : sz ≤ 15) (has : a < sz) :
    Calls Tryd.prog 88 #[.agg #[.pointer (some ⟨g, 0, none⟩), .int .i64 1, .int .i64 1], .int .i64 0] w fun e w' => e = .returned (.tuple #[.agg #[.int .i64 (0), .int .i64 (0), .int .i64 (0), .int .i64 (0), .int .i64 (0), .int .i64 0, .int .i64 0], .int .i64 4]) ∧ Turned w w' g bs sz ((a : Int) + 1) 0 := by
  have HC := hid hc
  have HG := hid hc.lt
  have HBs := hid (And.intro hc.2.1 (show sz ≤ bs.length by rw [hc.1]; exact hsz))
  clear hc
  have HO := hid (((Own.nil w).alloc w.heap.size #[.pointer (some ⟨g, 0, none⟩), .int .i64 1, .int .i64 1] 70 rfl).alloc (w.heap.size + 1) #[.int .i64 0, .int .i64 0, .int .i64 0, .int .i64 0, .int .i64 0, .int .i64 0, .int .i64 0] 25 (by simp))
  go_enter Tryd.func88, Tryd.ntmps88
  go_wp2_with fail
  generalize hW1 : (w.alloc (.cells #[.pointer (some ⟨g, 0, none⟩), .int .i64 1, .int .i64 1] 70)).alloc (.cells #[.int .i64 0, .int .i64 0, .int .i64 0, .int .i64 0, .int .i64 0, .int .i64 0, .int .i64 0] 25) = W1 at *
  have HC1 := hid (HC.out.below HO.out.below HG.out)
  refine (byte_ok g bs sz a _ HC1.out hsz has).mono ?_
  rintro e wb ⟨rfl, hg1, hc1⟩
  obtain ⟨u, hu1, hu2, ho⟩ := HO.out.turn hg1 HG.out
  have HU := hid (And.intro hu1 hu2)
  have HO := hid ho
  have HC := hid hc1
  clear hg1 hc1 hu1 hu2 ho HC1 hW1
  have c0 := HO.out.tl.c
  have z0 := HO.out.tl.z
  have c1 := HO.out.c
  have z1 := HO.out.z
  have f1 := HO.out.f
  rw [hs.out.1]
  have hs0 : 0 ≤ s ∧ s < 256 := hs.out.1 ▸ getN_byte HBs.out.1 HBs.out.2 has
  go_wp2_with fail
  refine (split_any s hs0 _).mono ?_
  rintro e w2 ⟨rfl, rfl⟩
  rw [hs.out.2.1, hs.out.2.2.1, hs.out.2.2.2]
  go_wp2_with fail
  refine (err_any g bs sz _ _ _ HC.out).mono ?_
  rintro e w3 ⟨rfl, rfl⟩
  have hzb := HO.out.z
  have hn1 : ¬ wb.heap.size = w.heap.size + 1 := by omega
  have hn2 : ¬ w.heap.size + 1 = wb.heap.size := by omega
  have hn3 : ¬ w.heap.size = wb.heap.size := by omega
  have hn4 : ¬ wb.heap.size = w.heap.size := by omega
  have HM := hid (HO.out.alloc wb.heap.size #[.int .i64 0, .int .i64 0, .int .i64 0, .int .i64 0, .int .i64 0, .int .i64 0, .int .i64 0] 25 rfl)
  have HCM := hid (HC.out.below ((Below.refl wb.heap.size wb).alloc (Nat.le_refl _) (.cells #[.int .i64 0, .int .i64 0, .int .i64 0, .int .i64 0, .int .i64 0, .int .i64 0, .int .i64 0] 25)) HC.out.lt)
  have a0 := HO.out.tl.a
  have a1 := HO.out.a
  have b1 := HO.out.fa
  go_wp2_with fail
  have hS := old_drew (old_alloc (Old.of (Below.refl wb.heap.size wb)) (.cells #[.int .i64 0, .int .i64 0, .int .i64 0, .int .i64 0, .int .i64 0, .int .i64 0, .int .i64 0] 25))
  go_region_held3 (fun w' => Below wb.heap.size wb w' ∧ ∀ b o, b < wb.heap.size → w'.cell? ⟨b, o, none⟩ = wb.cell? ⟨b, o, none⟩) (first | with_reducible assumption | (with_reducible refine old_kept ?_ (by assumption); with_reducible assumption) | (with_reducible refine old_set ?_ _ _ (by simp); first | with_reducible assumption | (with_reducible refine old_set ?_ _ _ (by simp); first | with_reducible assumption | (with_reducible refine old_set ?_ _ _ (by simp); with_reducible assumption)))) (first | (go_at_call 89; (with_reducible refine (mwide_any 1 4 i1_ok i4 _).mono ?_); rintro e w4 ⟨rfl, hbel⟩; obtain ⟨hx4, hy4, hz4⟩ := bel_cells hbel wb.heap.size (by first | assumption | (simp; done))))
  rw [wrap_pow hq]
  have HM := hid ((((HM.out.drew.call hbel).set 2 (.int .i64 5)).set 3 (.int .i64 (12))).set 4 (.int .i64 (2 ^ q.toNat)))
  have HCM := hid ((((HCM.out.below ((Below.refl _ _).drew.trans hbel) HCM.out.lt).far (Nat.ne_of_lt HC.out.lt) 2 (.int .i64 5)).far (Nat.ne_of_lt HC.out.lt) 3 (.int .i64 (12))).far (Nat.ne_of_lt HC.out.lt) 4 (.int .i64 (2 ^ q.toNat)))
  clear hS hbel hx4 hy4 hz4
  clear a0 a1 b1
  generalize ((((w4.setCell ⟨wb.heap.size, 2, none⟩ (.int .i64 5)).setCell ⟨wb.heap.size, 3, none⟩ (.int .i64 (12)))).setCell ⟨wb.heap.size, 4, none⟩ (.int .i64 (2 ^ q.toNat))) = wm at *
  clear c0 z0 c1 z1 f1
  have c0 := HM.out.tl.tl.c
  have z0 := HM.out.tl.tl.z
  have c1 := HM.out.tl.c
  have z1 := HM.out.tl.z
  have f1 := HM.out.tl.f
  have c2 := HM.out.c
  have f2 := HM.out.f
  have z2 := HM.out.z
  have hge : u.heap.size ≤ w.heap.size + 1 := by have := HU.out.2; omega
  have hge2 : u.heap.size ≤ wb.heap.size := by have := HU.out.2; omega
  have hg3 : g ≠ w.heap.size + 1 := by have := HG.out; omega
  have hg4 : g ≠ wb.heap.size := by have := HG.out; omega
  go_wp2_with (with_reducible change bodyPost _ _ _ Exit.ret _ _; go_loud (refine bodyPost_ret (v := .tuple #[.agg #[.int .i64 (0), .int .i64 (0), .int .i64 (0), .int .i64 (0), .int .i64 (0), .int .i64 0, .int .i64 0], .int .i64 4]) (by simp [results, Tryd.results88, go_sem, *]) rfl ⟨rfl, turned_mk (turn_trans HU.out.1 (turn_of_below ?_ _)) ?_⟩))
  · repeat first | with_reducible exact HM.out.below | with_reducible exact HO.out.below | with_reducible refine below_alloc ?_ _ | with_reducible refine below_set ?_ hge _ _ | with_reducible refine below_set ?_ hge2 _ _
  · repeat first | with_reducible exact HCM.out | with_reducible exact HC.out | with_reducible refine CurAt.alloc ?_ _ | with_reducible refine CurAt.far ?_ hg3 _ _ | with_reducible refine CurAt.far ?_ hg4 _ _
set_option maxHeartbeats 1000000 in
theorem sib_n_a (g : Nat) (bs : List Int) (sz a : Nat) (b mod l s : Int) (hb : 0 ≤ b ∧ b ≤ 1)  (hl : 0 ≤ l ∧ l ≤ 7) (h5 : ¬ l = 5) (hs : Hid (getN (bs.take sz) a 1 false = s ∧ s / 64 = 0 ∧ s / 8 % 8 = 4 ∧ s % 8 = l)) (w : World) (hc : CurAt w g bs sz a 0) (hsz : sz ≤ 15) (has : a < sz) :
    Calls Tryd.prog 88 #[.agg #[.pointer (some ⟨g, 0, none⟩), .int .i64 0, .int .i64 b], .int .i64 mod] w fun e w' => e = .returned (.tuple #[.agg #[.int .i64 (5), .int .i64 (8 * b + l), .int .i64 (0), .int .i64 (0), .int .i64 (0), .int .i64 0, .int .i64 0], .int .i64 0]) ∧ Turned w w' g bs sz ((a : Int) + 1) 0 := by
  have HC := hid hc
  have HG := hid hc.lt
  have HBs := hid (And.intro hc.2.1 (show sz ≤ bs.length by rw [hc.1]; exact hsz))
  clear hc
  have HO := hid (((Own.nil w).alloc w.heap.size #[.pointer (some ⟨g, 0, none⟩), .int .i64 0, .int .i64 b] 70 rfl).alloc (w.heap.size + 1) #[.int .i64 0, .int .i64 0, .int .i64 0, .int .i64 0, .int .i64 0, .int .i64 0, .int .i64 0] 25 (by simp))
  go_enter Tryd.func88, Tryd.ntmps88
  go_wp2_with fail
  generalize hW1 : (w.alloc (.cells #[.pointer (some ⟨g, 0, none⟩), .int .i64 0, .int .i64 b] 70)).alloc (.cells #[.int .i64 0, .int .i64 0, .int .i64 0, .int .i64 0, .int .i64 0, .int .i64 0, .int .i64 0] 25) = W1 at *
  have HC1 := hid (HC.out.below HO.out.below HG.out)
  refine (byte_ok g bs sz a _ HC1.out hsz has).mono ?_
  rintro e wb ⟨rfl, hg1, hc1⟩
  obtain ⟨u, hu1, hu2, ho⟩ := HO.out.turn hg1 HG.out
  have HU := hid (And.intro hu1 hu2)
  have HO := hid ho
  have HC := hid hc1
  clear hg1 hc1 hu1 hu2 ho HC1 hW1
  have c0 := HO.out.tl.c
  have z0 := HO.out.tl.z
  have c1 := HO.out.c
  have z1 := HO.out.z
  have f1 := HO.out.f
  rw [hs.out.1]
  have hs0 : 0 ≤ s ∧ s < 256 := hs.out.1 ▸ getN_byte HBs.out.1 HBs.out.2 has
  go_wp2_with fail
  refine (split_any s hs0 _).mono ?_
  rintro e w2 ⟨rfl, rfl⟩
  rw [hs.out.2.1, hs.out.2.2.1, hs.out.2.2.2]
  go_wp2_with fail
  refine (err_any g bs sz _ _ _ HC.out).mono ?_
  rintro e w3 ⟨rfl, rfl⟩
  have hzb := HO.out.z
  have hn1 : ¬ wb.heap.size = w.heap.size + 1 := by omega
  have hn2 : ¬ w.heap.size + 1 = wb.heap.size := by omega
  have hn3 : ¬ w.heap.size = wb.heap.size := by omega
  have hn4 : ¬ wb.heap.size = w.heap.size := by omega
  have HM := hid (HO.out.alloc wb.heap.size #[.int .i64 0, .int .i64 0, .int .i64 0, .int .i64 0, .int .i64 0, .int .i64 0, .int .i64 0] 25 rfl)
  have HCM := hid (HC.out.below ((Below.refl wb.heap.size wb).alloc (Nat.le_refl _) (.cells #[.int .i64 0, .int .i64 0, .int .i64 0, .int .i64 0, .int .i64 0, .int .i64 0, .int .i64 0] 25)) HC.out.lt)
  have a0 := HO.out.tl.a
  have a1 := HO.out.a
  have b1 := HO.out.fa
  go_wp2_with fail
  clear a0 a1 b1 c0 z0 c1 z1 f1
  generalize (wb.alloc (.cells #[.int .i64 0, .int .i64 0, .int .i64 0, .int .i64 0, .int .i64 0, .int .i64 0, .int .i64 0] 25)) = wm at *
  have c0 := HM.out.tl.tl.c
  have z0 := HM.out.tl.tl.z
  have c1 := HM.out.tl.c
  have z1 := HM.out.tl.z
  have f1 := HM.out.tl.f
  have c2 := HM.out.c
  have f2 := HM.out.f
  have z2 := HM.out.z
  clear c0 z0 c1 z1 f1 c2 f2 z2
  refine (mwide_any b l hb hl _).mono ?_
  rintro e w5 ⟨rfl, hb5⟩
  have HM := hid (HM.out.call hb5)
  have HCM := hid (HCM.out.below hb5 HCM.out.lt)
  clear hb5
  have c0 := HM.out.tl.tl.c
  have z0 := HM.out.tl.tl.z
  have c1 := HM.out.tl.c
  have z1 := HM.out.tl.z
  have f1 := HM.out.tl.f
  have c2 := HM.out.c
  have f2 := HM.out.f
  have z2 := HM.out.z
  have hge : u.heap.size ≤ w.heap.size + 1 := by have := HU.out.2; omega
  have hge2 : u.heap.size ≤ wb.heap.size := by have := HU.out.2; omega
  have hg3 : g ≠ w.heap.size + 1 := by have := HG.out; omega
  have hg4 : g ≠ wb.heap.size := by have := HG.out; omega
  go_wp2_with (with_reducible change bodyPost _ _ _ Exit.ret _ _; go_loud (refine bodyPost_ret (v := .tuple #[.agg #[.int .i64 (5), .int .i64 (8 * b + l), .int .i64 (0), .int .i64 (0), .int .i64 (0), .int .i64 0, .int .i64 0], .int .i64 0]) (by simp [results, Tryd.results88, go_sem, *]) rfl ⟨rfl, turned_mk (turn_trans HU.out.1 (turn_of_below ?_ _)) ?_⟩))
  · repeat first | with_reducible exact HM.out.below | with_reducible exact HO.out.below | with_reducible refine below_alloc ?_ _ | with_reducible refine below_set ?_ hge _ _ | with_reducible refine below_set ?_ hge2 _ _
  · repeat first | with_reducible exact HCM.out | with_reducible exact HC.out | with_reducible refine CurAt.alloc ?_ _ | with_reducible refine CurAt.far ?_ hg3 _ _ | with_reducible refine CurAt.far ?_ hg4 _ _
set_option maxHeartbeats 1000000 in
theorem sib_n_b (g : Nat) (bs : List Int) (sz a : Nat) (b mod s : Int) (hb : 0 ≤ b ∧ b ≤ 1)  (h6 : ¬ mod = 0) (hs : Hid (getN (bs.take sz) a 1 false = s ∧ s / 64 = 0 ∧ s / 8 % 8 = 4 ∧ s % 8 = 5)) (w : World) (hc : CurAt w g bs sz a 0) (hsz : sz ≤ 15) (has : a < sz) :
    Calls Tryd.prog 88 #[.agg #[.pointer (some ⟨g, 0, none⟩), .int .i64 0, .int .i64 b], .int .i64 mod] w fun e w' => e = .returned (.tuple #[.agg #[.int .i64 (5), .int .i64 (8 * b + 5), .int .i64 (0), .int .i64 (0), .int .i64 (0), .int .i64 0, .int .i64 0], .int .i64 0]) ∧ Turned w w' g bs sz ((a : Int) + 1) 0 := by
  have HC := hid hc
  have HG := hid hc.lt
  have HBs := hid (And.intro hc.2.1 (show sz ≤ bs.length by rw [hc.1]; exact hsz))
  clear hc
  have HO := hid (((Own.nil w).alloc w.heap.size #[.pointer (some ⟨g, 0, none⟩), .int .i64 0, .int .i64 b] 70 rfl).alloc (w.heap.size + 1) #[.int .i64 0, .int .i64 0, .int .i64 0, .int .i64 0, .int .i64 0, .int .i64 0, .int .i64 0] 25 (by simp))
  go_enter Tryd.func88, Tryd.ntmps88
  go_wp2_with fail
  generalize hW1 : (w.alloc (.cells #[.pointer (some ⟨g, 0, none⟩), .int .i64 0, .int .i64 b] 70)).alloc (.cells #[.int .i64 0, .int .i64 0, .int .i64 0, .int .i64 0, .int .i64 0, .int .i64 0, .int .i64 0] 25) = W1 at *
  have HC1 := hid (HC.out.below HO.out.below HG.out)
  refine (byte_ok g bs sz a _ HC1.out hsz has).mono ?_
  rintro e wb ⟨rfl, hg1, hc1⟩
  obtain ⟨u, hu1, hu2, ho⟩ := HO.out.turn hg1 HG.out
  have HU := hid (And.intro hu1 hu2)
  have HO := hid ho
  have HC := hid hc1
  clear hg1 hc1 hu1 hu2 ho HC1 hW1
  have c0 := HO.out.tl.c
  have z0 := HO.out.tl.z
  have c1 := HO.out.c
  have z1 := HO.out.z
  have f1 := HO.out.f
  rw [hs.out.1]
  have hs0 : 0 ≤ s ∧ s < 256 := hs.out.1 ▸ getN_byte HBs.out.1 HBs.out.2 has
  go_wp2_with fail
  refine (split_any s hs0 _).mono ?_
  rintro e w2 ⟨rfl, rfl⟩
  rw [hs.out.2.1, hs.out.2.2.1, hs.out.2.2.2]
  go_wp2_with fail
  refine (err_any g bs sz _ _ _ HC.out).mono ?_
  rintro e w3 ⟨rfl, rfl⟩
  have hzb := HO.out.z
  have hn1 : ¬ wb.heap.size = w.heap.size + 1 := by omega
  have hn2 : ¬ w.heap.size + 1 = wb.heap.size := by omega
  have hn3 : ¬ w.heap.size = wb.heap.size := by omega
  have hn4 : ¬ wb.heap.size = w.heap.size := by omega
  have HM := hid (HO.out.alloc wb.heap.size #[.int .i64 0, .int .i64 0, .int .i64 0, .int .i64 0, .int .i64 0, .int .i64 0, .int .i64 0] 25 rfl)
  have HCM := hid (HC.out.below ((Below.refl wb.heap.size wb).alloc (Nat.le_refl _) (.cells #[.int .i64 0, .int .i64 0, .int .i64 0, .int .i64 0, .int .i64 0, .int .i64 0, .int .i64 0] 25)) HC.out.lt)
  have a0 := HO.out.tl.a
  have a1 := HO.out.a
  have b1 := HO.out.fa
  go_wp2_with fail
  clear a0 a1 b1 c0 z0 c1 z1 f1
  generalize (wb.alloc (.cells #[.int .i64 0, .int .i64 0, .int .i64 0, .int .i64 0, .int .i64 0, .int .i64 0, .int .i64 0] 25)) = wm at *
  have c0 := HM.out.tl.tl.c
  have z0 := HM.out.tl.tl.z
  have c1 := HM.out.tl.c
  have z1 := HM.out.tl.z
  have f1 := HM.out.tl.f
  have c2 := HM.out.c
  have f2 := HM.out.f
  have z2 := HM.out.z
  clear c0 z0 c1 z1 f1 c2 f2 z2
  refine (mwide_any b 5 hb i5 _).mono ?_
  rintro e w5 ⟨rfl, hb5⟩
  have HM := hid (HM.out.call hb5)
  have HCM := hid (HCM.out.below hb5 HCM.out.lt)
  clear hb5
  have c0 := HM.out.tl.tl.c
  have z0 := HM.out.tl.tl.z
  have c1 := HM.out.tl.c
  have z1 := HM.out.tl.z
  have f1 := HM.out.tl.f
  have c2 := HM.out.c
  have f2 := HM.out.f
  have z2 := HM.out.z
  have hge : u.heap.size ≤ w.heap.size + 1 := by have := HU.out.2; omega
  have hge2 : u.heap.size ≤ wb.heap.size := by have := HU.out.2; omega
  have hg3 : g ≠ w.heap.size + 1 := by have := HG.out; omega
  have hg4 : g ≠ wb.heap.size := by have := HG.out; omega
  go_wp2_with (with_reducible change bodyPost _ _ _ Exit.ret _ _; go_loud (refine bodyPost_ret (v := .tuple #[.agg #[.int .i64 (5), .int .i64 (8 * b + 5), .int .i64 (0), .int .i64 (0), .int .i64 (0), .int .i64 0, .int .i64 0], .int .i64 0]) (by simp [results, Tryd.results88, go_sem, *]) rfl ⟨rfl, turned_mk (turn_trans HU.out.1 (turn_of_below ?_ _)) ?_⟩))
  · repeat first | with_reducible exact HM.out.below | with_reducible exact HO.out.below | with_reducible refine below_alloc ?_ _ | with_reducible refine below_set ?_ hge _ _ | with_reducible refine below_set ?_ hge2 _ _
  · repeat first | with_reducible exact HCM.out | with_reducible exact HC.out | with_reducible refine CurAt.alloc ?_ _ | with_reducible refine CurAt.far ?_ hg3 _ _ | with_reducible refine CurAt.far ?_ hg4 _ _
set_option maxHeartbeats 1000000 in
theorem sib_n_0 (g : Nat) (bs : List Int) (sz a : Nat) (s : Int)   (hs : Hid (getN (bs.take sz) a 1 false = s ∧ s / 64 = 0 ∧ s / 8 % 8 = 4 ∧ s % 8 = 5)) (w : World) (hc : CurAt w g bs sz a 0) (hsz : sz ≤ 15) (has : a < sz) :
    Calls Tryd.prog 88 #[.agg #[.pointer (some ⟨g, 0, none⟩), .int .i64 0, .int .i64 0], .int .i64 0] w fun e w' => e = .returned (.tuple #[.agg #[.int .i64 (0), .int .i64 (0), .int .i64 (0), .int .i64 (0), .int .i64 (0), .int .i64 0, .int .i64 0], .int .i64 0]) ∧ Turned w w' g bs sz ((a : Int) + 1) 0 := by
  have HC := hid hc
  have HG := hid hc.lt
  have HBs := hid (And.intro hc.2.1 (show sz ≤ bs.length by rw [hc.1]; exact hsz))
  clear hc
  have HO := hid (((Own.nil w).alloc w.heap.size #[.pointer (some ⟨g, 0, none⟩), .int .i64 0, .int .i64 0] 70 rfl).alloc (w.heap.size + 1) #[.int .i64 0, .int .i64 0, .int .i64 0, .int .i64 0, .int .i64 0, .int .i64 0, .int .i64 0] 25 (by simp))
  go_enter Tryd.func88, Tryd.ntmps88
  go_wp2_with fail
  generalize hW1 : (w.alloc (.cells #[.pointer (some ⟨g, 0, none⟩), .int .i64 0, .int .i64 0] 70)).alloc (.cells #[.int .i64 0, .int .i64 0, .int .i64 0, .int .i64 0, .int .i64 0, .int .i64 0, .int .i64 0] 25) = W1 at *
  have HC1 := hid (HC.out.below HO.out.below HG.out)
  refine (byte_ok g bs sz a _ HC1.out hsz has).mono ?_
  rintro e wb ⟨rfl, hg1, hc1⟩
  obtain ⟨u, hu1, hu2, ho⟩ := HO.out.turn hg1 HG.out
  have HU := hid (And.intro hu1 hu2)
  have HO := hid ho
  have HC := hid hc1
  clear hg1 hc1 hu1 hu2 ho HC1 hW1
  have c0 := HO.out.tl.c
  have z0 := HO.out.tl.z
  have c1 := HO.out.c
  have z1 := HO.out.z
  have f1 := HO.out.f
  rw [hs.out.1]
  have hs0 : 0 ≤ s ∧ s < 256 := hs.out.1 ▸ getN_byte HBs.out.1 HBs.out.2 has
  go_wp2_with fail
  refine (split_any s hs0 _).mono ?_
  rintro e w2 ⟨rfl, rfl⟩
  rw [hs.out.2.1, hs.out.2.2.1, hs.out.2.2.2]
  go_wp2_with fail
  refine (err_any g bs sz _ _ _ HC.out).mono ?_
  rintro e w3 ⟨rfl, rfl⟩
  have hzb := HO.out.z
  have hn1 : ¬ wb.heap.size = w.heap.size + 1 := by omega
  have hn2 : ¬ w.heap.size + 1 = wb.heap.size := by omega
  have hn3 : ¬ w.heap.size = wb.heap.size := by omega
  have hn4 : ¬ wb.heap.size = w.heap.size := by omega
  have HM := hid (HO.out.alloc wb.heap.size #[.int .i64 0, .int .i64 0, .int .i64 0, .int .i64 0, .int .i64 0, .int .i64 0, .int .i64 0] 25 rfl)
  have HCM := hid (HC.out.below ((Below.refl wb.heap.size wb).alloc (Nat.le_refl _) (.cells #[.int .i64 0, .int .i64 0, .int .i64 0, .int .i64 0, .int .i64 0, .int .i64 0, .int .i64 0] 25)) HC.out.lt)
  have a0 := HO.out.tl.a
  have a1 := HO.out.a
  have b1 := HO.out.fa
  have hge : u.heap.size ≤ w.heap.size + 1 := by have := HU.out.2; omega
  have hge2 : u.heap.size ≤ wb.heap.size := by have := HU.out.2; omega
  have hg3 : g ≠ w.heap.size + 1 := by have := HG.out; omega
  have hg4 : g ≠ wb.heap.size := by have := HG.out; omega
  go_wp2_with (with_reducible change bodyPost _ _ _ Exit.ret _ _; go_loud (refine bodyPost_ret (v := .tuple #[.agg #[.int .i64 (0), .int .i64 (0), .int .i64 (0), .int .i64 (0), .int .i64 (0), .int .i64 0, .int .i64 0], .int .i64 0]) (by simp [results, Tryd.results88, go_sem, *]) rfl ⟨rfl, turned_mk (turn_trans HU.out.1 (turn_of_below ?_ _)) ?_⟩))
  · repeat first | with_reducible exact HM.out.below | with_reducible exact HO.out.below | with_reducible refine below_alloc ?_ _ | with_reducible refine below_set ?_ hge _ _ | with_reducible refine below_set ?_ hge2 _ _
  · repeat first | with_reducible exact HCM.out | with_reducible exact HC.out | with_reducible refine CurAt.alloc ?_ _ | with_reducible refine CurAt.far ?_ hg3 _ _ | with_reducible refine CurAt.far ?_ hg4 _ _
set_option maxHeartbeats 1000000 in
theorem sib_n_1 (g : Nat) (bs : List Int) (sz a : Nat) (s : Int)   (hs : Hid (getN (bs.take sz) a 1 false = s ∧ s / 64 = 0 ∧ s / 8 % 8 = 4 ∧ s % 8 = 5)) (w : World) (hc : CurAt w g bs sz a 0) (hsz : sz ≤ 15) (has : a < sz) :
    Calls Tryd.prog 88 #[.agg #[.pointer (some ⟨g, 0, none⟩), .int .i64 0, .int .i64 1], .int .i64 0] w fun e w' => e = .returned (.tuple #[.agg #[.int .i64 (0), .int .i64 (0), .int .i64 (0), .int .i64 (0), .int .i64 (0), .int .i64 0, .int .i64 0], .int .i64 4]) ∧ Turned w w' g bs sz ((a : Int) + 1) 0 := by
  have HC := hid hc
  have HG := hid hc.lt
  have HBs := hid (And.intro hc.2.1 (show sz ≤ bs.length by rw [hc.1]; exact hsz))
  clear hc
  have HO := hid (((Own.nil w).alloc w.heap.size #[.pointer (some ⟨g, 0, none⟩), .int .i64 0, .int .i64 1] 70 rfl).alloc (w.heap.size + 1) #[.int .i64 0, .int .i64 0, .int .i64 0, .int .i64 0, .int .i64 0, .int .i64 0, .int .i64 0] 25 (by simp))
  go_enter Tryd.func88, Tryd.ntmps88
  go_wp2_with fail
  generalize hW1 : (w.alloc (.cells #[.pointer (some ⟨g, 0, none⟩), .int .i64 0, .int .i64 1] 70)).alloc (.cells #[.int .i64 0, .int .i64 0, .int .i64 0, .int .i64 0, .int .i64 0, .int .i64 0, .int .i64 0] 25) = W1 at *
  have HC1 := hid (HC.out.below HO.out.below HG.out)
  refine (byte_ok g bs sz a _ HC1.out hsz has).mono ?_
  rintro e wb ⟨rfl, hg1, hc1⟩
  obtain ⟨u, hu1, hu2, ho⟩ := HO.out.turn hg1 HG.out
  have HU := hid (And.intro hu1 hu2)
  have HO := hid ho
  have HC := hid hc1
  clear hg1 hc1 hu1 hu2 ho HC1 hW1
  have c0 := HO.out.tl.c
  have z0 := HO.out.tl.z
  have c1 := HO.out.c
  have z1 := HO.out.z
  have f1 := HO.out.f
  rw [hs.out.1]
  have hs0 : 0 ≤ s ∧ s < 256 := hs.out.1 ▸ getN_byte HBs.out.1 HBs.out.2 has
  go_wp2_with fail
  refine (split_any s hs0 _).mono ?_
  rintro e w2 ⟨rfl, rfl⟩
  rw [hs.out.2.1, hs.out.2.2.1, hs.out.2.2.2]
  go_wp2_with fail
  refine (err_any g bs sz _ _ _ HC.out).mono ?_
  rintro e w3 ⟨rfl, rfl⟩
  have hzb := HO.out.z
  have hn1 : ¬ wb.heap.size = w.heap.size + 1 := by omega
  have hn2 : ¬ w.heap.size + 1 = wb.heap.size := by omega
  have hn3 : ¬ w.heap.size = wb.heap.size := by omega
  have hn4 : ¬ wb.heap.size = w.heap.size := by omega
  have HM := hid (HO.out.alloc wb.heap.size #[.int .i64 0, .int .i64 0, .int .i64 0, .int .i64 0, .int .i64 0, .int .i64 0, .int .i64 0] 25 rfl)
  have HCM := hid (HC.out.below ((Below.refl wb.heap.size wb).alloc (Nat.le_refl _) (.cells #[.int .i64 0, .int .i64 0, .int .i64 0, .int .i64 0, .int .i64 0, .int .i64 0, .int .i64 0] 25)) HC.out.lt)
  have a0 := HO.out.tl.a
  have a1 := HO.out.a
  have b1 := HO.out.fa
  have hge : u.heap.size ≤ w.heap.size + 1 := by have := HU.out.2; omega
  have hge2 : u.heap.size ≤ wb.heap.size := by have := HU.out.2; omega
  have hg3 : g ≠ w.heap.size + 1 := by have := HG.out; omega
  have hg4 : g ≠ wb.heap.size := by have := HG.out; omega
  go_wp2_with (with_reducible change bodyPost _ _ _ Exit.ret _ _; go_loud (refine bodyPost_ret (v := .tuple #[.agg #[.int .i64 (0), .int .i64 (0), .int .i64 (0), .int .i64 (0), .int .i64 (0), .int .i64 0, .int .i64 0], .int .i64 4]) (by simp [results, Tryd.results88, go_sem, *]) rfl ⟨rfl, turned_mk (turn_trans HU.out.1 (turn_of_below ?_ _)) ?_⟩))
  · repeat first | with_reducible exact HM.out.below | with_reducible exact HO.out.below | with_reducible refine below_alloc ?_ _ | with_reducible refine below_set ?_ hge _ _ | with_reducible refine below_set ?_ hge2 _ _
  · repeat first | with_reducible exact HCM.out | with_reducible exact HC.out | with_reducible refine CurAt.alloc ?_ _ | with_reducible refine CurAt.far ?_ hg3 _ _ | with_reducible refine CurAt.far ?_ hg4 _ _
set_option maxHeartbeats 1000000 in
theorem sib_z_n (g : Nat) (bs : List Int) (sz a : Nat) (b mod q l s : Int)  (hz : ¬ q = 0) (hs : Hid (getN (bs.take sz) a 1 false = s ∧ s / 64 = q ∧ s / 8 % 8 = 4 ∧ s % 8 = l)) (w : World) (hc : CurAt w g bs sz a 0) (hsz : sz ≤ 15) (has : a < sz) :
    Calls Tryd.prog 88 #[.agg #[.pointer (some ⟨g, 0, none⟩), .int .i64 0, .int .i64 b], .int .i64 mod] w fun e w' => e = .returned (.tuple #[.agg #[.int .i64 (0), .int .i64 (0), .int .i64 (0), .int .i64 (0), .int .i64 (0), .int .i64 0, .int .i64 0], .int .i64 4]) ∧ Turned w w' g bs sz ((a : Int) + 1) 0 := by
  have HC := hid hc
  have HG := hid hc.lt
  have HBs := hid (And.intro hc.2.1 (show sz ≤ bs.length by rw [hc.1]; exact hsz))
  clear hc
  have HO := hid (((Own.nil w).alloc w.heap.size #[.pointer (some ⟨g, 0, none⟩), .int .i64 0, .int .i64 b] 70 rfl).alloc (w.heap.size + 1) #[.int .i64 0, .int .i64 0, .int .i64 0, .int .i64 0, .int .i64 0, .int .i64 0, .int .i64 0] 25 (by simp))
  go_enter Tryd.func88, Tryd.ntmps88
  go_wp2_with fail
  generalize hW1 : (w.alloc (.cells #[.pointer (some ⟨g, 0, none⟩), .int .i64 0, .int .i64 b] 70)).alloc (.cells #[.int .i64 0, .int .i64 0, .int .i64 0, .int .i64 0, .int .i64 0, .int .i64 0, .int .i64 0] 25) = W1 at *
  have HC1 := hid (HC.out.below HO.out.below HG.out)
  refine (byte_ok g bs sz a _ HC1.out hsz has).mono ?_
  rintro e wb ⟨rfl, hg1, hc1⟩
  obtain ⟨u, hu1, hu2, ho⟩ := HO.out.turn hg1 HG.out
  have HU := hid (And.intro hu1 hu2)
  have HO := hid ho
  have HC := hid hc1
  clear hg1 hc1 hu1 hu2 ho HC1 hW1
  have c0 := HO.out.tl.c
  have z0 := HO.out.tl.z
  have c1 := HO.out.c
  have z1 := HO.out.z
  have f1 := HO.out.f
  rw [hs.out.1]
  have hs0 : 0 ≤ s ∧ s < 256 := hs.out.1 ▸ getN_byte HBs.out.1 HBs.out.2 has
  go_wp2_with fail
  refine (split_any s hs0 _).mono ?_
  rintro e w2 ⟨rfl, rfl⟩
  rw [hs.out.2.1, hs.out.2.2.1, hs.out.2.2.2]
  go_wp2_with fail
  refine (err_any g bs sz _ _ _ HC.out).mono ?_
  rintro e w3 ⟨rfl, rfl⟩
  have hzb := HO.out.z
  have hn1 : ¬ wb.heap.size = w.heap.size + 1 := by omega
  have hn2 : ¬ w.heap.size + 1 = wb.heap.size := by omega
  have hn3 : ¬ w.heap.size = wb.heap.size := by omega
  have hn4 : ¬ wb.heap.size = w.heap.size := by omega
  have HM := hid (HO.out.alloc wb.heap.size #[.int .i64 0, .int .i64 0, .int .i64 0, .int .i64 0, .int .i64 0, .int .i64 0, .int .i64 0] 25 rfl)
  have HCM := hid (HC.out.below ((Below.refl wb.heap.size wb).alloc (Nat.le_refl _) (.cells #[.int .i64 0, .int .i64 0, .int .i64 0, .int .i64 0, .int .i64 0, .int .i64 0, .int .i64 0] 25)) HC.out.lt)
  have a0 := HO.out.tl.a
  have a1 := HO.out.a
  have b1 := HO.out.fa
  have hge : u.heap.size ≤ w.heap.size + 1 := by have := HU.out.2; omega
  have hge2 : u.heap.size ≤ wb.heap.size := by have := HU.out.2; omega
  have hg3 : g ≠ w.heap.size + 1 := by have := HG.out; omega
  have hg4 : g ≠ wb.heap.size := by have := HG.out; omega
  go_wp2_with (with_reducible change bodyPost _ _ _ Exit.ret _ _; go_loud (refine bodyPost_ret (v := .tuple #[.agg #[.int .i64 (0), .int .i64 (0), .int .i64 (0), .int .i64 (0), .int .i64 (0), .int .i64 0, .int .i64 0], .int .i64 4]) (by simp [results, Tryd.results88, go_sem, *]) rfl ⟨rfl, turned_mk (turn_trans HU.out.1 (turn_of_below ?_ _)) ?_⟩))
  · repeat first | with_reducible exact HM.out.below | with_reducible exact HO.out.below | with_reducible refine below_alloc ?_ _ | with_reducible refine below_set ?_ hge _ _ | with_reducible refine below_set ?_ hge2 _ _
  · repeat first | with_reducible exact HCM.out | with_reducible exact HC.out | with_reducible refine CurAt.alloc ?_ _ | with_reducible refine CurAt.far ?_ hg3 _ _ | with_reducible refine CurAt.far ?_ hg4 _ _
end Go.Proofs.YtiiepdgpnnjpiaaDoor
