/-
  The program's reader: an operand, in one; Read.
-/
import Derived.Test.YtiiepdgpnnjpiaaDoorRdOp
import Derived.Test.YtiiepdgpnnjpiaaDoorJoin
namespace Go.Proofs.YtiiepdgpnnjpiaaDoor
open Go.RowKit
set_option maxRecDepth 100000

/-- What the reader answers. -/
def OpAns (R : Int × Sn) (g : Nat) (bs : List Int) (sz a : Nat) (w : World) (e : Ending) (w' : World) : Prop :=
  ∃ (y : Sn) (k : Int), e = .returned (.tuple #[SV y k, .int .i64 R.1]) ∧ w.grownBy w' (some g) ∧ (R.1 = 0 → (y.f = R.2.f ∧ y.r = R.2.r ∧ y.m = R.2.m) ∧ CurAt w' g bs sz ((a + R.2.n : Nat) : Int) 0)
theorem roperand_any (g : Nat) (bs : List Int) (sz a : Nat) (x b : Int) (hx : 0 ≤ x ∧ x ≤ 1) (hb : 0 ≤ b ∧ b ≤ 1) (w : World) (hc : CurAt w g bs sz a 0) (hsz : sz ≤ 15) (ha : a ≤ sz) :
    Calls Tryd.prog 35 #[.agg #[.pointer (some ⟨g, 0, none⟩), .int .i64 x, .int .i64 b]] w (OpAns (readF x b ((bs.take sz).drop a)) g bs sz a w) := by
  have hl : sz ≤ bs.length := by rw [hc.1]; exact hsz
  rcases Nat.lt_or_ge a sz with has | has
  · have hl1 : a < (bs.take sz).length := by rw [List.length_take]; omega
    obtain ⟨e1, _⟩ := getN_one (hc.2.1.take sz) a hl1
    have ht : (bs.take sz).drop a = getN (bs.take sz) a 1 false :: (bs.take sz).drop (a + 1) := by
      rw [e1, List.drop_eq_getElem_cons hl1, List.getElem?_eq_getElem hl1]; rfl
    have hr := getN_byte hc.2.1 hl has
    rw [ht]
    generalize hs : getN (bs.take sz) a 1 false = s at hr ⊢
    obtain ⟨i, hi⟩ : ∃ i, s / 8 % 8 = i := ⟨_, rfl⟩
    obtain ⟨q, hq⟩ : ∃ q, s / 64 = q := ⟨_, rfl⟩
    obtain ⟨l, hl'⟩ : ∃ l, s % 8 = l := ⟨_, rfl⟩
    have rq : 0 ≤ q ∧ q ≤ 3 := by omega
    have H : Hid (getN (bs.take sz) a 1 false = s ∧ s / 64 = q ∧ s / 8 % 8 = i ∧ s % 8 = l) := hid ⟨hs, hq, hi, hl'⟩
    simp only [readF, hi, hq, hl']
    by_cases h3 : q = 3
    · subst h3
      rw [if_pos rfl]
      by_cases h1 : x = 1
      · subst h1
        rw [if_pos rfl]
        exact (op_bytes g bs sz a b i l s H w hc hsz has).mono fun e w' ⟨h, k⟩ => ⟨⟨0, 0, zeroM, 0⟩, 0, h, k, fun h => absurd h (by decide)⟩
      · have : x = 0 := by omega
        subst this
        rw [if_neg (by decide)]
        refine (op_reg g bs sz a b i l s hb H w hc hsz has).mono fun e w' ⟨h, k1, k2⟩ => ⟨⟨i, 8 * b + l, zeroM, 0⟩, 0, h, k1, fun _ => ⟨⟨rfl, rfl, rfl⟩, ?_⟩⟩
        simp only
        rw [show ((a + 1 : Nat) : Int) = (a : Int) + 1 by omega]
        exact k2
    · rw [if_neg h3]
      have hq3 : q = 0 ∨ q = 1 ∨ q = 2 := by omega
      generalize hP : placeF q l x b ((bs.take sz).drop (a + 1)) = P
      obtain ⟨er, ⟨p0, p1, p2, p3, p4, p5, p6⟩, n⟩ := P
      by_cases he : er = 0
      · subst he
        simp only [if_true]
        refine (op_ok g bs sz a n x b q i l s p0 p1 p2 p3 p4 p5 p6 hq3 h3 hx hb (hid hP) H w hc hsz has).mono fun e w' ⟨h, k1, k2⟩ => ⟨⟨i, -1, ⟨p0, p1, p2, p3, p4, p5, p6⟩, 0⟩, 0, h, k1, fun _ => ⟨⟨rfl, rfl, rfl⟩, ?_⟩⟩
        simp only
        rw [← Nat.add_assoc]
        exact k2
      · simp only
        rw [if_neg he]
        exact (op_err g bs sz a n x b q i l s p0 p1 p2 p3 p4 p5 p6 er hq3 h3 hx hb (hid hP) H w hc hsz has).mono fun e w' ⟨⟨y, k, h⟩, k1⟩ => ⟨y, k, h, k1, fun h => absurd h he⟩
  · have e : a = sz := by omega
    subst e
    have hd : (bs.take a).drop a = [] := by rw [List.drop_eq_nil_iff, List.length_take]; omega
    rw [hd]
    exact (op_stop g bs a x b w hc hsz).mono fun e w' ⟨h, k⟩ => ⟨⟨0, 0, zeroM, 0⟩, 0, h, k, fun h => absurd h (show ¬ (9 : Int) = 0 by decide)⟩
theorem Mem.shift {w : World} {B B' : Nat} {A : Option Addr} {zs : List Int} (h : Mem w B A zs) (hB : B ≤ B') (k : Nat) : Mem w B' (A.map fun p => p.add k) (zs.drop k) := by
  refine ⟨h.1.drop k, ?_⟩
  rcases h.2 with rfl | ⟨b, off, rfl, hb, hc⟩
  · left; simp
  · refine .inr ⟨b, off + k, ?_, by omega, fun i hi => ?_⟩
    · simp [Addr.add]
    · rw [List.length_drop] at hi
      have := hc (k + i) (by omega)
      rw [← Nat.add_assoc] at this
      rw [this, List.getElem?_drop]
theorem open_take {ys : List Int} {n : Nat} (h : ys.length = n) : (openBytes ys).take (min n 15) = ys.take 15 := by
  subst h
  unfold openBytes
  have hl : (ys.take 15).length = min ys.length 15 := by rw [List.length_take, Nat.min_comm]
  rw [← hl, List.take_left]
theorem below_set' {u w : World} {B k : Nat} (h : Below B u w) (hk : B ≤ k) (i : Nat) (v : Value) : Below B u (w.setCell ⟨k, i, none⟩ v) := h.setCell hk v
theorem below_alloc' {u w : World} (h : Below u.heap.size u w) (o : Obj) : Below u.heap.size u (w.alloc o) := h.alloc h.size o
/-- What Read answers: the error, what was seen, where it ends. -/
def readA (xs : List Int) (at_ x b : Int) : Int × Sn × Int :=
  if at_ < 0 ∨ (xs.length : Int) < at_ ∨ ¬ (x = 0 ∨ x = 1) ∨ ¬ (b = 0 ∨ b = 1) then (5, zeroS, 0)
  else let R := readF x b ((xs.drop at_.toNat).take 15); if R.1 = 0 then (0, R.2, at_ + R.2.n) else (R.1, zeroS, 0)
set_option maxHeartbeats 1000000 in
theorem read_neg (A : Option Addr) (m c : Nat) (at_ x b : Int) (h : at_ < 0) (w : World) :
    Calls Tryd.prog 14 #[.slice A m c, .int .i64 at_, .int .i64 x, .int .i64 b] w fun e w' => e = .returned (.tuple #[.agg #[.int .i64 0, .int .i64 0, .int .i64 0, .int .i64 0, .int .i64 0, .int .i64 0, .int .i64 0, .int .i64 0, .int .i64 0, .int .i64 0], .int .i64 5]) ∧ Below w.heap.size w w' := by
  go_enter Tryd.func14, Tryd.ntmps14
  have hge : w.heap.size ≤ w.heap.size := Nat.le_refl _
  go_wp2_with (first | (go_at_call 33; refine (bit_any _ _).mono ?_; rintro e w1 ⟨rfl, rfl⟩) | (with_reducible change bodyPost _ _ _ Exit.ret _ _; go_loud (refine bodyPost_ret (v := .tuple #[.agg #[.int .i64 0, .int .i64 0, .int .i64 0, .int .i64 0, .int .i64 0, .int .i64 0, .int .i64 0, .int .i64 0, .int .i64 0, .int .i64 0], .int .i64 5]) (by simp [results, Tryd.results14, go_sem, *]) rfl ⟨rfl, ?_⟩)))
  all_goals (repeat first | with_reducible exact Below.refl _ _ | with_reducible refine below_set ?_ hge _ _ | with_reducible refine below_alloc ?_ _)
set_option maxHeartbeats 1000000 in
theorem read_far (A : Option Addr) (m c : Nat) (at_ x b : Int) (h : 0 ≤ at_) (h2 : (m : Int) < at_) (w : World) :
    Calls Tryd.prog 14 #[.slice A m c, .int .i64 at_, .int .i64 x, .int .i64 b] w fun e w' => e = .returned (.tuple #[.agg #[.int .i64 0, .int .i64 0, .int .i64 0, .int .i64 0, .int .i64 0, .int .i64 0, .int .i64 0, .int .i64 0, .int .i64 0, .int .i64 0], .int .i64 5]) ∧ Below w.heap.size w w' := by
  go_enter Tryd.func14, Tryd.ntmps14
  have hge : w.heap.size ≤ w.heap.size := Nat.le_refl _
  go_wp2_with (first | (go_at_call 33; refine (bit_any _ _).mono ?_; rintro e w1 ⟨rfl, rfl⟩) | (with_reducible change bodyPost _ _ _ Exit.ret _ _; go_loud (refine bodyPost_ret (v := .tuple #[.agg #[.int .i64 0, .int .i64 0, .int .i64 0, .int .i64 0, .int .i64 0, .int .i64 0, .int .i64 0, .int .i64 0, .int .i64 0, .int .i64 0], .int .i64 5]) (by simp [results, Tryd.results14, go_sem, *]) rfl ⟨rfl, ?_⟩)))
  all_goals (repeat first | with_reducible exact Below.refl _ _ | with_reducible refine below_set ?_ hge _ _ | with_reducible refine below_alloc ?_ _)
set_option maxHeartbeats 1000000 in
theorem read_x (A : Option Addr) (m c : Nat) (at_ x b : Int) (h : 0 ≤ at_) (h2 : at_ ≤ m) (hx : ¬ (x = 0 ∨ x = 1)) (w : World) :
    Calls Tryd.prog 14 #[.slice A m c, .int .i64 at_, .int .i64 x, .int .i64 b] w fun e w' => e = .returned (.tuple #[.agg #[.int .i64 0, .int .i64 0, .int .i64 0, .int .i64 0, .int .i64 0, .int .i64 0, .int .i64 0, .int .i64 0, .int .i64 0, .int .i64 0], .int .i64 5]) ∧ Below w.heap.size w w' := by
  have kx : (x == 0 || x == 1) = false := by simp; omega
  go_enter Tryd.func14, Tryd.ntmps14
  have hge : w.heap.size ≤ w.heap.size := Nat.le_refl _
  go_wp2_with (first | (go_at_call 33; refine (bit_any _ _).mono ?_; rintro e w1 ⟨rfl, rfl⟩) | (with_reducible change bodyPost _ _ _ Exit.ret _ _; go_loud (refine bodyPost_ret (v := .tuple #[.agg #[.int .i64 0, .int .i64 0, .int .i64 0, .int .i64 0, .int .i64 0, .int .i64 0, .int .i64 0, .int .i64 0, .int .i64 0, .int .i64 0], .int .i64 5]) (by simp [results, Tryd.results14, go_sem, *]) rfl ⟨rfl, ?_⟩)))
  all_goals (repeat first | with_reducible exact Below.refl _ _ | with_reducible refine below_set ?_ hge _ _ | with_reducible refine below_alloc ?_ _)
set_option maxHeartbeats 1000000 in
theorem read_b (A : Option Addr) (m c : Nat) (at_ x b : Int) (h : 0 ≤ at_) (h2 : at_ ≤ m) (hx : x = 0 ∨ x = 1) (hb : ¬ (b = 0 ∨ b = 1)) (w : World) :
    Calls Tryd.prog 14 #[.slice A m c, .int .i64 at_, .int .i64 x, .int .i64 b] w fun e w' => e = .returned (.tuple #[.agg #[.int .i64 0, .int .i64 0, .int .i64 0, .int .i64 0, .int .i64 0, .int .i64 0, .int .i64 0, .int .i64 0, .int .i64 0, .int .i64 0], .int .i64 5]) ∧ Below w.heap.size w w' := by
  have kx : (x == 0 || x == 1) = true := by simp; omega
  have kb : (b == 0 || b == 1) = false := by simp; omega
  go_enter Tryd.func14, Tryd.ntmps14
  have hge : w.heap.size ≤ w.heap.size := Nat.le_refl _
  go_wp2_with (first | (go_at_call 33; refine (bit_any _ _).mono ?_; rintro e w1 ⟨rfl, rfl⟩) | (with_reducible change bodyPost _ _ _ Exit.ret _ _; go_loud (refine bodyPost_ret (v := .tuple #[.agg #[.int .i64 0, .int .i64 0, .int .i64 0, .int .i64 0, .int .i64 0, .int .i64 0, .int .i64 0, .int .i64 0, .int .i64 0, .int .i64 0], .int .i64 5]) (by simp [results, Tryd.results14, go_sem, *]) rfl ⟨rfl, ?_⟩)))
  all_goals (repeat first | with_reducible exact Below.refl _ _ | with_reducible refine below_set ?_ hge _ _ | with_reducible refine below_alloc ?_ _)
set_option maxHeartbeats 1000000 in
theorem read_ok (A : Option Addr) (m c : Nat) (k n : Nat) (x b f r p0 p1 p2 p3 p4 p5 p6 : Int) (xs : List Int) (w : World) (hm : xs.length = m) (hmc : m ≤ c) (hk : k ≤ m) (hmb : m ≤ 1000000) (hM : Mem w w.heap.size A xs) (hx : x = 0 ∨ x = 1) (hb : b = 0 ∨ b = 1) (hn : n ≤ 100) (HR : Hid (readF x b ((xs.drop k).take 15) = (0, ⟨f, r, ⟨p0, p1, p2, p3, p4, p5, p6⟩, n⟩))) :
    Calls Tryd.prog 14 #[.slice A m c, .int .i64 k, .int .i64 x, .int .i64 b] w fun e w' => e = .returned (.tuple #[.agg #[.int .i64 f, .int .i64 r, .int .i64 p0, .int .i64 p1, .int .i64 p2, .int .i64 p3, .int .i64 p4, .int .i64 p5, .int .i64 p6, .int .i64 ((k : Int) + n)], .int .i64 0]) ∧ Below w.heap.size w w' := by
  have kx : (x == 0 || x == 1) = true := by simp; omega
  have kb : (b == 0 || b == 1) = true := by simp; omega
  have hx2 : 0 ≤ x ∧ x ≤ 1 := by omega
  have hb2 : 0 ≤ b ∧ b ≤ 1 := by omega
  have HMa := hid (fun (W : World) (hW : Below w.heap.size w W) (hc : c = k) => show Mem W W.heap.size A (xs.drop k) from by rw [List.drop_eq_nil_iff.2 (by omega)]; exact Mem.nil _ _ _)
  have HMb := hid (fun (W : World) (hW : Below w.heap.size w W) => (hM.below hW).shift hW.size k)
  have HO := hid ((Own.nil w).alloc w.heap.size #[.int .i64 0, .int .i64 0, .int .i64 0, .int .i64 0, .int .i64 0, .int .i64 0, .int .i64 0, .int .i64 0, .int .i64 0, .int .i64 0] 41 rfl)
  clear hM
  go_enter Tryd.func14, Tryd.ntmps14
  go_wp2_with (first | (go_at_call 33; refine (bit_any _ _).mono ?_; rintro e w1 ⟨rfl, rfl⟩))
  all_goals
    refine (copen_any _ _ (m - k) (xs.drop k) _ (by rw [List.length_drop, hm]) (by first | exact HMa.out _ HO.out.below (by assumption) | exact HMb.out _ HO.out.below)).mono ?_
    generalize hW1 : w.alloc (.cells #[.int .i64 0, .int .i64 0, .int .i64 0, .int .i64 0, .int .i64 0, .int .i64 0, .int .i64 0, .int .i64 0, .int .i64 0, .int .i64 0] 41) = W1 at *
    rintro e wo ⟨rfl, hbo, hco⟩
    have hg1 : w.heap.size < W1.heap.size := HO.out.z
    have HB := hid (HO.out.below.trans (hbo.mono HO.out.below.size))
    have HRow := hid (show wo.heap[w.heap.size]? = some (.cells #[.int .i64 0, .int .i64 0, .int .i64 0, .int .i64 0, .int .i64 0, .int .i64 0, .int .i64 0, .int .i64 0, .int .i64 0, .int .i64 0] 41 (0, 0)) from ((HO.out.call hbo).2.1 _ List.mem_cons_self).2)
    have HC := hid hco
    have hgo := hid hco.lt
    clear hbo hco HO hW1
    generalize W1.heap.size = g at *
    have c0 := fun j => cell_of_row wo w.heap.size j _ _ _ HRow.out
    have f0 := fun j => frozen_of_row wo w.heap.size j _ _ HRow.out
    have z0 : w.heap.size < wo.heap.size := (Array.getElem?_eq_some_iff.1 HRow.out).1
    have HO := hid ((Own.nil wo).alloc wo.heap.size #[.pointer (some ⟨g, 0, none⟩), .int .i64 x, .int .i64 b] 70 rfl)
    have HC1 := hid (HC.out.alloc (.cells #[.pointer (some ⟨g, 0, none⟩), .int .i64 x, .int .i64 b] 70))
    have hsz : min (m - k) 15 ≤ 15 := Nat.min_le_right _ _
    go_wp2_with fail
    refine (roperand_any g (openBytes (xs.drop k)) (min (m - k) 15) 0 x b hx2 hb2 _ HC1.out hsz (Nat.zero_le _)).mono ?_
    rw [open_take (by rw [List.length_drop, hm]), List.drop_zero, HR.out]
    rintro e wp ⟨y, j, rfl, hturn, hok⟩
    obtain ⟨⟨e1, e2, e3⟩, hcp⟩ := hok rfl
    obtain ⟨yf, yr, ym, yn⟩ := y
    simp only at e1 e2 e3
    subst yf; subst yr; subst ym
    simp only [Nat.zero_add] at hcp
    have HC := hid hcp
    clear hcp
    clear hok
    obtain ⟨u, hu1, hu2, ho⟩ := HO.out.turn hturn hgo.out
    have HO := hid ho
    have HRow := hid (show wp.heap[w.heap.size]? = some (.cells #[.int .i64 0, .int .i64 0, .int .i64 0, .int .i64 0, .int .i64 0, .int .i64 0, .int .i64 0, .int .i64 0, .int .i64 0, .int .i64 0] 41 (0, 0)) from (hturn.block _ (by simp; omega) (by simp; omega)).trans ((Below.heap_alloc _ _ _ z0).trans HRow.out))
    have HB := hid (HB.out.trans (((Below.refl _ _).alloc HB.out.size _).trans (turn_below hturn (Nat.le_of_lt hg1) (by have := HB.out.size; simp; omega))))
    clear hu1 ho c0 f0 z0
    have c0 := fun j => cell_of_row wp w.heap.size j _ _ _ HRow.out
    have f0 := fun j => frozen_of_row wp w.heap.size j _ _ HRow.out
    have z0 : w.heap.size < wp.heap.size := (Array.getElem?_eq_some_iff.1 HRow.out).1
    have c1 := HO.out.c
    have z1 := HO.out.z
    have hge : w.heap.size ≤ w.heap.size := Nat.le_refl _
    have hge2 : w.heap.size ≤ wp.heap.size := HB.out.size
    have hn1 : ¬ wp.heap.size = w.heap.size := by omega
    have hn2 : ¬ w.heap.size = wp.heap.size := by omega
    have hg3 : g ≠ w.heap.size := by omega
    have a0 := fun (o : Obj) j => (((Below.refl _ wp).alloc (Nat.le_refl _) o).cell (p := ⟨w.heap.size, j, none⟩) z0).trans (c0 j)
    have a1 := HO.out.a
    have HCA := hid (fun o => HC.out.alloc o)
    go_wp2_with fail
    refine (cat_any g _ _ _ _ _ (HCA.out _)).mono ?_
    rintro e w9 ⟨rfl, rfl⟩
    have hw : wrap64 ((k : Int) + (n : Int)) = (k : Int) + n := IntWalk.wrap64_in _ ⟨by omega, by omega⟩
    go_wp2_with (with_reducible change bodyPost _ _ _ Exit.ret _ _; go_loud (refine bodyPost_ret (v := .tuple #[.agg #[.int .i64 f, .int .i64 r, .int .i64 p0, .int .i64 p1, .int .i64 p2, .int .i64 p3, .int .i64 p4, .int .i64 p5, .int .i64 p6, .int .i64 ((k : Int) + n)], .int .i64 0]) (by simp [results, Tryd.results14, go_sem, *]) rfl ⟨rfl, ?_⟩))
    repeat first | with_reducible exact HB.out | with_reducible refine below_set' ?_ hge _ _ | with_reducible refine below_set' ?_ hge2 _ _ | with_reducible refine below_alloc' ?_ _
set_option maxHeartbeats 1000000 in
theorem read_err (A : Option Addr) (m c : Nat) (k : Nat) (x b er : Int) (xs : List Int) (w : World) (hm : xs.length = m) (hmc : m ≤ c) (hk : k ≤ m) (hM : Mem w w.heap.size A xs) (hx : x = 0 ∨ x = 1) (hb : b = 0 ∨ b = 1) (he : ¬ er = 0) (y0 : Sn) (HR : Hid (readF x b ((xs.drop k).take 15) = (er, y0))) :
    Calls Tryd.prog 14 #[.slice A m c, .int .i64 k, .int .i64 x, .int .i64 b] w fun e w' => e = .returned (.tuple #[.agg #[.int .i64 0, .int .i64 0, .int .i64 0, .int .i64 0, .int .i64 0, .int .i64 0, .int .i64 0, .int .i64 0, .int .i64 0, .int .i64 0], .int .i64 er]) ∧ Below w.heap.size w w' := by
  have kx : (x == 0 || x == 1) = true := by simp; omega
  have kb : (b == 0 || b == 1) = true := by simp; omega
  have hx2 : 0 ≤ x ∧ x ≤ 1 := by omega
  have hb2 : 0 ≤ b ∧ b ≤ 1 := by omega
  have HMa := hid (fun (W : World) (hW : Below w.heap.size w W) (hc : c = k) => show Mem W W.heap.size A (xs.drop k) from by rw [List.drop_eq_nil_iff.2 (by omega)]; exact Mem.nil _ _ _)
  have HMb := hid (fun (W : World) (hW : Below w.heap.size w W) => (hM.below hW).shift hW.size k)
  have HO := hid ((Own.nil w).alloc w.heap.size #[.int .i64 0, .int .i64 0, .int .i64 0, .int .i64 0, .int .i64 0, .int .i64 0, .int .i64 0, .int .i64 0, .int .i64 0, .int .i64 0] 41 rfl)
  clear hM
  go_enter Tryd.func14, Tryd.ntmps14
  go_wp2_with (first | (go_at_call 33; refine (bit_any _ _).mono ?_; rintro e w1 ⟨rfl, rfl⟩))
  all_goals
    refine (copen_any _ _ (m - k) (xs.drop k) _ (by rw [List.length_drop, hm]) (by first | exact HMa.out _ HO.out.below (by assumption) | exact HMb.out _ HO.out.below)).mono ?_
    generalize hW1 : w.alloc (.cells #[.int .i64 0, .int .i64 0, .int .i64 0, .int .i64 0, .int .i64 0, .int .i64 0, .int .i64 0, .int .i64 0, .int .i64 0, .int .i64 0] 41) = W1 at *
    rintro e wo ⟨rfl, hbo, hco⟩
    have hg1 : w.heap.size < W1.heap.size := HO.out.z
    have HB := hid (HO.out.below.trans (hbo.mono HO.out.below.size))
    have HRow := hid (show wo.heap[w.heap.size]? = some (.cells #[.int .i64 0, .int .i64 0, .int .i64 0, .int .i64 0, .int .i64 0, .int .i64 0, .int .i64 0, .int .i64 0, .int .i64 0, .int .i64 0] 41 (0, 0)) from ((HO.out.call hbo).2.1 _ List.mem_cons_self).2)
    have HC := hid hco
    clear hbo hco HO hW1
    generalize W1.heap.size = g at *
    have c0 := fun j => cell_of_row wo w.heap.size j _ _ _ HRow.out
    have f0 := fun j => frozen_of_row wo w.heap.size j _ _ HRow.out
    have z0 : w.heap.size < wo.heap.size := (Array.getElem?_eq_some_iff.1 HRow.out).1
    have HO := hid ((Own.nil wo).alloc wo.heap.size #[.pointer (some ⟨g, 0, none⟩), .int .i64 x, .int .i64 b] 70 rfl)
    have HC1 := hid (HC.out.alloc (.cells #[.pointer (some ⟨g, 0, none⟩), .int .i64 x, .int .i64 b] 70))
    have hsz : min (m - k) 15 ≤ 15 := Nat.min_le_right _ _
    go_wp2_with fail
    refine (roperand_any g (openBytes (xs.drop k)) (min (m - k) 15) 0 x b hx2 hb2 _ HC1.out hsz (Nat.zero_le _)).mono ?_
    rw [open_take (by rw [List.length_drop, hm]), List.drop_zero, HR.out]
    rintro e wp ⟨y, j, rfl, hturn, hok⟩
    obtain ⟨yf, yr, ⟨y0, y1, y2, y3, y4, y5, y6⟩, yn⟩ := y
    clear hok
    obtain ⟨u, hu1, hu2, ho⟩ := HO.out.turn hturn (show g < wo.heap.size from HC.out.lt)
    have HO := hid ho
    have HRow := hid (show wp.heap[w.heap.size]? = some (.cells #[.int .i64 0, .int .i64 0, .int .i64 0, .int .i64 0, .int .i64 0, .int .i64 0, .int .i64 0, .int .i64 0, .int .i64 0, .int .i64 0] 41 (0, 0)) from (hturn.block _ (by simp; omega) (by simp; omega)).trans ((Below.heap_alloc _ _ _ z0).trans HRow.out))
    have HB := hid (HB.out.trans (((Below.refl _ _).alloc HB.out.size _).trans (turn_below hturn (Nat.le_of_lt hg1) (by have := HB.out.size; simp; omega))))
    clear hu1 ho c0 f0 z0
    have c0 := fun j => cell_of_row wp w.heap.size j _ _ _ HRow.out
    have f0 := fun j => frozen_of_row wp w.heap.size j _ _ HRow.out
    have z0 : w.heap.size < wp.heap.size := (Array.getElem?_eq_some_iff.1 HRow.out).1
    have c1 := HO.out.c
    have z1 := HO.out.z
    have hge : w.heap.size ≤ w.heap.size := Nat.le_refl _
    have hge2 : w.heap.size ≤ wp.heap.size := HB.out.size
    have hn1 : ¬ wp.heap.size = w.heap.size := by omega
    have hn2 : ¬ w.heap.size = wp.heap.size := by omega
    have hg3 : g ≠ w.heap.size := by omega
    go_wp2_with (with_reducible change bodyPost _ _ _ Exit.ret _ _; go_loud (refine bodyPost_ret (v := .tuple #[.agg #[.int .i64 0, .int .i64 0, .int .i64 0, .int .i64 0, .int .i64 0, .int .i64 0, .int .i64 0, .int .i64 0, .int .i64 0, .int .i64 0], .int .i64 er]) (by simp [results, Tryd.results14, go_sem, *]) rfl ⟨rfl, ?_⟩))
    repeat first | with_reducible exact HB.out | with_reducible refine below_set' ?_ hge _ _ | with_reducible refine below_set' ?_ hge2 _ _ | with_reducible refine below_alloc' ?_ _
end Go.Proofs.YtiiepdgpnnjpiaaDoor
