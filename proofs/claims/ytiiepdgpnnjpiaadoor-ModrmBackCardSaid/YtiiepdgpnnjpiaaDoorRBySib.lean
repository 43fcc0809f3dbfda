/-
  The document's answer: SIB.
-/
import Derived.Test.YtiiepdgpnnjpiaaDoorRDisps
import Derived.Test.YtiiepdgpnnjpiaaDoorOwns
import Derived.Deep.RegionHeld
namespace Go.Proofs.YtiiepdgpnnjpiaaDoor
open Go.RowKit
set_option maxRecDepth 100000

theorem olde_call {W w1 w2 : World} {rb : Nat} (h : W.heap.size ≤ w1.heap.size ∧ ∀ b o, b < W.heap.size → b ≠ rb → w1.cell? ⟨b, o, none⟩ = W.cell? ⟨b, o, none⟩) (hb : Below w1.heap.size w1 w2) : W.heap.size ≤ w2.heap.size ∧ ∀ b o, b < W.heap.size → b ≠ rb → w2.cell? ⟨b, o, none⟩ = W.cell? ⟨b, o, none⟩ :=
  ⟨Nat.le_trans h.1 hb.size, fun b o hl hn => (hb.cell (p := ⟨b, o, none⟩) (Nat.lt_of_lt_of_le hl h.1)).trans (h.2 b o hl hn)⟩
theorem olde_set {W w1 : World} {rb i : Nat} {u : Value} (h : W.heap.size ≤ w1.heap.size ∧ ∀ b o, b < W.heap.size → b ≠ rb → w1.cell? ⟨b, o, none⟩ = W.cell? ⟨b, o, none⟩) : W.heap.size ≤ (w1.setCell ⟨rb, i, none⟩ u).heap.size ∧ ∀ b o, b < W.heap.size → b ≠ rb → (w1.setCell ⟨rb, i, none⟩ u).cell? ⟨b, o, none⟩ = W.cell? ⟨b, o, none⟩ :=
  ⟨by simpa [World.setCell] using h.1, fun b o hl hn => (World.cell?_of_block (a := ⟨b, o, none⟩) (Below.heap_setCell w1 ⟨rb, i, none⟩ u b hn)).trans (h.2 b o hl hn)⟩
theorem olde_refl (W : World) (rb : Nat) : W.heap.size ≤ W.drew.heap.size ∧ ∀ b o, b < W.heap.size → b ≠ rb → W.drew.cell? ⟨b, o, none⟩ = W.cell? ⟨b, o, none⟩ := ⟨Nat.le_refl _, fun _ _ _ _ => rfl⟩
theorem bel_cells' {A w1 : World} (hb : Below A.heap.size A w1) (h : Nat) (hh : h < A.heap.size) :
    (∀ j, w1.cell? ⟨h, j, none⟩ = A.cell? ⟨h, j, none⟩) ∧ (∀ j, w1.frozen? ⟨h, j, none⟩ = A.frozen? ⟨h, j, none⟩) ∧ h < w1.heap.size :=
  ⟨fun j => hb.cell (p := ⟨h, j, none⟩) hh, fun j => hb.frozen (p := ⟨h, j, none⟩) hh, by have := hb.size; omega⟩
theorem wrap_pow3 {q : Int} (hq : 0 ≤ q ∧ q ≤ 3) : wrap64 (2 ^ q.toNat) = 2 ^ q.toNat := by
  have : q = 0 ∨ q = 1 ∨ q = 2 ∨ q = 3 := by omega
  rcases this with rfl | rfl | rfl | rfl <;> exact IntWalk.wrap64_in _ ⟨by decide, by decide⟩
theorem rdisp_of {A : Option Addr} {m c : Nat} {f er yf yr y0 y1 y2 y3 y4 y5 y6 k : Int} {yn a n : Nat} {ai ni : Int} {p0 p1 p2 p3 p4 p5 p6 : Int} {xs : List Int} (hR : docD xs a n f ⟨p0, p1, p2, p3, p4, p5, p6⟩ = (er, ⟨yf, yr, ⟨y0, y1, y2, y3, y4, y5, y6⟩, yn⟩, k)) (hai : ai = a) (hni : ni = n) (hm : xs.length = m) (hmc : m ≤ c) (ha : a ≤ 1000000) (ham : a ≤ m) (hn : n = 0 ∨ n = 1 ∨ n = 4) (w : World) (hM : Mem w w.heap.size A xs) :
    Calls Tryd.prog 38 #[.slice A m c, .int .i64 ai, .int .i64 ni, .int .i64 f, .agg #[.int .i64 p0, .int .i64 p1, .int .i64 p2, .int .i64 p3, .int .i64 p4, .int .i64 p5, .int .i64 p6]] w fun e w' => e = .returned (.tuple #[.agg #[.int .i64 yf, .int .i64 yr, .int .i64 y0, .int .i64 y1, .int .i64 y2, .int .i64 y3, .int .i64 y4, .int .i64 y5, .int .i64 y6, .int .i64 k], .int .i64 er]) ∧ Below w.heap.size w w' := by
  subst hai; subst hni
  have := rdisp_any A m c a n f ⟨p0, p1, p2, p3, p4, p5, p6⟩ xs w hm hmc ha ham hM hn
  rw [hR] at this
  exact this
theorem width_n (mod : Int) : widthF mod = 0 ∨ widthF mod = 1 ∨ widthF mod = 4 := by unfold widthF; (repeat' split) <;> omega
theorem wrap_one {a : Nat} (h : a ≤ 100000) : IntKind.i64.wrap ((a : Int) + 1) = ((a + 1 : Nat) : Int) := by
  rw [IntWalk.i64_left, IntWalk.wrap64_in _ ⟨by omega, by omega⟩]
  omega
theorem cast_one (a : Nat) : (a : Int) + 1 = ((a + 1 : Nat) : Int) := by omega
theorem box_alloc {w1 : World} {p : Addr} {v : Value} (h : w1.cell? p = some v) (o : Obj) : (w1.alloc o).cell? p = some v := (World.cell?_alloc_some w1 p o (by rw [h]; rfl)).trans h
/-- What the document's sib answers. -/
def docS (xs : List Int) (a : Nat) (mod f x b s : Int) : Int × Sn × Int :=
  if xs.length = a then (9, zeroS, 0)
  else if s / 8 % 8 + 8 * x = 4 ∧ ¬ s / 64 = 0 ∨ mod = 0 ∧ s % 8 = 5 ∧ b = 1 then (4, zeroS, 0)
  else docD xs (a + 1) (if mod = 0 ∧ s % 8 = 5 then 4 else widthF mod) f ⟨if mod = 0 ∧ s % 8 = 5 then 0 else 5, if mod = 0 ∧ s % 8 = 5 then 0 else s % 8 + 8 * b, if s / 8 % 8 + 8 * x = 4 then 0 else 5, if s / 8 % 8 + 8 * x = 4 then 0 else s / 8 % 8 + 8 * x, if s / 8 % 8 + 8 * x = 4 then 0 else 2 ^ (s / 64).toNat, 0, 0⟩
set_option maxHeartbeats 1000000 in
theorem docsib_stop (A : Option Addr) (a c : Nat) (mod f x b : Int) (w : World) :
    Calls Tryd.prog 37 #[.slice A a c, .int .i64 a, .int .i64 mod, .int .i64 f, .int .i64 x, .int .i64 b] w fun e w' => e = .returned (.tuple #[.agg #[.int .i64 0, .int .i64 0, .int .i64 0, .int .i64 0, .int .i64 0, .int .i64 0, .int .i64 0, .int .i64 0, .int .i64 0, .int .i64 0], .int .i64 9]) ∧ Below w.heap.size w w' := by
  have hge : w.heap.size ≤ w.heap.size := Nat.le_refl _
  go_enter Tryd.func37, Tryd.ntmps37
  go_wp2_with (with_reducible change bodyPost _ _ _ Exit.ret _ _; go_loud (refine bodyPost_ret (v := .tuple #[.agg #[.int .i64 0, .int .i64 0, .int .i64 0, .int .i64 0, .int .i64 0, .int .i64 0, .int .i64 0, .int .i64 0, .int .i64 0, .int .i64 0], .int .i64 9]) (by simp [results, Tryd.results37, go_sem, *]) rfl ⟨rfl, ?_⟩))
  all_goals (repeat first | with_reducible exact Below.refl _ _ | with_reducible refine below_set2 ?_ hge _ _ | with_reducible refine below_alloc2 ?_ _)
set_option maxHeartbeats 1000000 in
theorem docsib_yn (blk off m c a : Nat) (i x q mod l b s f : Int) (xs : List Int) (hi : 0 ≤ i ∧ i ≤ 7) (hx : 0 ≤ x ∧ x ≤ 1) (hq : 0 ≤ q ∧ q ≤ 3) (_hl : 0 ≤ l ∧ l ≤ 7) (hb : 0 ≤ b ∧ b ≤ 1) (hj : ¬ i + 8 * x = 4) (hm : ¬ mod = 0) (hs0 : 0 ≤ s ∧ s < 256) (hs : s / 64 = q ∧ s / 8 % 8 = i ∧ s % 8 = l) (w : World) (hcs : w.cell? ⟨blk, off + a, none⟩ = some (.int .u8 s)) (hml : xs.length = m) (hmc : m ≤ c) (ha : a ≤ 100000) (ham : a < m) (hM : Mem w w.heap.size (some ⟨blk, off, none⟩) xs) :
    Calls Tryd.prog 37 #[.slice (some ⟨blk, off, none⟩) m c, .int .i64 a, .int .i64 mod, .int .i64 f, .int .i64 x, .int .i64 b] w fun e w' => e = .returned (RV (docD xs (a + 1) (widthF mod) f ⟨5, l + 8 * b, 5, i + 8 * x, 2 ^ q.toNat, 0, 0⟩)) ∧ Below w.heap.size w w' := by
  obtain ⟨hs1, hs2, hs3⟩ := hs
  have am : ¬ a = m := by omega
  have am2 : (a : Int) < m := by omega
  have wq := wrap_pow3 hq
  have hcA := fun o => box_alloc hcs o
  have HO := hid ((Own.nil w).alloc w.heap.size #[.int .i64 0, .int .i64 0, .int .i64 0, .int .i64 0, .int .i64 0, .int .i64 0, .int .i64 0, .int .i64 0, .int .i64 0, .int .i64 0] 41 rfl)
  have HO2 := hid (HO.out.alloc (w.heap.size + 1) #[.int .i64 0, .int .i64 0, .int .i64 0, .int .i64 0, .int .i64 0, .int .i64 0, .int .i64 0] 25 (by simp))
  have HMM := hid hM
  clear hM
  obtain ⟨⟨er, ⟨yf, yr, ⟨y0, y1, y2, y3, y4, y5, y6⟩, yn⟩, k⟩, hR⟩ : ∃ R, docD xs (a + 1) (widthF mod) f ⟨5, l + 8 * b, 5, i + 8 * x, 2 ^ q.toNat, 0, 0⟩ = R := ⟨_, rfl⟩
  rw [hR]
  have HR := hid hR
  clear hR
  go_enter Tryd.func37, Tryd.ntmps37
  have HM := HO2
  go_wp2_with fail
  refine (rbig_any (i + 8 * x) _).mono ?_
  rintro e w3 ⟨rfl, hb3⟩
  have HM := hid (HM.out.call hb3)
  clear hb3
  have c0 := HM.out.tl.c
  have z0 := HM.out.tl.z
  have f0 := HM.out.tl.f
  have c1 := HM.out.c
  have z1 := HM.out.z
  have f1 := HM.out.f
  go_wp2_with fail
  have HM := hid (((HM.out.set 2 (.int .i64 5)).set 3 (.int .i64 (i + 8 * x))).set 4 (.int .i64 (2 ^ q.toNat)))
  clear c0 z0 f0 c1 z1 f1
  generalize ((w3.setCell ⟨w.heap.size + 1, 2, none⟩ (.int .i64 5)).setCell ⟨w.heap.size + 1, 3, none⟩ (.int .i64 (i + 8 * x))).setCell ⟨w.heap.size + 1, 4, none⟩ (.int .i64 (2 ^ q.toNat)) = wm at *
  have c0 := HM.out.tl.c
  have z0 := HM.out.tl.z
  have f0 := HM.out.tl.f
  have c1 := HM.out.c
  have z1 := HM.out.z
  have f1 := HM.out.f
  refine (rbig_any (l + 8 * b) _).mono ?_
  rintro e w5 ⟨rfl, hb5⟩
  have HM := hid (HM.out.call hb5)
  clear hb5
  clear c0 z0 f0 c1 z1 f1
  have c0 := HM.out.tl.c
  have z0 := HM.out.tl.z
  have f0 := HM.out.tl.f
  have c1 := HM.out.c
  have z1 := HM.out.z
  have f1 := HM.out.f
  go_wp2_with fail
  have HM := hid ((HM.out.set 0 (.int .i64 5)).set 1 (.int .i64 (l + 8 * b)))
  clear c0 z0 f0 c1 z1 f1
  generalize (w5.setCell ⟨w.heap.size + 1, 0, none⟩ (.int .i64 5)).setCell ⟨w.heap.size + 1, 1, none⟩ (.int .i64 (l + 8 * b)) = W at *
  have c0 := HM.out.tl.c
  have z0 := HM.out.tl.z
  have f0 := HM.out.tl.f
  have c1 := HM.out.c
  have z1 := HM.out.z
  have f1 := HM.out.f
  have HMW := hid ((HMM.out.below HM.out.below).mono HM.out.below.size)
  have hne : w.heap.size + 1 ≠ w.heap.size := by omega
  have hS := olde_refl W w.heap.size
  go_region_held3 (fun w' => W.heap.size ≤ w'.heap.size ∧ ∀ b o, b < W.heap.size → b ≠ w.heap.size → w'.cell? ⟨b, o, none⟩ = W.cell? ⟨b, o, none⟩) (first | with_reducible assumption | (with_reducible refine olde_call ?_ (by assumption); with_reducible assumption) | ((repeat with_reducible refine olde_set ?_); with_reducible assumption)) (first | (go_at_call 39; (with_reducible refine (rwidth_any _ _).mono ?_); rintro e w8 ⟨rfl, rfl⟩) | (go_at_call 38; (refine (rdisp_of HR.out (wrap_one ha) rfl hml hmc (Nat.le_trans (Nat.succ_le_succ ha) (by decide)) ham (width_n mod) _ (by exact HMW.out)).mono ?_); rintro e w9 ⟨rfl, hbel⟩; obtain ⟨hx9, hy9, hz9⟩ := bel_cells' hbel w.heap.size (by first | assumption | (simp; done)); have HB9 := hid (HM.out.below.trans (((Below.refl _ _).drew.trans hbel).mono HM.out.below.size))))
  have hge : w.heap.size ≤ w.heap.size := Nat.le_refl _
  have hge2 : w.heap.size ≤ w.heap.size + 1 := by omega
  go_wp2_with (with_reducible change bodyPost _ _ _ Exit.ret _ _; go_loud (refine bodyPost_ret (v := .tuple #[.agg #[.int .i64 yf, .int .i64 yr, .int .i64 y0, .int .i64 y1, .int .i64 y2, .int .i64 y3, .int .i64 y4, .int .i64 y5, .int .i64 y6, .int .i64 k], .int .i64 er]) (by simp [results, Tryd.results37, go_sem, *]) rfl ⟨rfl, ?_⟩))
  all_goals (repeat first | with_reducible exact HM.out.below | with_reducible exact HB9.out | with_reducible exact Below.refl _ _ | with_reducible refine below_set2 ?_ hge _ _ | with_reducible refine below_set2 ?_ hge2 _ _ | with_reducible refine below_alloc2 ?_ _)
set_option maxHeartbeats 1000000 in
theorem docsib_yl (blk off m c a : Nat) (i x q l b s f : Int) (xs : List Int) (hi : 0 ≤ i ∧ i ≤ 7) (hx : 0 ≤ x ∧ x ≤ 1) (hq : 0 ≤ q ∧ q ≤ 3) (_hl : 0 ≤ l ∧ l ≤ 7) (hb : 0 ≤ b ∧ b ≤ 1) (hj : ¬ i + 8 * x = 4) (h5 : ¬ l = 5) (hs0 : 0 ≤ s ∧ s < 256) (hs : s / 64 = q ∧ s / 8 % 8 = i ∧ s % 8 = l) (w : World) (hcs : w.cell? ⟨blk, off + a, none⟩ = some (.int .u8 s)) (hml : xs.length = m) (hmc : m ≤ c) (ha : a ≤ 100000) (ham : a < m) (hM : Mem w w.heap.size (some ⟨blk, off, none⟩) xs) :
    Calls Tryd.prog 37 #[.slice (some ⟨blk, off, none⟩) m c, .int .i64 a, .int .i64 0, .int .i64 f, .int .i64 x, .int .i64 b] w fun e w' => e = .returned (RV (docD xs (a + 1) (0) f ⟨5, l + 8 * b, 5, i + 8 * x, 2 ^ q.toNat, 0, 0⟩)) ∧ Below w.heap.size w w' := by
  obtain ⟨hs1, hs2, hs3⟩ := hs
  have am : ¬ a = m := by omega
  have am2 : (a : Int) < m := by omega
  have wq := wrap_pow3 hq
  have hcA := fun o => box_alloc hcs o
  have HO := hid ((Own.nil w).alloc w.heap.size #[.int .i64 0, .int .i64 0, .int .i64 0, .int .i64 0, .int .i64 0, .int .i64 0, .int .i64 0, .int .i64 0, .int .i64 0, .int .i64 0] 41 rfl)
  have HO2 := hid (HO.out.alloc (w.heap.size + 1) #[.int .i64 0, .int .i64 0, .int .i64 0, .int .i64 0, .int .i64 0, .int .i64 0, .int .i64 0] 25 (by simp))
  have HMM := hid hM
  clear hM
  obtain ⟨⟨er, ⟨yf, yr, ⟨y0, y1, y2, y3, y4, y5, y6⟩, yn⟩, k⟩, hR⟩ : ∃ R, docD xs (a + 1) (0) f ⟨5, l + 8 * b, 5, i + 8 * x, 2 ^ q.toNat, 0, 0⟩ = R := ⟨_, rfl⟩
  rw [hR]
  have HR := hid hR
  clear hR
  go_enter Tryd.func37, Tryd.ntmps37
  have HM := HO2
  go_wp2_with fail
  refine (rbig_any (i + 8 * x) _).mono ?_
  rintro e w3 ⟨rfl, hb3⟩
  have HM := hid (HM.out.call hb3)
  clear hb3
  have c0 := HM.out.tl.c
  have z0 := HM.out.tl.z
  have f0 := HM.out.tl.f
  have c1 := HM.out.c
  have z1 := HM.out.z
  have f1 := HM.out.f
  go_wp2_with fail
  have HM := hid (((HM.out.set 2 (.int .i64 5)).set 3 (.int .i64 (i + 8 * x))).set 4 (.int .i64 (2 ^ q.toNat)))
  clear c0 z0 f0 c1 z1 f1
  generalize ((w3.setCell ⟨w.heap.size + 1, 2, none⟩ (.int .i64 5)).setCell ⟨w.heap.size + 1, 3, none⟩ (.int .i64 (i + 8 * x))).setCell ⟨w.heap.size + 1, 4, none⟩ (.int .i64 (2 ^ q.toNat)) = wm at *
  have c0 := HM.out.tl.c
  have z0 := HM.out.tl.z
  have f0 := HM.out.tl.f
  have c1 := HM.out.c
  have z1 := HM.out.z
  have f1 := HM.out.f
  refine (rbig_any (l + 8 * b) _).mono ?_
  rintro e w5 ⟨rfl, hb5⟩
  have HM := hid (HM.out.call hb5)
  clear hb5
  clear c0 z0 f0 c1 z1 f1
  have c0 := HM.out.tl.c
  have z0 := HM.out.tl.z
  have f0 := HM.out.tl.f
  have c1 := HM.out.c
  have z1 := HM.out.z
  have f1 := HM.out.f
  go_wp2_with fail
  have HM := hid ((HM.out.set 0 (.int .i64 5)).set 1 (.int .i64 (l + 8 * b)))
  clear c0 z0 f0 c1 z1 f1
  generalize (w5.setCell ⟨w.heap.size + 1, 0, none⟩ (.int .i64 5)).setCell ⟨w.heap.size + 1, 1, none⟩ (.int .i64 (l + 8 * b)) = W at *
  have c0 := HM.out.tl.c
  have z0 := HM.out.tl.z
  have f0 := HM.out.tl.f
  have c1 := HM.out.c
  have z1 := HM.out.z
  have f1 := HM.out.f
  have HMW := hid ((HMM.out.below HM.out.below).mono HM.out.below.size)
  have hne : w.heap.size + 1 ≠ w.heap.size := by omega
  have hS := olde_refl W w.heap.size
  go_region_held3 (fun w' => W.heap.size ≤ w'.heap.size ∧ ∀ b o, b < W.heap.size → b ≠ w.heap.size → w'.cell? ⟨b, o, none⟩ = W.cell? ⟨b, o, none⟩) (first | with_reducible assumption | (with_reducible refine olde_call ?_ (by assumption); with_reducible assumption) | ((repeat with_reducible refine olde_set ?_); with_reducible assumption)) (first | (go_at_call 39; (with_reducible refine (rwidth_any _ _).mono ?_); rintro e w8 ⟨rfl, rfl⟩) | (go_at_call 38; (refine (rdisp_of HR.out (wrap_one ha) rfl hml hmc (Nat.le_trans (Nat.succ_le_succ ha) (by decide)) ham (.inl rfl) _ (by exact HMW.out)).mono ?_); rintro e w9 ⟨rfl, hbel⟩; obtain ⟨hx9, hy9, hz9⟩ := bel_cells' hbel w.heap.size (by first | assumption | (simp; done)); have HB9 := hid (HM.out.below.trans (((Below.refl _ _).drew.trans hbel).mono HM.out.below.size))))
  have hge : w.heap.size ≤ w.heap.size := Nat.le_refl _
  have hge2 : w.heap.size ≤ w.heap.size + 1 := by omega
  go_wp2_with (with_reducible change bodyPost _ _ _ Exit.ret _ _; go_loud (refine bodyPost_ret (v := .tuple #[.agg #[.int .i64 yf, .int .i64 yr, .int .i64 y0, .int .i64 y1, .int .i64 y2, .int .i64 y3, .int .i64 y4, .int .i64 y5, .int .i64 y6, .int .i64 k], .int .i64 er]) (by simp [results, Tryd.results37, go_sem, *]) rfl ⟨rfl, ?_⟩))
  all_goals (repeat first | with_reducible exact HM.out.below | with_reducible exact HB9.out | with_reducible exact Below.refl _ _ | with_reducible refine below_set2 ?_ hge _ _ | with_reducible refine below_set2 ?_ hge2 _ _ | with_reducible refine below_alloc2 ?_ _)
set_option maxHeartbeats 1000000 in
theorem docsib_y0 (blk off m c a : Nat) (i x q s f : Int) (xs : List Int) (hi : 0 ≤ i ∧ i ≤ 7) (hx : 0 ≤ x ∧ x ≤ 1) (hq : 0 ≤ q ∧ q ≤ 3) (hj : ¬ i + 8 * x = 4) (hs0 : 0 ≤ s ∧ s < 256) (hs : s / 64 = q ∧ s / 8 % 8 = i ∧ s % 8 = 5) (w : World) (hcs : w.cell? ⟨blk, off + a, none⟩ = some (.int .u8 s)) (hml : xs.length = m) (hmc : m ≤ c) (ha : a ≤ 100000) (ham : a < m) (hM : Mem w w.heap.size (some ⟨blk, off, none⟩) xs) :
    Calls Tryd.prog 37 #[.slice (some ⟨blk, off, none⟩) m c, .int .i64 a, .int .i64 0, .int .i64 f, .int .i64 x, .int .i64 0] w fun e w' => e = .returned (RV (docD xs (a + 1) (4) f ⟨0, 0, 5, i + 8 * x, 2 ^ q.toNat, 0, 0⟩)) ∧ Below w.heap.size w w' := by
  obtain ⟨hs1, hs2, hs3⟩ := hs
  have am : ¬ a = m := by omega
  have am2 : (a : Int) < m := by omega
  have wq := wrap_pow3 hq
  have hcA := fun o => box_alloc hcs o
  have HO := hid ((Own.nil w).alloc w.heap.size #[.int .i64 0, .int .i64 0, .int .i64 0, .int .i64 0, .int .i64 0, .int .i64 0, .int .i64 0, .int .i64 0, .int .i64 0, .int .i64 0] 41 rfl)
  have HO2 := hid (HO.out.alloc (w.heap.size + 1) #[.int .i64 0, .int .i64 0, .int .i64 0, .int .i64 0, .int .i64 0, .int .i64 0, .int .i64 0] 25 (by simp))
  have HMM := hid hM
  clear hM
  obtain ⟨⟨er, ⟨yf, yr, ⟨y0, y1, y2, y3, y4, y5, y6⟩, yn⟩, k⟩, hR⟩ : ∃ R, docD xs (a + 1) (4) f ⟨0, 0, 5, i + 8 * x, 2 ^ q.toNat, 0, 0⟩ = R := ⟨_, rfl⟩
  rw [hR]
  have HR := hid hR
  clear hR
  go_enter Tryd.func37, Tryd.ntmps37
  have HM := HO2
  go_wp2_with fail
  refine (rbig_any (i + 8 * x) _).mono ?_
  rintro e w3 ⟨rfl, hb3⟩
  have HM := hid (HM.out.call hb3)
  clear hb3
  have c0 := HM.out.tl.c
  have z0 := HM.out.tl.z
  have f0 := HM.out.tl.f
  have c1 := HM.out.c
  have z1 := HM.out.z
  have f1 := HM.out.f
  go_wp2_with fail
  have HM := hid (((HM.out.set 2 (.int .i64 5)).set 3 (.int .i64 (i + 8 * x))).set 4 (.int .i64 (2 ^ q.toNat)))
  clear c0 z0 f0 c1 z1 f1
  generalize ((w3.setCell ⟨w.heap.size + 1, 2, none⟩ (.int .i64 5)).setCell ⟨w.heap.size + 1, 3, none⟩ (.int .i64 (i + 8 * x))).setCell ⟨w.heap.size + 1, 4, none⟩ (.int .i64 (2 ^ q.toNat)) = wm at *
  have c0 := HM.out.tl.c
  have z0 := HM.out.tl.z
  have f0 := HM.out.tl.f
  have c1 := HM.out.c
  have z1 := HM.out.z
  have f1 := HM.out.f
  refine (rdisp_of HR.out (cast_one a) rfl hml hmc (by omega) (by omega) (by omega) _ ((HMM.out.below HM.out.below).mono HM.out.below.size)).mono ?_
  rintro e w9 ⟨rfl, hb9⟩
  have HM := hid (HM.out.call hb9)
  have HB9 := HM
  clear hb9 HB9
  clear c0 z0 f0 c1 z1 f1
  have c0 := HM.out.tl.c
  have z0 := HM.out.tl.z
  have f0 := HM.out.tl.f
  have c1 := HM.out.c
  have z1 := HM.out.z
  have f1 := HM.out.f
  have hge : w.heap.size ≤ w.heap.size := Nat.le_refl _
  have hge2 : w.heap.size ≤ w.heap.size + 1 := by omega
  go_wp2_with (with_reducible change bodyPost _ _ _ Exit.ret _ _; go_loud (refine bodyPost_ret (v := .tuple #[.agg #[.int .i64 yf, .int .i64 yr, .int .i64 y0, .int .i64 y1, .int .i64 y2, .int .i64 y3, .int .i64 y4, .int .i64 y5, .int .i64 y6, .int .i64 k], .int .i64 er]) (by simp [results, Tryd.results37, go_sem, *]) rfl ⟨rfl, ?_⟩))
  all_goals (repeat first | with_reducible exact HM.out.below | with_reducible exact Below.refl _ _ | with_reducible refine below_set2 ?_ hge _ _ | with_reducible refine below_set2 ?_ hge2 _ _ | with_reducible refine below_alloc2 ?_ _)
set_option maxHeartbeats 1000000 in
theorem docsib_y1 (blk off m c a : Nat) (i x q s f : Int) (hi : 0 ≤ i ∧ i ≤ 7) (hx : 0 ≤ x ∧ x ≤ 1) (hq : 0 ≤ q ∧ q ≤ 3) (hj : ¬ i + 8 * x = 4) (hs0 : 0 ≤ s ∧ s < 256) (hs : s / 64 = q ∧ s / 8 % 8 = i ∧ s % 8 = 5) (w : World) (hcs : w.cell? ⟨blk, off + a, none⟩ = some (.int .u8 s)) (ham : a < m) :
    Calls Tryd.prog 37 #[.slice (some ⟨blk, off, none⟩) m c, .int .i64 a, .int .i64 0, .int .i64 f, .int .i64 x, .int .i64 1] w fun e w' => e = .returned (.tuple #[.agg #[.int .i64 0, .int .i64 0, .int .i64 0, .int .i64 0, .int .i64 0, .int .i64 0, .int .i64 0, .int .i64 0, .int .i64 0, .int .i64 0], .int .i64 4]) ∧ Below w.heap.size w w' := by
  obtain ⟨hs1, hs2, hs3⟩ := hs
  have am : ¬ a = m := by omega
  have am2 : (a : Int) < m := by omega
  have wq := wrap_pow3 hq
  have hcA := fun o => box_alloc hcs o
  have HO := hid ((Own.nil w).alloc w.heap.size #[.int .i64 0, .int .i64 0, .int .i64 0, .int .i64 0, .int .i64 0, .int .i64 0, .int .i64 0, .int .i64 0, .int .i64 0, .int .i64 0] 41 rfl)
  have HO2 := hid (HO.out.alloc (w.heap.size + 1) #[.int .i64 0, .int .i64 0, .int .i64 0, .int .i64 0, .int .i64 0, .int .i64 0, .int .i64 0] 25 (by simp))
  go_enter Tryd.func37, Tryd.ntmps37
  have HM := HO2
  go_wp2_with fail
  refine (rbig_any (i + 8 * x) _).mono ?_
  rintro e w3 ⟨rfl, hb3⟩
  have HM := hid (HM.out.call hb3)
  clear hb3
  have c0 := HM.out.tl.c
  have z0 := HM.out.tl.z
  have f0 := HM.out.tl.f
  have c1 := HM.out.c
  have z1 := HM.out.z
  have f1 := HM.out.f
  have hge : w.heap.size ≤ w.heap.size := Nat.le_refl _
  have hge2 : w.heap.size ≤ w.heap.size + 1 := by omega
  go_wp2_with (with_reducible change bodyPost _ _ _ Exit.ret _ _; go_loud (refine bodyPost_ret (v := .tuple #[.agg #[.int .i64 0, .int .i64 0, .int .i64 0, .int .i64 0, .int .i64 0, .int .i64 0, .int .i64 0, .int .i64 0, .int .i64 0, .int .i64 0], .int .i64 4]) (by simp [results, Tryd.results37, go_sem, *]) rfl ⟨rfl, ?_⟩))
  all_goals (repeat first | with_reducible exact HM.out.below | with_reducible exact Below.refl _ _ | with_reducible refine below_set2 ?_ hge _ _ | with_reducible refine below_set2 ?_ hge2 _ _ | with_reducible refine below_alloc2 ?_ _)
set_option maxHeartbeats 1000000 in
theorem docsib_nn (blk off m c a : Nat) (mod l b s f : Int) (xs : List Int) (_hl : 0 ≤ l ∧ l ≤ 7) (hb : 0 ≤ b ∧ b ≤ 1) (hm : ¬ mod = 0) (hs0 : 0 ≤ s ∧ s < 256) (hs : s / 64 = 0 ∧ s / 8 % 8 = 4 ∧ s % 8 = l) (w : World) (hcs : w.cell? ⟨blk, off + a, none⟩ = some (.int .u8 s)) (hml : xs.length = m) (hmc : m ≤ c) (ha : a ≤ 100000) (ham : a < m) (hM : Mem w w.heap.size (some ⟨blk, off, none⟩) xs) :
    Calls Tryd.prog 37 #[.slice (some ⟨blk, off, none⟩) m c, .int .i64 a, .int .i64 mod, .int .i64 f, .int .i64 0, .int .i64 b] w fun e w' => e = .returned (RV (docD xs (a + 1) (widthF mod) f ⟨5, l + 8 * b, 0, 0, 0, 0, 0⟩)) ∧ Below w.heap.size w w' := by
  obtain ⟨hs1, hs2, hs3⟩ := hs
  have am : ¬ a = m := by omega
  have am2 : (a : Int) < m := by omega
  have hcA := fun o => box_alloc hcs o
  have HO := hid ((Own.nil w).alloc w.heap.size #[.int .i64 0, .int .i64 0, .int .i64 0, .int .i64 0, .int .i64 0, .int .i64 0, .int .i64 0, .int .i64 0, .int .i64 0, .int .i64 0] 41 rfl)
  have HO2 := hid (HO.out.alloc (w.heap.size + 1) #[.int .i64 0, .int .i64 0, .int .i64 0, .int .i64 0, .int .i64 0, .int .i64 0, .int .i64 0] 25 (by simp))
  have HMM := hid hM
  clear hM
  obtain ⟨⟨er, ⟨yf, yr, ⟨y0, y1, y2, y3, y4, y5, y6⟩, yn⟩, k⟩, hR⟩ : ∃ R, docD xs (a + 1) (widthF mod) f ⟨5, l + 8 * b, 0, 0, 0, 0, 0⟩ = R := ⟨_, rfl⟩
  rw [hR]
  have HR := hid hR
  clear hR
  go_enter Tryd.func37, Tryd.ntmps37
  have HM := HO2
  go_wp2_with fail
  generalize (w.alloc (.cells #[.int .i64 0, .int .i64 0, .int .i64 0, .int .i64 0, .int .i64 0, .int .i64 0, .int .i64 0, .int .i64 0, .int .i64 0, .int .i64 0] 41)).alloc (.cells #[.int .i64 0, .int .i64 0, .int .i64 0, .int .i64 0, .int .i64 0, .int .i64 0, .int .i64 0] 25) = wm at *
  have c0 := HM.out.tl.c
  have z0 := HM.out.tl.z
  have f0 := HM.out.tl.f
  have c1 := HM.out.c
  have z1 := HM.out.z
  have f1 := HM.out.f
  refine (rbig_any (l + 8 * b) _).mono ?_
  rintro e w5 ⟨rfl, hb5⟩
  have HM := hid (HM.out.call hb5)
  clear hb5
  clear c0 z0 f0 c1 z1 f1
  have c0 := HM.out.tl.c
  have z0 := HM.out.tl.z
  have f0 := HM.out.tl.f
  have c1 := HM.out.c
  have z1 := HM.out.z
  have f1 := HM.out.f
  go_wp2_with fail
  have HM := hid ((HM.out.set 0 (.int .i64 5)).set 1 (.int .i64 (l + 8 * b)))
  clear c0 z0 f0 c1 z1 f1
  generalize (w5.setCell ⟨w.heap.size + 1, 0, none⟩ (.int .i64 5)).setCell ⟨w.heap.size + 1, 1, none⟩ (.int .i64 (l + 8 * b)) = W at *
  have c0 := HM.out.tl.c
  have z0 := HM.out.tl.z
  have f0 := HM.out.tl.f
  have c1 := HM.out.c
  have z1 := HM.out.z
  have f1 := HM.out.f
  have HMW := hid ((HMM.out.below HM.out.below).mono HM.out.below.size)
  have hne : w.heap.size + 1 ≠ w.heap.size := by omega
  have hS := olde_refl W w.heap.size
  go_region_held3 (fun w' => W.heap.size ≤ w'.heap.size ∧ ∀ b o, b < W.heap.size → b ≠ w.heap.size → w'.cell? ⟨b, o, none⟩ = W.cell? ⟨b, o, none⟩) (first | with_reducible assumption | (with_reducible refine olde_call ?_ (by assumption); with_reducible assumption) | ((repeat with_reducible refine olde_set ?_); with_reducible assumption)) (first | (go_at_call 39; (with_reducible refine (rwidth_any _ _).mono ?_); rintro e w8 ⟨rfl, rfl⟩) | (go_at_call 38; (refine (rdisp_of HR.out (wrap_one ha) rfl hml hmc (Nat.le_trans (Nat.succ_le_succ ha) (by decide)) ham (width_n mod) _ (by exact HMW.out)).mono ?_); rintro e w9 ⟨rfl, hbel⟩; obtain ⟨hx9, hy9, hz9⟩ := bel_cells' hbel w.heap.size (by first | assumption | (simp; done)); have HB9 := hid (HM.out.below.trans (((Below.refl _ _).drew.trans hbel).mono HM.out.below.size))))
  have hge : w.heap.size ≤ w.heap.size := Nat.le_refl _
  have hge2 : w.heap.size ≤ w.heap.size + 1 := by omega
  go_wp2_with (with_reducible change bodyPost _ _ _ Exit.ret _ _; go_loud (refine bodyPost_ret (v := .tuple #[.agg #[.int .i64 yf, .int .i64 yr, .int .i64 y0, .int .i64 y1, .int .i64 y2, .int .i64 y3, .int .i64 y4, .int .i64 y5, .int .i64 y6, .int .i64 k], .int .i64 er]) (by simp [results, Tryd.results37, go_sem, *]) rfl ⟨rfl, ?_⟩))
  all_goals (repeat first | with_reducible exact HM.out.below | with_reducible exact HB9.out | with_reducible exact Below.refl _ _ | with_reducible refine below_set2 ?_ hge _ _ | with_reducible refine below_set2 ?_ hge2 _ _ | with_reducible refine below_alloc2 ?_ _)
set_option maxHeartbeats 1000000 in
theorem docsib_nl (blk off m c a : Nat) (l b s f : Int) (xs : List Int) (_hl : 0 ≤ l ∧ l ≤ 7) (hb : 0 ≤ b ∧ b ≤ 1) (h5 : ¬ l = 5) (hs0 : 0 ≤ s ∧ s < 256) (hs : s / 64 = 0 ∧ s / 8 % 8 = 4 ∧ s % 8 = l) (w : World) (hcs : w.cell? ⟨blk, off + a, none⟩ = some (.int .u8 s)) (hml : xs.length = m) (hmc : m ≤ c) (ha : a ≤ 100000) (ham : a < m) (hM : Mem w w.heap.size (some ⟨blk, off, none⟩) xs) :
    Calls Tryd.prog 37 #[.slice (some ⟨blk, off, none⟩) m c, .int .i64 a, .int .i64 0, .int .i64 f, .int .i64 0, .int .i64 b] w fun e w' => e = .returned (RV (docD xs (a + 1) (0) f ⟨5, l + 8 * b, 0, 0, 0, 0, 0⟩)) ∧ Below w.heap.size w w' := by
  obtain ⟨hs1, hs2, hs3⟩ := hs
  have am : ¬ a = m := by omega
  have am2 : (a : Int) < m := by omega
  have hcA := fun o => box_alloc hcs o
  have HO := hid ((Own.nil w).alloc w.heap.size #[.int .i64 0, .int .i64 0, .int .i64 0, .int .i64 0, .int .i64 0, .int .i64 0, .int .i64 0, .int .i64 0, .int .i64 0, .int .i64 0] 41 rfl)
  have HO2 := hid (HO.out.alloc (w.heap.size + 1) #[.int .i64 0, .int .i64 0, .int .i64 0, .int .i64 0, .int .i64 0, .int .i64 0, .int .i64 0] 25 (by simp))
  have HMM := hid hM
  clear hM
  obtain ⟨⟨er, ⟨yf, yr, ⟨y0, y1, y2, y3, y4, y5, y6⟩, yn⟩, k⟩, hR⟩ : ∃ R, docD xs (a + 1) (0) f ⟨5, l + 8 * b, 0, 0, 0, 0, 0⟩ = R := ⟨_, rfl⟩
  rw [hR]
  have HR := hid hR
  clear hR
  go_enter Tryd.func37, Tryd.ntmps37
  have HM := HO2
  go_wp2_with fail
  generalize (w.alloc (.cells #[.int .i64 0, .int .i64 0, .int .i64 0, .int .i64 0, .int .i64 0, .int .i64 0, .int .i64 0, .int .i64 0, .int .i64 0, .int .i64 0] 41)).alloc (.cells #[.int .i64 0, .int .i64 0, .int .i64 0, .int .i64 0, .int .i64 0, .int .i64 0, .int .i64 0] 25) = wm at *
  have c0 := HM.out.tl.c
  have z0 := HM.out.tl.z
  have f0 := HM.out.tl.f
  have c1 := HM.out.c
  have z1 := HM.out.z
  have f1 := HM.out.f
  refine (rbig_any (l + 8 * b) _).mono ?_
  rintro e w5 ⟨rfl, hb5⟩
  have HM := hid (HM.out.call hb5)
  clear hb5
  clear c0 z0 f0 c1 z1 f1
  have c0 := HM.out.tl.c
  have z0 := HM.out.tl.z
  have f0 := HM.out.tl.f
  have c1 := HM.out.c
  have z1 := HM.out.z
  have f1 := HM.out.f
  go_wp2_with fail
  have HM := hid ((HM.out.set 0 (.int .i64 5)).set 1 (.int .i64 (l + 8 * b)))
  clear c0 z0 f0 c1 z1 f1
  generalize (w5.setCell ⟨w.heap.size + 1, 0, none⟩ (.int .i64 5)).setCell ⟨w.heap.size + 1, 1, none⟩ (.int .i64 (l + 8 * b)) = W at *
  have c0 := HM.out.tl.c
  have z0 := HM.out.tl.z
  have f0 := HM.out.tl.f
  have c1 := HM.out.c
  have z1 := HM.out.z
  have f1 := HM.out.f
  have HMW := hid ((HMM.out.below HM.out.below).mono HM.out.below.size)
  have hne : w.heap.size + 1 ≠ w.heap.size := by omega
  have hS := olde_refl W w.heap.size
  go_region_held3 (fun w' => W.heap.size ≤ w'.heap.size ∧ ∀ b o, b < W.heap.size → b ≠ w.heap.size → w'.cell? ⟨b, o, none⟩ = W.cell? ⟨b, o, none⟩) (first | with_reducible assumption | (with_reducible refine olde_call ?_ (by assumption); with_reducible assumption) | ((repeat with_reducible refine olde_set ?_); with_reducible assumption)) (first | (go_at_call 39; (with_reducible refine (rwidth_any _ _).mono ?_); rintro e w8 ⟨rfl, rfl⟩) | (go_at_call 38; (refine (rdisp_of HR.out (wrap_one ha) rfl hml hmc (Nat.le_trans (Nat.succ_le_succ ha) (by decide)) ham (.inl rfl) _ (by exact HMW.out)).mono ?_); rintro e w9 ⟨rfl, hbel⟩; obtain ⟨hx9, hy9, hz9⟩ := bel_cells' hbel w.heap.size (by first | assumption | (simp; done)); have HB9 := hid (HM.out.below.trans (((Below.refl _ _).drew.trans hbel).mono HM.out.below.size))))
  have hge : w.heap.size ≤ w.heap.size := Nat.le_refl _
  have hge2 : w.heap.size ≤ w.heap.size + 1 := by omega
  go_wp2_with (with_reducible change bodyPost _ _ _ Exit.ret _ _; go_loud (refine bodyPost_ret (v := .tuple #[.agg #[.int .i64 yf, .int .i64 yr, .int .i64 y0, .int .i64 y1, .int .i64 y2, .int .i64 y3, .int .i64 y4, .int .i64 y5, .int .i64 y6, .int .i64 k], .int .i64 er]) (by simp [results, Tryd.results37, go_sem, *]) rfl ⟨rfl, ?_⟩))
  all_goals (repeat first | with_reducible exact HM.out.below | with_reducible exact HB9.out | with_reducible exact Below.refl _ _ | with_reducible refine below_set2 ?_ hge _ _ | with_reducible refine below_set2 ?_ hge2 _ _ | with_reducible refine below_alloc2 ?_ _)
set_option maxHeartbeats 1000000 in
theorem docsib_n0 (blk off m c a : Nat) (s f : Int) (xs : List Int)  (_hs0 : 0 ≤ s ∧ s < 256) (hs : s / 64 = 0 ∧ s / 8 % 8 = 4 ∧ s % 8 = 5) (w : World) (hcs : w.cell? ⟨blk, off + a, none⟩ = some (.int .u8 s)) (hml : xs.length = m) (hmc : m ≤ c) (ha : a ≤ 100000) (ham : a < m) (hM : Mem w w.heap.size (some ⟨blk, off, none⟩) xs) :
    Calls Tryd.prog 37 #[.slice (some ⟨blk, off, none⟩) m c, .int .i64 a, .int .i64 0, .int .i64 f, .int .i64 0, .int .i64 0] w fun e w' => e = .returned (RV (docD xs (a + 1) (4) f ⟨0, 0, 0, 0, 0, 0, 0⟩)) ∧ Below w.heap.size w w' := by
  obtain ⟨hs1, hs2, hs3⟩ := hs
  have am : ¬ a = m := by omega
  have am2 : (a : Int) < m := by omega
  have hcA := fun o => box_alloc hcs o
  have HO := hid ((Own.nil w).alloc w.heap.size #[.int .i64 0, .int .i64 0, .int .i64 0, .int .i64 0, .int .i64 0, .int .i64 0, .int .i64 0, .int .i64 0, .int .i64 0, .int .i64 0] 41 rfl)
  have HO2 := hid (HO.out.alloc (w.heap.size + 1) #[.int .i64 0, .int .i64 0, .int .i64 0, .int .i64 0, .int .i64 0, .int .i64 0, .int .i64 0] 25 (by simp))
  have HMM := hid hM
  clear hM
  obtain ⟨⟨er, ⟨yf, yr, ⟨y0, y1, y2, y3, y4, y5, y6⟩, yn⟩, k⟩, hR⟩ : ∃ R, docD xs (a + 1) (4) f ⟨0, 0, 0, 0, 0, 0, 0⟩ = R := ⟨_, rfl⟩
  rw [hR]
  have HR := hid hR
  clear hR
  go_enter Tryd.func37, Tryd.ntmps37
  have HM := HO2
  go_wp2_with fail
  generalize (w.alloc (.cells #[.int .i64 0, .int .i64 0, .int .i64 0, .int .i64 0, .int .i64 0, .int .i64 0, .int .i64 0, .int .i64 0, .int .i64 0, .int .i64 0] 41)).alloc (.cells #[.int .i64 0, .int .i64 0, .int .i64 0, .int .i64 0, .int .i64 0, .int .i64 0, .int .i64 0] 25) = wm at *
  have c0 := HM.out.tl.c
  have z0 := HM.out.tl.z
  have f0 := HM.out.tl.f
  have c1 := HM.out.c
  have z1 := HM.out.z
  have f1 := HM.out.f
  refine (rdisp_of HR.out (cast_one a) rfl hml hmc (by omega) (by omega) (by omega) _ ((HMM.out.below HM.out.below).mono HM.out.below.size)).mono ?_
  rintro e w9 ⟨rfl, hb9⟩
  have HM := hid (HM.out.call hb9)
  have HB9 := HM
  clear hb9 HB9
  clear c0 z0 f0 c1 z1 f1
  have c0 := HM.out.tl.c
  have z0 := HM.out.tl.z
  have f0 := HM.out.tl.f
  have c1 := HM.out.c
  have z1 := HM.out.z
  have f1 := HM.out.f
  have hge : w.heap.size ≤ w.heap.size := Nat.le_refl _
  have hge2 : w.heap.size ≤ w.heap.size + 1 := by omega
  go_wp2_with (with_reducible change bodyPost _ _ _ Exit.ret _ _; go_loud (refine bodyPost_ret (v := .tuple #[.agg #[.int .i64 yf, .int .i64 yr, .int .i64 y0, .int .i64 y1, .int .i64 y2, .int .i64 y3, .int .i64 y4, .int .i64 y5, .int .i64 y6, .int .i64 k], .int .i64 er]) (by simp [results, Tryd.results37, go_sem, *]) rfl ⟨rfl, ?_⟩))
  all_goals (repeat first | with_reducible exact HM.out.below | with_reducible exact Below.refl _ _ | with_reducible refine below_set2 ?_ hge _ _ | with_reducible refine below_set2 ?_ hge2 _ _ | with_reducible refine below_alloc2 ?_ _)
set_option maxHeartbeats 1000000 in
theorem docsib_n1 (blk off m c a : Nat) (s f : Int)  (_hs0 : 0 ≤ s ∧ s < 256) (hs : s / 64 = 0 ∧ s / 8 % 8 = 4 ∧ s % 8 = 5) (w : World) (hcs : w.cell? ⟨blk, off + a, none⟩ = some (.int .u8 s)) (ham : a < m) :
    Calls Tryd.prog 37 #[.slice (some ⟨blk, off, none⟩) m c, .int .i64 a, .int .i64 0, .int .i64 f, .int .i64 0, .int .i64 1] w fun e w' => e = .returned (.tuple #[.agg #[.int .i64 0, .int .i64 0, .int .i64 0, .int .i64 0, .int .i64 0, .int .i64 0, .int .i64 0, .int .i64 0, .int .i64 0, .int .i64 0], .int .i64 4]) ∧ Below w.heap.size w w' := by
  obtain ⟨hs1, hs2, hs3⟩ := hs
  have am : ¬ a = m := by omega
  have am2 : (a : Int) < m := by omega
  have hcA := fun o => box_alloc hcs o
  have HO := hid ((Own.nil w).alloc w.heap.size #[.int .i64 0, .int .i64 0, .int .i64 0, .int .i64 0, .int .i64 0, .int .i64 0, .int .i64 0, .int .i64 0, .int .i64 0, .int .i64 0] 41 rfl)
  have HO2 := hid (HO.out.alloc (w.heap.size + 1) #[.int .i64 0, .int .i64 0, .int .i64 0, .int .i64 0, .int .i64 0, .int .i64 0, .int .i64 0] 25 (by simp))
  go_enter Tryd.func37, Tryd.ntmps37
  have HM := HO2
  have hge : w.heap.size ≤ w.heap.size := Nat.le_refl _
  have hge2 : w.heap.size ≤ w.heap.size + 1 := by omega
  go_wp2_with (with_reducible change bodyPost _ _ _ Exit.ret _ _; go_loud (refine bodyPost_ret (v := .tuple #[.agg #[.int .i64 0, .int .i64 0, .int .i64 0, .int .i64 0, .int .i64 0, .int .i64 0, .int .i64 0, .int .i64 0, .int .i64 0, .int .i64 0], .int .i64 4]) (by simp [results, Tryd.results37, go_sem, *]) rfl ⟨rfl, ?_⟩))
  all_goals (repeat first | with_reducible exact HM.out.below | with_reducible exact Below.refl _ _ | with_reducible refine below_set2 ?_ hge _ _ | with_reducible refine below_set2 ?_ hge2 _ _ | with_reducible refine below_alloc2 ?_ _)
set_option maxHeartbeats 1000000 in
theorem docsib_zn (blk off m c a : Nat) (q mod l b s f : Int) (_hq : 0 ≤ q ∧ q ≤ 3) (hq0 : ¬ q = 0) (hs0 : 0 ≤ s ∧ s < 256) (hs : s / 64 = q ∧ s / 8 % 8 = 4 ∧ s % 8 = l) (w : World) (hcs : w.cell? ⟨blk, off + a, none⟩ = some (.int .u8 s)) (ham : a < m) :
    Calls Tryd.prog 37 #[.slice (some ⟨blk, off, none⟩) m c, .int .i64 a, .int .i64 mod, .int .i64 f, .int .i64 0, .int .i64 b] w fun e w' => e = .returned (.tuple #[.agg #[.int .i64 0, .int .i64 0, .int .i64 0, .int .i64 0, .int .i64 0, .int .i64 0, .int .i64 0, .int .i64 0, .int .i64 0, .int .i64 0], .int .i64 4]) ∧ Below w.heap.size w w' := by
  obtain ⟨hs1, hs2, hs3⟩ := hs
  have am : ¬ a = m := by omega
  have am2 : (a : Int) < m := by omega
  have hcA := fun o => box_alloc hcs o
  have HO := hid ((Own.nil w).alloc w.heap.size #[.int .i64 0, .int .i64 0, .int .i64 0, .int .i64 0, .int .i64 0, .int .i64 0, .int .i64 0, .int .i64 0, .int .i64 0, .int .i64 0] 41 rfl)
  have HO2 := hid (HO.out.alloc (w.heap.size + 1) #[.int .i64 0, .int .i64 0, .int .i64 0, .int .i64 0, .int .i64 0, .int .i64 0, .int .i64 0] 25 (by simp))
  go_enter Tryd.func37, Tryd.ntmps37
  have HM := HO2
  have hge : w.heap.size ≤ w.heap.size := Nat.le_refl _
  have hge2 : w.heap.size ≤ w.heap.size + 1 := by omega
  go_wp2_with (with_reducible change bodyPost _ _ _ Exit.ret _ _; go_loud (refine bodyPost_ret (v := .tuple #[.agg #[.int .i64 0, .int .i64 0, .int .i64 0, .int .i64 0, .int .i64 0, .int .i64 0, .int .i64 0, .int .i64 0, .int .i64 0, .int .i64 0], .int .i64 4]) (by simp [results, Tryd.results37, go_sem, *]) rfl ⟨rfl, ?_⟩))
  all_goals (repeat first | with_reducible exact HM.out.below | with_reducible exact Below.refl _ _ | with_reducible refine below_set2 ?_ hge _ _ | with_reducible refine below_set2 ?_ hge2 _ _ | with_reducible refine below_alloc2 ?_ _)
end Go.Proofs.YtiiepdgpnnjpiaaDoor
