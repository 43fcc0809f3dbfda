/-
  The document's answer: Read.
-/
import Derived.Test.YtiiepdgpnnjpiaaDoorRBySib
namespace Go.Proofs.YtiiepdgpnnjpiaaDoor
open Go.RowKit
set_option maxRecDepth 100000

theorem docsib_any (blk off m c a : Nat) (mod f x b s : Int) (xs : List Int) (hx : 0 ≤ x ∧ x ≤ 1) (hb : 0 ≤ b ∧ b ≤ 1) (w : World) (hs : a < m → (0 ≤ s ∧ s < 256) ∧ w.cell? ⟨blk, off + a, none⟩ = some (.int .u8 s)) (hml : xs.length = m) (hmc : m ≤ c) (ha : a ≤ 100000) (ham : a ≤ m) (hM : Mem w w.heap.size (some ⟨blk, off, none⟩) xs) :
    Calls Tryd.prog 37 #[.slice (some ⟨blk, off, none⟩) m c, .int .i64 a, .int .i64 mod, .int .i64 f, .int .i64 x, .int .i64 b] w fun e w' => e = .returned (RV (docS xs a mod f x b s)) ∧ Below w.heap.size w w' := by
  by_cases hma : a = m
  · subst hma
    have hF : docS xs a mod f x b s = (9, zeroS, 0) := by unfold docS; rw [if_pos hml]
    rw [hF]
    exact docsib_stop _ a c mod f x b w
  have ham' : a < m := by omega
  obtain ⟨hs0, hcs⟩ := hs ham'
  obtain ⟨i, hi⟩ : ∃ i, s / 8 % 8 = i := ⟨_, rfl⟩
  obtain ⟨q, hq⟩ : ∃ q, s / 64 = q := ⟨_, rfl⟩
  obtain ⟨l, hl⟩ : ∃ l, s % 8 = l := ⟨_, rfl⟩
  have ri : 0 ≤ i ∧ i ≤ 7 := by omega
  have rq : 0 ≤ q ∧ q ≤ 3 := by omega
  have rl : 0 ≤ l ∧ l ≤ 7 := by omega
  have hF : docS xs a mod f x b s = if i + 8 * x = 4 ∧ ¬ q = 0 ∨ mod = 0 ∧ l = 5 ∧ b = 1 then (4, zeroS, 0)
      else docD xs (a + 1) (if mod = 0 ∧ l = 5 then 4 else widthF mod) f ⟨if mod = 0 ∧ l = 5 then 0 else 5, if mod = 0 ∧ l = 5 then 0 else l + 8 * b, if i + 8 * x = 4 then 0 else 5, if i + 8 * x = 4 then 0 else i + 8 * x, if i + 8 * x = 4 then 0 else 2 ^ q.toNat, 0, 0⟩ := by
    unfold docS
    rw [if_neg (by omega), hi, hq, hl]
  have bad : (i + 8 * x = 4 ∧ ¬ q = 0 ∨ mod = 0 ∧ l = 5 ∧ b = 1) → docS xs a mod f x b s = (4, zeroS, 0) := fun h => by rw [hF, if_pos h]
  by_cases hj : i + 8 * x = 4
  · have e4 : i = 4 := by omega
    have ex : x = 0 := by omega
    subst e4; subst ex
    by_cases hq0 : q = 0
    · subst hq0
      by_cases hm : mod = 0
      · subst hm
        by_cases h5 : l = 5
        · subst h5
          by_cases h1 : b = 1
          · subst h1
            rw [bad (by omega)]
            exact docsib_n1 blk off m c a s f hs0 ⟨hq, hi, hl⟩ w hcs ham'
          · have e0 : b = 0 := by omega
            subst e0
            have : docS xs a 0 f 0 0 s = docD xs (a + 1) 4 f ⟨0, 0, 0, 0, 0, 0, 0⟩ := by rw [hF]; simp
            rw [this]
            exact docsib_n0 blk off m c a s f xs hs0 ⟨hq, hi, hl⟩ w hcs hml hmc ha ham' hM
        · have : docS xs a 0 f 0 b s = docD xs (a + 1) 0 f ⟨5, l + 8 * b, 0, 0, 0, 0, 0⟩ := by rw [hF]; simp [h5, widthF]
          rw [this]
          exact docsib_nl blk off m c a l b s f xs rl hb h5 hs0 ⟨hq, hi, hl⟩ w hcs hml hmc ha ham' hM
      · have : docS xs a mod f 0 b s = docD xs (a + 1) (widthF mod) f ⟨5, l + 8 * b, 0, 0, 0, 0, 0⟩ := by rw [hF]; simp [hm]
        rw [this]
        exact docsib_nn blk off m c a mod l b s f xs rl hb hm hs0 ⟨hq, hi, hl⟩ w hcs hml hmc ha ham' hM
    · rw [bad (by omega)]
      exact docsib_zn blk off m c a q mod l b s f rq hq0 hs0 ⟨hq, hi, hl⟩ w hcs ham'
  · by_cases hm : mod = 0
    · subst hm
      by_cases h5 : l = 5
      · subst h5
        by_cases h1 : b = 1
        · subst h1
          rw [bad (by omega)]
          exact docsib_y1 blk off m c a i x q s f ri hx rq hj hs0 ⟨hq, hi, hl⟩ w hcs ham'
        · have e0 : b = 0 := by omega
          subst e0
          have : docS xs a 0 f x 0 s = docD xs (a + 1) 4 f ⟨0, 0, 5, i + 8 * x, 2 ^ q.toNat, 0, 0⟩ := by rw [hF]; simp [hj]
          rw [this]
          exact docsib_y0 blk off m c a i x q s f xs ri hx rq hj hs0 ⟨hq, hi, hl⟩ w hcs hml hmc ha ham' hM
      · have : docS xs a 0 f x b s = docD xs (a + 1) 0 f ⟨5, l + 8 * b, 5, i + 8 * x, 2 ^ q.toNat, 0, 0⟩ := by rw [hF]; simp [hj, h5, widthF]
        rw [this]
        exact docsib_yl blk off m c a i x q l b s f xs ri hx rq rl hb hj h5 hs0 ⟨hq, hi, hl⟩ w hcs hml hmc ha ham' hM
    · have : docS xs a mod f x b s = docD xs (a + 1) (widthF mod) f ⟨5, l + 8 * b, 5, i + 8 * x, 2 ^ q.toNat, 0, 0⟩ := by rw [hF]; simp [hj, hm]
      rw [this]
      exact docsib_yn blk off m c a i x q mod l b s f xs ri hx rq rl hb hj hm hs0 ⟨hq, hi, hl⟩ w hcs hml hmc ha ham' hM
theorem dsib_of {blk off m c a : Nat} {ai mod f x b s er yf yr y0 y1 y2 y3 y4 y5 y6 k : Int} {yn : Nat} {xs : List Int} (hR : docS xs a mod f x b s = (er, ⟨yf, yr, ⟨y0, y1, y2, y3, y4, y5, y6⟩, yn⟩, k)) (hai : ai = a) (hml : xs.length = m) (hmc : m ≤ c) (ha : a ≤ 100000) (ham : a ≤ m) (hx : 0 ≤ x ∧ x ≤ 1) (hb : 0 ≤ b ∧ b ≤ 1) (w : World) (hM : Mem w w.heap.size (some ⟨blk, off, none⟩) xs) (hs : a < m → (0 ≤ s ∧ s < 256) ∧ w.cell? ⟨blk, off + a, none⟩ = some (.int .u8 s)) :
    Calls Tryd.prog 37 #[.slice (some ⟨blk, off, none⟩) m c, .int .i64 ai, .int .i64 mod, .int .i64 f, .int .i64 x, .int .i64 b] w fun e w' => e = .returned (.tuple #[.agg #[.int .i64 yf, .int .i64 yr, .int .i64 y0, .int .i64 y1, .int .i64 y2, .int .i64 y3, .int .i64 y4, .int .i64 y5, .int .i64 y6, .int .i64 k], .int .i64 er]) ∧ Below w.heap.size w w' := by
  subst hai
  have := docsib_any blk off m c a mod f x b s xs hx hb w hs hml hmc ha ham hM
  rw [hR] at this
  exact this
set_option maxHeartbeats 1000000 in
theorem dread_neg (A : Option Addr) (m c : Nat) (at_ x b : Int) (h : at_ < 0) (w : World) :
    Calls Tryd.prog 15 #[.slice A m c, .int .i64 at_, .int .i64 x, .int .i64 b] w fun e w' => e = .returned (.tuple #[.agg #[.int .i64 0, .int .i64 0, .int .i64 0, .int .i64 0, .int .i64 0, .int .i64 0, .int .i64 0, .int .i64 0, .int .i64 0, .int .i64 0], .int .i64 5]) ∧ Below w.heap.size w w' := by
  have hge : w.heap.size ≤ w.heap.size := Nat.le_refl _
  go_enter Tryd.func15, Tryd.ntmps15
  go_wp2_with (with_reducible change bodyPost _ _ _ Exit.ret _ _; go_loud (refine bodyPost_ret (v := .tuple #[.agg #[.int .i64 0, .int .i64 0, .int .i64 0, .int .i64 0, .int .i64 0, .int .i64 0, .int .i64 0, .int .i64 0, .int .i64 0, .int .i64 0], .int .i64 5]) (by simp [results, Tryd.results15, go_sem, *]) rfl ⟨rfl, ?_⟩))
  all_goals (repeat first | with_reducible exact Below.refl _ _ | with_reducible refine below_set2 ?_ hge _ _ | with_reducible refine below_alloc2 ?_ _)
set_option maxHeartbeats 1000000 in
theorem dread_far (A : Option Addr) (m c : Nat) (at_ x b : Int) (h : 0 ≤ at_) (h2 : (m : Int) < at_) (w : World) :
    Calls Tryd.prog 15 #[.slice A m c, .int .i64 at_, .int .i64 x, .int .i64 b] w fun e w' => e = .returned (.tuple #[.agg #[.int .i64 0, .int .i64 0, .int .i64 0, .int .i64 0, .int .i64 0, .int .i64 0, .int .i64 0, .int .i64 0, .int .i64 0, .int .i64 0], .int .i64 5]) ∧ Below w.heap.size w w' := by
  have hge : w.heap.size ≤ w.heap.size := Nat.le_refl _
  go_enter Tryd.func15, Tryd.ntmps15
  go_wp2_with (with_reducible change bodyPost _ _ _ Exit.ret _ _; go_loud (refine bodyPost_ret (v := .tuple #[.agg #[.int .i64 0, .int .i64 0, .int .i64 0, .int .i64 0, .int .i64 0, .int .i64 0, .int .i64 0, .int .i64 0, .int .i64 0, .int .i64 0], .int .i64 5]) (by simp [results, Tryd.results15, go_sem, *]) rfl ⟨rfl, ?_⟩))
  all_goals (repeat first | with_reducible exact Below.refl _ _ | with_reducible refine below_set2 ?_ hge _ _ | with_reducible refine below_alloc2 ?_ _)
set_option maxHeartbeats 1000000 in
theorem dread_x0 (A : Option Addr) (m c : Nat) (at_ x b : Int) (h : 0 ≤ at_) (h2 : at_ ≤ m) (hx : x < 0) (w : World) :
    Calls Tryd.prog 15 #[.slice A m c, .int .i64 at_, .int .i64 x, .int .i64 b] w fun e w' => e = .returned (.tuple #[.agg #[.int .i64 0, .int .i64 0, .int .i64 0, .int .i64 0, .int .i64 0, .int .i64 0, .int .i64 0, .int .i64 0, .int .i64 0, .int .i64 0], .int .i64 5]) ∧ Below w.heap.size w w' := by
  have hge : w.heap.size ≤ w.heap.size := Nat.le_refl _
  go_enter Tryd.func15, Tryd.ntmps15
  go_wp2_with (with_reducible change bodyPost _ _ _ Exit.ret _ _; go_loud (refine bodyPost_ret (v := .tuple #[.agg #[.int .i64 0, .int .i64 0, .int .i64 0, .int .i64 0, .int .i64 0, .int .i64 0, .int .i64 0, .int .i64 0, .int .i64 0, .int .i64 0], .int .i64 5]) (by simp [results, Tryd.results15, go_sem, *]) rfl ⟨rfl, ?_⟩))
  all_goals (repeat first | with_reducible exact Below.refl _ _ | with_reducible refine below_set2 ?_ hge _ _ | with_reducible refine below_alloc2 ?_ _)
set_option maxHeartbeats 1000000 in
theorem dread_x1 (A : Option Addr) (m c : Nat) (at_ x b : Int) (h : 0 ≤ at_) (h2 : at_ ≤ m) (hx : 1 < x) (w : World) :
    Calls Tryd.prog 15 #[.slice A m c, .int .i64 at_, .int .i64 x, .int .i64 b] w fun e w' => e = .returned (.tuple #[.agg #[.int .i64 0, .int .i64 0, .int .i64 0, .int .i64 0, .int .i64 0, .int .i64 0, .int .i64 0, .int .i64 0, .int .i64 0, .int .i64 0], .int .i64 5]) ∧ Below w.heap.size w w' := by
  have hge : w.heap.size ≤ w.heap.size := Nat.le_refl _
  go_enter Tryd.func15, Tryd.ntmps15
  go_wp2_with (with_reducible change bodyPost _ _ _ Exit.ret _ _; go_loud (refine bodyPost_ret (v := .tuple #[.agg #[.int .i64 0, .int .i64 0, .int .i64 0, .int .i64 0, .int .i64 0, .int .i64 0, .int .i64 0, .int .i64 0, .int .i64 0, .int .i64 0], .int .i64 5]) (by simp [results, Tryd.results15, go_sem, *]) rfl ⟨rfl, ?_⟩))
  all_goals (repeat first | with_reducible exact Below.refl _ _ | with_reducible refine below_set2 ?_ hge _ _ | with_reducible refine below_alloc2 ?_ _)
set_option maxHeartbeats 1000000 in
theorem dread_b0 (A : Option Addr) (m c : Nat) (at_ x b : Int) (h : 0 ≤ at_) (h2 : at_ ≤ m) (hx : 0 ≤ x) (hx1 : x ≤ 1) (hb : b < 0) (w : World) :
    Calls Tryd.prog 15 #[.slice A m c, .int .i64 at_, .int .i64 x, .int .i64 b] w fun e w' => e = .returned (.tuple #[.agg #[.int .i64 0, .int .i64 0, .int .i64 0, .int .i64 0, .int .i64 0, .int .i64 0, .int .i64 0, .int .i64 0, .int .i64 0, .int .i64 0], .int .i64 5]) ∧ Below w.heap.size w w' := by
  have hge : w.heap.size ≤ w.heap.size := Nat.le_refl _
  go_enter Tryd.func15, Tryd.ntmps15
  go_wp2_with (with_reducible change bodyPost _ _ _ Exit.ret _ _; go_loud (refine bodyPost_ret (v := .tuple #[.agg #[.int .i64 0, .int .i64 0, .int .i64 0, .int .i64 0, .int .i64 0, .int .i64 0, .int .i64 0, .int .i64 0, .int .i64 0, .int .i64 0], .int .i64 5]) (by simp [results, Tryd.results15, go_sem, *]) rfl ⟨rfl, ?_⟩))
  all_goals (repeat first | with_reducible exact Below.refl _ _ | with_reducible refine below_set2 ?_ hge _ _ | with_reducible refine below_alloc2 ?_ _)
set_option maxHeartbeats 1000000 in
theorem dread_b1 (A : Option Addr) (m c : Nat) (at_ x b : Int) (h : 0 ≤ at_) (h2 : at_ ≤ m) (hx : 0 ≤ x) (hx1 : x ≤ 1) (hb : 1 < b) (w : World) :
    Calls Tryd.prog 15 #[.slice A m c, .int .i64 at_, .int .i64 x, .int .i64 b] w fun e w' => e = .returned (.tuple #[.agg #[.int .i64 0, .int .i64 0, .int .i64 0, .int .i64 0, .int .i64 0, .int .i64 0, .int .i64 0, .int .i64 0, .int .i64 0, .int .i64 0], .int .i64 5]) ∧ Below w.heap.size w w' := by
  have hge : w.heap.size ≤ w.heap.size := Nat.le_refl _
  go_enter Tryd.func15, Tryd.ntmps15
  go_wp2_with (with_reducible change bodyPost _ _ _ Exit.ret _ _; go_loud (refine bodyPost_ret (v := .tuple #[.agg #[.int .i64 0, .int .i64 0, .int .i64 0, .int .i64 0, .int .i64 0, .int .i64 0, .int .i64 0, .int .i64 0, .int .i64 0, .int .i64 0], .int .i64 5]) (by simp [results, Tryd.results15, go_sem, *]) rfl ⟨rfl, ?_⟩))
  all_goals (repeat first | with_reducible exact Below.refl _ _ | with_reducible refine below_set2 ?_ hge _ _ | with_reducible refine below_alloc2 ?_ _)
set_option maxHeartbeats 1000000 in
theorem dread_cut (A : Option Addr) (m c : Nat) (x b : Int) (hx : 0 ≤ x) (hx1 : x ≤ 1) (hb : 0 ≤ b) (hb1 : b ≤ 1) (w : World) :
    Calls Tryd.prog 15 #[.slice A m c, .int .i64 m, .int .i64 x, .int .i64 b] w fun e w' => e = .returned (.tuple #[.agg #[.int .i64 0, .int .i64 0, .int .i64 0, .int .i64 0, .int .i64 0, .int .i64 0, .int .i64 0, .int .i64 0, .int .i64 0, .int .i64 0], .int .i64 9]) ∧ Below w.heap.size w w' := by
  have hge : w.heap.size ≤ w.heap.size := Nat.le_refl _
  go_enter Tryd.func15, Tryd.ntmps15
  go_wp2_with (with_reducible change bodyPost _ _ _ Exit.ret _ _; go_loud (refine bodyPost_ret (v := .tuple #[.agg #[.int .i64 0, .int .i64 0, .int .i64 0, .int .i64 0, .int .i64 0, .int .i64 0, .int .i64 0, .int .i64 0, .int .i64 0, .int .i64 0], .int .i64 9]) (by simp [results, Tryd.results15, go_sem, *]) rfl ⟨rfl, ?_⟩))
  all_goals (repeat first | with_reducible exact Below.refl _ _ | with_reducible refine below_set2 ?_ hge _ _ | with_reducible refine below_alloc2 ?_ _)
set_option maxHeartbeats 1000000 in
theorem dread_sib (blk off m c a : Nat) (q x b i s t : Int) (xs : List Int)  (hx : 0 ≤ x ∧ x ≤ 1) (hb : 0 ≤ b ∧ b ≤ 1) (hq3 : ¬ q = 3) (hs0 : 0 ≤ s ∧ s < 256) (hs : s / 64 = q ∧ s / 8 % 8 = i ∧ s % 8 = 4) (w : World) (hcs : w.cell? ⟨blk, off + a, none⟩ = some (.int .u8 s)) (hml : xs.length = m) (hmc : m ≤ c) (ha : a ≤ 10000) (ham : a < m) (hM : Mem w w.heap.size (some ⟨blk, off, none⟩) xs) (ht : a + 1 < m → (0 ≤ t ∧ t < 256) ∧ w.cell? ⟨blk, off + (a + 1), none⟩ = some (.int .u8 t)) :
    Calls Tryd.prog 15 #[.slice (some ⟨blk, off, none⟩) m c, .int .i64 a, .int .i64 x, .int .i64 b] w fun e w' => e = .returned (RV (docS xs (a + 1) q i x b t)) ∧ Below w.heap.size w w' := by
  obtain ⟨hs1, hs2, hs3⟩ := hs
  have hx0 : 0 ≤ x := hx.1
  have hx1 : x ≤ 1 := hx.2
  have hb0 : 0 ≤ b := hb.1
  have hb1 : b ≤ 1 := hb.2
  have kq3 : (q != 3) = true := by simp [hq3]
  have am : ¬ a = m := by omega
  have am2 : (a : Int) < m := by omega
  have am3 : (a : Int) ≤ m := by omega
  have hcA := fun o => box_alloc hcs o
  have HO := hid ((Own.nil w).alloc w.heap.size #[.int .i64 0, .int .i64 0, .int .i64 0, .int .i64 0, .int .i64 0, .int .i64 0, .int .i64 0, .int .i64 0, .int .i64 0, .int .i64 0] 41 rfl)
  have HMM := hid hM
  clear hM
  have HTT := hid ht
  clear ht
  obtain ⟨⟨er, ⟨yf, yr, ⟨y0, y1, y2, y3, y4, y5, y6⟩, yn⟩, k⟩, hR⟩ : ∃ R, docS xs (a + 1) q i x b t = R := ⟨_, rfl⟩
  rw [hR]
  have HR := hid hR
  clear hR
  go_enter Tryd.func15, Tryd.ntmps15
  go_wp2_with fail
  generalize w.alloc (.cells #[.int .i64 0, .int .i64 0, .int .i64 0, .int .i64 0, .int .i64 0, .int .i64 0, .int .i64 0, .int .i64 0, .int .i64 0, .int .i64 0] 41) = W at *
  have c0 := HO.out.c
  have z0 := HO.out.z
  have f0 := HO.out.f
  refine (dsib_of HR.out (cast_one a) hml hmc (by omega) (by omega) hx hb _ ((HMM.out.below HO.out.below).mono HO.out.below.size) (fun h => ⟨(HTT.out h).1, (HO.out.below.cell (p := ⟨blk, off + (a + 1), none⟩) (World.block_lt_of_cell? w _ (HTT.out h).2)).trans (HTT.out h).2⟩)).mono ?_
  rintro e w9 ⟨rfl, hb9⟩
  have HO := hid (HO.out.call hb9)
  clear hb9 c0 z0 f0
  have c0 := HO.out.c
  have z0 := HO.out.z
  have f0 := HO.out.f
  have hge : w.heap.size ≤ w.heap.size := Nat.le_refl _
  go_wp2_with (with_reducible change bodyPost _ _ _ Exit.ret _ _; go_loud (refine bodyPost_ret (v := .tuple #[.agg #[.int .i64 yf, .int .i64 yr, .int .i64 y0, .int .i64 y1, .int .i64 y2, .int .i64 y3, .int .i64 y4, .int .i64 y5, .int .i64 y6, .int .i64 k], .int .i64 er]) (by simp [results, Tryd.results15, go_sem, *]) rfl ⟨rfl, ?_⟩))
  all_goals (repeat first | with_reducible exact HO.out.below | with_reducible exact Below.refl _ _ | with_reducible refine below_set2 ?_ hge _ _ | with_reducible refine below_alloc2 ?_ _)
set_option maxHeartbeats 1000000 in
theorem dread_bytes3 (blk off m c a : Nat) (l b i s : Int)  (_hl : 0 ≤ l ∧ l ≤ 7) (hb : 0 ≤ b ∧ b ≤ 1)  (hs0 : 0 ≤ s ∧ s < 256) (hs : s / 64 = 3 ∧ s / 8 % 8 = i ∧ s % 8 = l) (w : World) (hcs : w.cell? ⟨blk, off + a, none⟩ = some (.int .u8 s)) (ha : a ≤ 10000) (ham : a < m) :
    Calls Tryd.prog 15 #[.slice (some ⟨blk, off, none⟩) m c, .int .i64 a, .int .i64 1, .int .i64 b] w fun e w' => e = .returned (.tuple #[.agg #[.int .i64 0, .int .i64 0, .int .i64 0, .int .i64 0, .int .i64 0, .int .i64 0, .int .i64 0, .int .i64 0, .int .i64 0, .int .i64 0], .int .i64 4]) ∧ Below w.heap.size w w' := by
  obtain ⟨hs1, hs2, hs3⟩ := hs
  have hb0 : 0 ≤ b := hb.1
  have hb1 : b ≤ 1 := hb.2
  have am : ¬ a = m := by omega
  have am2 : (a : Int) < m := by omega
  have am3 : (a : Int) ≤ m := by omega
  have hcA := fun o => box_alloc hcs o
  have HO := hid ((Own.nil w).alloc w.heap.size #[.int .i64 0, .int .i64 0, .int .i64 0, .int .i64 0, .int .i64 0, .int .i64 0, .int .i64 0, .int .i64 0, .int .i64 0, .int .i64 0] 41 rfl)
  go_enter Tryd.func15, Tryd.ntmps15
  have hge : w.heap.size ≤ w.heap.size := Nat.le_refl _
  go_wp2_with (with_reducible change bodyPost _ _ _ Exit.ret _ _; go_loud (refine bodyPost_ret (v := .tuple #[.agg #[.int .i64 0, .int .i64 0, .int .i64 0, .int .i64 0, .int .i64 0, .int .i64 0, .int .i64 0, .int .i64 0, .int .i64 0, .int .i64 0], .int .i64 4]) (by simp [results, Tryd.results15, go_sem, *]) rfl ⟨rfl, ?_⟩))
  all_goals (repeat first | with_reducible exact HO.out.below | with_reducible exact Below.refl _ _ | with_reducible refine below_set2 ?_ hge _ _ | with_reducible refine below_alloc2 ?_ _)
set_option maxHeartbeats 1000000 in
theorem dread_bytesx (blk off m c a : Nat) (q l b i s : Int)  (_hl : 0 ≤ l ∧ l ≤ 7) (hb : 0 ≤ b ∧ b ≤ 1) (hq3 : ¬ q = 3) (h4 : ¬ l = 4) (hs0 : 0 ≤ s ∧ s < 256) (hs : s / 64 = q ∧ s / 8 % 8 = i ∧ s % 8 = l) (w : World) (hcs : w.cell? ⟨blk, off + a, none⟩ = some (.int .u8 s)) (ha : a ≤ 10000) (ham : a < m) :
    Calls Tryd.prog 15 #[.slice (some ⟨blk, off, none⟩) m c, .int .i64 a, .int .i64 1, .int .i64 b] w fun e w' => e = .returned (.tuple #[.agg #[.int .i64 0, .int .i64 0, .int .i64 0, .int .i64 0, .int .i64 0, .int .i64 0, .int .i64 0, .int .i64 0, .int .i64 0, .int .i64 0], .int .i64 4]) ∧ Below w.heap.size w w' := by
  obtain ⟨hs1, hs2, hs3⟩ := hs
  have hb0 : 0 ≤ b := hb.1
  have hb1 : b ≤ 1 := hb.2
  have kb4 : (l == 4) = false := by simp [h4]
  have kq3 : (q != 3) = true := by simp [hq3]
  have am : ¬ a = m := by omega
  have am2 : (a : Int) < m := by omega
  have am3 : (a : Int) ≤ m := by omega
  have hcA := fun o => box_alloc hcs o
  have HO := hid ((Own.nil w).alloc w.heap.size #[.int .i64 0, .int .i64 0, .int .i64 0, .int .i64 0, .int .i64 0, .int .i64 0, .int .i64 0, .int .i64 0, .int .i64 0, .int .i64 0] 41 rfl)
  go_enter Tryd.func15, Tryd.ntmps15
  have hge : w.heap.size ≤ w.heap.size := Nat.le_refl _
  go_wp2_with (with_reducible change bodyPost _ _ _ Exit.ret _ _; go_loud (refine bodyPost_ret (v := .tuple #[.agg #[.int .i64 0, .int .i64 0, .int .i64 0, .int .i64 0, .int .i64 0, .int .i64 0, .int .i64 0, .int .i64 0, .int .i64 0, .int .i64 0], .int .i64 4]) (by simp [results, Tryd.results15, go_sem, *]) rfl ⟨rfl, ?_⟩))
  all_goals (repeat first | with_reducible exact HO.out.below | with_reducible exact Below.refl _ _ | with_reducible refine below_set2 ?_ hge _ _ | with_reducible refine below_alloc2 ?_ _)
set_option maxHeartbeats 1000000 in
theorem dread_bytesb (blk off m c a : Nat) (i s : Int)    (_hs0 : 0 ≤ s ∧ s < 256) (hs : s / 64 = 0 ∧ s / 8 % 8 = i ∧ s % 8 = 5) (w : World) (hcs : w.cell? ⟨blk, off + a, none⟩ = some (.int .u8 s)) (ha : a ≤ 10000) (ham : a < m) :
    Calls Tryd.prog 15 #[.slice (some ⟨blk, off, none⟩) m c, .int .i64 a, .int .i64 0, .int .i64 1] w fun e w' => e = .returned (.tuple #[.agg #[.int .i64 0, .int .i64 0, .int .i64 0, .int .i64 0, .int .i64 0, .int .i64 0, .int .i64 0, .int .i64 0, .int .i64 0, .int .i64 0], .int .i64 4]) ∧ Below w.heap.size w w' := by
  obtain ⟨hs1, hs2, hs3⟩ := hs
  have am : ¬ a = m := by omega
  have am2 : (a : Int) < m := by omega
  have am3 : (a : Int) ≤ m := by omega
  have hcA := fun o => box_alloc hcs o
  have HO := hid ((Own.nil w).alloc w.heap.size #[.int .i64 0, .int .i64 0, .int .i64 0, .int .i64 0, .int .i64 0, .int .i64 0, .int .i64 0, .int .i64 0, .int .i64 0, .int .i64 0] 41 rfl)
  go_enter Tryd.func15, Tryd.ntmps15
  have hge : w.heap.size ≤ w.heap.size := Nat.le_refl _
  go_wp2_with (with_reducible change bodyPost _ _ _ Exit.ret _ _; go_loud (refine bodyPost_ret (v := .tuple #[.agg #[.int .i64 0, .int .i64 0, .int .i64 0, .int .i64 0, .int .i64 0, .int .i64 0, .int .i64 0, .int .i64 0, .int .i64 0, .int .i64 0], .int .i64 4]) (by simp [results, Tryd.results15, go_sem, *]) rfl ⟨rfl, ?_⟩))
  all_goals (repeat first | with_reducible exact HO.out.below | with_reducible exact Below.refl _ _ | with_reducible refine below_set2 ?_ hge _ _ | with_reducible refine below_alloc2 ?_ _)
set_option maxHeartbeats 1000000 in
theorem dread_reg (blk off m c a : Nat) (l b i s : Int)  (_hl : 0 ≤ l ∧ l ≤ 7) (hb : 0 ≤ b ∧ b ≤ 1)  (hs0 : 0 ≤ s ∧ s < 256) (hs : s / 64 = 3 ∧ s / 8 % 8 = i ∧ s % 8 = l) (w : World) (hcs : w.cell? ⟨blk, off + a, none⟩ = some (.int .u8 s)) (ha : a ≤ 10000) (ham : a < m) :
    Calls Tryd.prog 15 #[.slice (some ⟨blk, off, none⟩) m c, .int .i64 a, .int .i64 0, .int .i64 b] w fun e w' => e = .returned (.tuple #[.agg #[.int .i64 i, .int .i64 (l + 8 * b), .int .i64 0, .int .i64 0, .int .i64 0, .int .i64 0, .int .i64 0, .int .i64 0, .int .i64 0, .int .i64 ((a : Int) + 1)], .int .i64 0]) ∧ Below w.heap.size w w' := by
  obtain ⟨hs1, hs2, hs3⟩ := hs
  have hb0 : 0 ≤ b := hb.1
  have hb1 : b ≤ 1 := hb.2
  have am : ¬ a = m := by omega
  have am2 : (a : Int) < m := by omega
  have am3 : (a : Int) ≤ m := by omega
  have hcA := fun o => box_alloc hcs o
  have HO := hid ((Own.nil w).alloc w.heap.size #[.int .i64 0, .int .i64 0, .int .i64 0, .int .i64 0, .int .i64 0, .int .i64 0, .int .i64 0, .int .i64 0, .int .i64 0, .int .i64 0] 41 rfl)
  go_enter Tryd.func15, Tryd.ntmps15
  have hw : wrap64 ((a : Int) + 1) = (a : Int) + 1 := IntWalk.wrap64_in _ ⟨by omega, by omega⟩
  have hge : w.heap.size ≤ w.heap.size := Nat.le_refl _
  go_wp2_with (with_reducible change bodyPost _ _ _ Exit.ret _ _; go_loud (refine bodyPost_ret (v := .tuple #[.agg #[.int .i64 i, .int .i64 (l + 8 * b), .int .i64 0, .int .i64 0, .int .i64 0, .int .i64 0, .int .i64 0, .int .i64 0, .int .i64 0, .int .i64 ((a : Int) + 1)], .int .i64 0]) (by simp [results, Tryd.results15, go_sem, *]) rfl ⟨rfl, ?_⟩))
  all_goals (repeat first | with_reducible exact HO.out.below | with_reducible exact Below.refl _ _ | with_reducible refine below_set2 ?_ hge _ _ | with_reducible refine below_alloc2 ?_ _)
set_option maxHeartbeats 1000000 in
theorem dread_rip (blk off m c a : Nat) (i s : Int) (xs : List Int)    (_hs0 : 0 ≤ s ∧ s < 256) (hs : s / 64 = 0 ∧ s / 8 % 8 = i ∧ s % 8 = 5) (w : World) (hcs : w.cell? ⟨blk, off + a, none⟩ = some (.int .u8 s)) (hml : xs.length = m) (hmc : m ≤ c) (ha : a ≤ 10000) (ham : a < m) (hM : Mem w w.heap.size (some ⟨blk, off, none⟩) xs) :
    Calls Tryd.prog 15 #[.slice (some ⟨blk, off, none⟩) m c, .int .i64 a, .int .i64 0, .int .i64 0] w fun e w' => e = .returned (RV (docD xs (a + 1) 4 i ⟨8, 0, 0, 0, 0, 0, 0⟩)) ∧ Below w.heap.size w w' := by
  obtain ⟨hs1, hs2, hs3⟩ := hs
  have am : ¬ a = m := by omega
  have am2 : (a : Int) < m := by omega
  have am3 : (a : Int) ≤ m := by omega
  have hcA := fun o => box_alloc hcs o
  have HO := hid ((Own.nil w).alloc w.heap.size #[.int .i64 0, .int .i64 0, .int .i64 0, .int .i64 0, .int .i64 0, .int .i64 0, .int .i64 0, .int .i64 0, .int .i64 0, .int .i64 0] 41 rfl)
  have HMM := hid hM
  clear hM
  obtain ⟨⟨er, ⟨yf, yr, ⟨y0, y1, y2, y3, y4, y5, y6⟩, yn⟩, k⟩, hR⟩ : ∃ R, docD xs (a + 1) 4 i ⟨8, 0, 0, 0, 0, 0, 0⟩ = R := ⟨_, rfl⟩
  rw [hR]
  have HR := hid hR
  clear hR
  go_enter Tryd.func15, Tryd.ntmps15
  go_wp2_with fail
  generalize w.alloc (.cells #[.int .i64 0, .int .i64 0, .int .i64 0, .int .i64 0, .int .i64 0, .int .i64 0, .int .i64 0, .int .i64 0, .int .i64 0, .int .i64 0] 41) = W at *
  have c0 := HO.out.c
  have z0 := HO.out.z
  have f0 := HO.out.f
  refine (rdisp_of HR.out (cast_one a) rfl hml hmc (by omega) (by omega) (by omega) _ ((HMM.out.below HO.out.below).mono HO.out.below.size)).mono ?_
  rintro e w9 ⟨rfl, hb9⟩
  have HO := hid (HO.out.call hb9)
  clear hb9 c0 z0 f0
  have c0 := HO.out.c
  have z0 := HO.out.z
  have f0 := HO.out.f
  have hge : w.heap.size ≤ w.heap.size := Nat.le_refl _
  go_wp2_with (with_reducible change bodyPost _ _ _ Exit.ret _ _; go_loud (refine bodyPost_ret (v := .tuple #[.agg #[.int .i64 yf, .int .i64 yr, .int .i64 y0, .int .i64 y1, .int .i64 y2, .int .i64 y3, .int .i64 y4, .int .i64 y5, .int .i64 y6, .int .i64 k], .int .i64 er]) (by simp [results, Tryd.results15, go_sem, *]) rfl ⟨rfl, ?_⟩))
  all_goals (repeat first | with_reducible exact HO.out.below | with_reducible exact Below.refl _ _ | with_reducible refine below_set2 ?_ hge _ _ | with_reducible refine below_alloc2 ?_ _)
set_option maxHeartbeats 1000000 in
theorem dread_base0 (blk off m c a : Nat) (l b i s : Int) (xs : List Int)  (_hl : 0 ≤ l ∧ l ≤ 7) (hb : 0 ≤ b ∧ b ≤ 1) (h4 : ¬ l = 4) (h5 : ¬ l = 5) (hs0 : 0 ≤ s ∧ s < 256) (hs : s / 64 = 0 ∧ s / 8 % 8 = i ∧ s % 8 = l) (w : World) (hcs : w.cell? ⟨blk, off + a, none⟩ = some (.int .u8 s)) (hml : xs.length = m) (hmc : m ≤ c) (ha : a ≤ 10000) (ham : a < m) (hM : Mem w w.heap.size (some ⟨blk, off, none⟩) xs) :
    Calls Tryd.prog 15 #[.slice (some ⟨blk, off, none⟩) m c, .int .i64 a, .int .i64 0, .int .i64 b] w fun e w' => e = .returned (RV (docD xs (a + 1) (widthF 0) i ⟨5, l + 8 * b, 0, 0, 0, 0, 0⟩)) ∧ Below w.heap.size w w' := by
  obtain ⟨hs1, hs2, hs3⟩ := hs
  have hb0 : 0 ≤ b := hb.1
  have hb1 : b ≤ 1 := hb.2
  have kb4 : (l == 4) = false := by simp [h4]
  have kb5 : (l == 5) = false := by simp [h5]
  have am : ¬ a = m := by omega
  have am2 : (a : Int) < m := by omega
  have am3 : (a : Int) ≤ m := by omega
  have hcA := fun o => box_alloc hcs o
  have HO := hid ((Own.nil w).alloc w.heap.size #[.int .i64 0, .int .i64 0, .int .i64 0, .int .i64 0, .int .i64 0, .int .i64 0, .int .i64 0, .int .i64 0, .int .i64 0, .int .i64 0] 41 rfl)
  have HMM := hid hM
  clear hM
  obtain ⟨⟨er, ⟨yf, yr, ⟨y0, y1, y2, y3, y4, y5, y6⟩, yn⟩, k⟩, hR⟩ : ∃ R, docD xs (a + 1) (widthF 0) i ⟨5, l + 8 * b, 0, 0, 0, 0, 0⟩ = R := ⟨_, rfl⟩
  rw [hR]
  have HR := hid hR
  clear hR
  go_enter Tryd.func15, Tryd.ntmps15
  go_wp2_with fail
  generalize w.alloc (.cells #[.int .i64 0, .int .i64 0, .int .i64 0, .int .i64 0, .int .i64 0, .int .i64 0, .int .i64 0, .int .i64 0, .int .i64 0, .int .i64 0] 41) = W at *
  have c0 := HO.out.c
  have z0 := HO.out.z
  have f0 := HO.out.f
  refine (rwidth_any _ _).mono ?_
  rintro e w2 ⟨rfl, rfl⟩
  go_wp2_with fail
  refine (rbig_any (l + 8 * b) _).mono ?_
  rintro e w3 ⟨rfl, hb3⟩
  have HO := hid (HO.out.call hb3)
  clear hb3 c0 z0 f0
  have c0 := HO.out.c
  have z0 := HO.out.z
  have f0 := HO.out.f
  go_wp2_with fail
  refine (rdisp_of HR.out (cast_one a) rfl hml hmc (by omega) (by omega) (width_n _) _ ((HMM.out.below HO.out.below).mono HO.out.below.size)).mono ?_
  rintro e w9 ⟨rfl, hb9⟩
  have HO := hid (HO.out.call hb9)
  clear hb9 c0 z0 f0
  have c0 := HO.out.c
  have z0 := HO.out.z
  have f0 := HO.out.f
  have hge : w.heap.size ≤ w.heap.size := Nat.le_refl _
  go_wp2_with (with_reducible change bodyPost _ _ _ Exit.ret _ _; go_loud (refine bodyPost_ret (v := .tuple #[.agg #[.int .i64 yf, .int .i64 yr, .int .i64 y0, .int .i64 y1, .int .i64 y2, .int .i64 y3, .int .i64 y4, .int .i64 y5, .int .i64 y6, .int .i64 k], .int .i64 er]) (by simp [results, Tryd.results15, go_sem, *]) rfl ⟨rfl, ?_⟩))
  all_goals (repeat first | with_reducible exact HO.out.below | with_reducible exact Below.refl _ _ | with_reducible refine below_set2 ?_ hge _ _ | with_reducible refine below_alloc2 ?_ _)
set_option maxHeartbeats 1000000 in
theorem dread_basen (blk off m c a : Nat) (q l b i s : Int) (xs : List Int)  (_hl : 0 ≤ l ∧ l ≤ 7) (hb : 0 ≤ b ∧ b ≤ 1) (hq3 : ¬ q = 3) (hq0 : ¬ q = 0) (h4 : ¬ l = 4) (hs0 : 0 ≤ s ∧ s < 256) (hs : s / 64 = q ∧ s / 8 % 8 = i ∧ s % 8 = l) (w : World) (hcs : w.cell? ⟨blk, off + a, none⟩ = some (.int .u8 s)) (hml : xs.length = m) (hmc : m ≤ c) (ha : a ≤ 10000) (ham : a < m) (hM : Mem w w.heap.size (some ⟨blk, off, none⟩) xs) :
    Calls Tryd.prog 15 #[.slice (some ⟨blk, off, none⟩) m c, .int .i64 a, .int .i64 0, .int .i64 b] w fun e w' => e = .returned (RV (docD xs (a + 1) (widthF q) i ⟨5, l + 8 * b, 0, 0, 0, 0, 0⟩)) ∧ Below w.heap.size w w' := by
  obtain ⟨hs1, hs2, hs3⟩ := hs
  have hb0 : 0 ≤ b := hb.1
  have hb1 : b ≤ 1 := hb.2
  have kb4 : (l == 4) = false := by simp [h4]
  have kq3 : (q != 3) = true := by simp [hq3]
  have kq0 : (q == 0) = false := by simp [hq0]
  have am : ¬ a = m := by omega
  have am2 : (a : Int) < m := by omega
  have am3 : (a : Int) ≤ m := by omega
  have hcA := fun o => box_alloc hcs o
  have HO := hid ((Own.nil w).alloc w.heap.size #[.int .i64 0, .int .i64 0, .int .i64 0, .int .i64 0, .int .i64 0, .int .i64 0, .int .i64 0, .int .i64 0, .int .i64 0, .int .i64 0] 41 rfl)
  have HMM := hid hM
  clear hM
  obtain ⟨⟨er, ⟨yf, yr, ⟨y0, y1, y2, y3, y4, y5, y6⟩, yn⟩, k⟩, hR⟩ : ∃ R, docD xs (a + 1) (widthF q) i ⟨5, l + 8 * b, 0, 0, 0, 0, 0⟩ = R := ⟨_, rfl⟩
  rw [hR]
  have HR := hid hR
  clear hR
  go_enter Tryd.func15, Tryd.ntmps15
  go_wp2_with fail
  generalize w.alloc (.cells #[.int .i64 0, .int .i64 0, .int .i64 0, .int .i64 0, .int .i64 0, .int .i64 0, .int .i64 0, .int .i64 0, .int .i64 0, .int .i64 0] 41) = W at *
  have c0 := HO.out.c
  have z0 := HO.out.z
  have f0 := HO.out.f
  refine (rwidth_any _ _).mono ?_
  rintro e w2 ⟨rfl, rfl⟩
  go_wp2_with fail
  refine (rbig_any (l + 8 * b) _).mono ?_
  rintro e w3 ⟨rfl, hb3⟩
  have HO := hid (HO.out.call hb3)
  clear hb3 c0 z0 f0
  have c0 := HO.out.c
  have z0 := HO.out.z
  have f0 := HO.out.f
  go_wp2_with fail
  refine (rdisp_of HR.out (cast_one a) rfl hml hmc (by omega) (by omega) (width_n _) _ ((HMM.out.below HO.out.below).mono HO.out.below.size)).mono ?_
  rintro e w9 ⟨rfl, hb9⟩
  have HO := hid (HO.out.call hb9)
  clear hb9 c0 z0 f0
  have c0 := HO.out.c
  have z0 := HO.out.z
  have f0 := HO.out.f
  have hge : w.heap.size ≤ w.heap.size := Nat.le_refl _
  go_wp2_with (with_reducible change bodyPost _ _ _ Exit.ret _ _; go_loud (refine bodyPost_ret (v := .tuple #[.agg #[.int .i64 yf, .int .i64 yr, .int .i64 y0, .int .i64 y1, .int .i64 y2, .int .i64 y3, .int .i64 y4, .int .i64 y5, .int .i64 y6, .int .i64 k], .int .i64 er]) (by simp [results, Tryd.results15, go_sem, *]) rfl ⟨rfl, ?_⟩))
  all_goals (repeat first | with_reducible exact HO.out.below | with_reducible exact Below.refl _ _ | with_reducible refine below_set2 ?_ hge _ _ | with_reducible refine below_alloc2 ?_ _)
end Go.Proofs.YtiiepdgpnnjpiaaDoor
