/-
  Read: a place's prefix, REX, both; the program's and the document's.
-/
import Derived.Test.YtgioggpehlhbfaaRxPlaces
import Derived.Test.YtgioggpehlhbfaaOld
namespace Go.Proofs.Ytgioggpehlhbfaa
open Go.RowKit
set_option maxRecDepth 100000

/-- The prefix of a place whose byte z is; 0 if none is. -/
def lookF (z : Int) : List Int → List Int → Int
  | p :: ps, b :: bs => if b = z then p else lookF z ps bs
  | _, _ => 0
theorem lookF_drop (z : Int) (ps bs : List Int) (k : Nat) (h1 : k < ps.length) (h2 : k < bs.length) : lookF z (ps.drop k) (bs.drop k) = if bs[k]?.getD 0 = z then ps[k]?.getD 0 else lookF z (ps.drop (k + 1)) (bs.drop (k + 1)) := by
  rw [List.drop_eq_getElem_cons h1, List.drop_eq_getElem_cons h2]
  simp [lookF, h1, h2]
set_option maxHeartbeats 1000000 in
theorem pread_no (A : Option Addr) (c : Nat) (a b n : Nat) (w : World) :
    Calls Try.prog 28 #[.agg #[SL a n, SL b n], .slice A 0 c] w fun e w' => e = .returned (.int .i64 0) ∧ Below w.heap.size w w' := by
  go_enter Try.func28, Try.ntmps28
  go_wp2
  go_ret
  exact ⟨rfl, by go_grown⟩
set_option maxHeartbeats 1000000 in
theorem pread_yes (a b n : Nat) (ps bs : List Int) (hp : ps.length = n) (hbn : bs.length = n) (hn : n ≤ 2) (q off m c : Nat) (z : Int) (hm : 0 < m) (w : World) (B : Nat) (hB : B ≤ w.heap.size)
    (ha : Nums w B a ps) (hb : Mem w B (some ⟨b, 0, none⟩) bs) (hz : w.cell? ⟨q, off, none⟩ = some (.int .u8 z)) (hq : q < w.heap.size) :
    Calls Try.prog 28 #[.agg #[SL a n, SL b n], .slice (some ⟨q, off, none⟩) m c] w fun e w' => e = .returned (.int .i64 (lookF z ps bs)) ∧ Below w.heap.size w w' := by
  have HBL := hid (((Below.refl w.heap.size w).alloc (Nat.le_refl _) (.cells #[SL a n, SL b n] 43)))
  have HA := hid (ha.below (HBL.out.mono hB))
  have HM := hid (hb.below (HBL.out.mono hB))
  have hc := (HBL.out.cell (p := ⟨q, off, none⟩) hq).trans hz
  have hm2 : (0 : Int) < m := by omega
  have HP := hid hp
  have HBN := hid hbn
  have hn3 : (n : Int) ≤ 2 := by omega
  clear ha hb hz hq hB hp hbn
  go_enter Try.func28, Try.ntmps28
  go_wp2
  go_loop [13] (fun i => ∃ k : Nat, k ≤ n ∧ i = .int .i64 k ∧ Hid (lookF z (ps.drop k) (bs.drop k) = lookF z ps bs)) (fun i => n - (intOf i).toNat)
  case atStart => exact ⟨0, by omega, rfl, hid rfl⟩
  case round =>
    obtain ⟨k, hk, rfl, HE⟩ := hrel
    by_cases hkn : k < n
    · have hz : (k : Int) < n := by omega
      have cp := HA.out.2 k (by rw [HP.out]; exact hkn)
      have cb := (HM.out.at (k := k) (by rw [HBN.out]; exact hkn)).2
      have hr := (HM.out.1).getD k
      have HS := hid (lookF_drop z ps bs k (by rw [HP.out]; exact hkn) (by rw [HBN.out]; exact hkn))
      generalize ps[k]?.getD 0 = p at cp HS
      generalize bs[k]?.getD 0 = y at cb HS hr
      by_cases hq : y = z
      · have HQ := hid hq
        have hq2 : (y == z) = true := by simp [hq]
        clear hq
        go_wp2
        go_ret
        exact ⟨ret_i (by rw [← HE.out, HS.out, if_pos HQ.out]), HBL.out⟩
      · have HQ := hid hq
        have hq2 : (y == z) = false := by simp [hq]
        clear hq
        go_wp2
        go_round
        case rel => exact ⟨k + 1, by omega, by go_num, hid (by rw [← HE.out, HS.out, if_neg HQ.out])⟩
        case measure => simp [intOf]; omega
    · have hk' : k = n := by omega
      have HZ := hid (show lookF z ps bs = 0 by rw [← HE.out, hk', List.drop_eq_nil_iff.2 (by rw [HP.out]; omega)]; rfl)
      clear hk'
      go_wp2
      go_ret
      exact ⟨ret_i HZ.out.symm, HBL.out⟩
/-- The REX that bytes begin with: by the first one. -/
def rexZ (z : Int) : Int := if 64 ≤ z ∧ z ≤ 79 then z - 64 else -1
theorem read_no (A : Option Addr) (c : Nat) (w : World) :
    Calls Try.prog 29 #[.slice A 0 c] w fun e w' => e = .returned (.int .i64 (-1)) ∧ w = w' := by
  go_enter Try.func29, Try.ntmps29
  go_wp2
  go_ret
  exact ⟨rfl, rfl⟩
theorem read_yes (q off m c : Nat) (z : Int) (hm : 0 < m) (w : World) (hz : w.cell? ⟨q, off, none⟩ = some (.int .u8 z)) (hz2 : 0 ≤ z ∧ z < 256) :
    Calls Try.prog 29 #[.slice (some ⟨q, off, none⟩) m c] w fun e w' => e = .returned (.int .i64 (rexZ z)) ∧ w = w' := by
  have hm2 : (0 : Int) < m := by omega
  cases h : isF (z - 64)
  · have HI := hid h
    have H := hid (show rexZ z = -1 by unfold rexZ; have := isF_no h; rw [if_neg (by omega)])
    clear h
    go_enter Try.func29, Try.ntmps29
    go_wp2_with (go_at_call 24; refine (is_of HI.out _).mono ?_; rintro e w1 ⟨rfl, rfl⟩)
    go_ret
    exact ⟨ret_i H.out.symm, rfl⟩
  · have HI := hid h
    have H := hid (show rexZ z = z - 64 by unfold rexZ; have := isF_yes h; rw [if_pos (by omega)])
    clear h
    go_enter Try.func29, Try.ntmps29
    go_wp2_with (go_at_call 24; refine (is_of HI.out _).mono ?_; rintro e w1 ⟨rfl, rfl⟩)
    go_ret
    exact ⟨ret_i H.out.symm, rfl⟩
/-! ### what bytes begin with -/
def at_ (zs : List Int) (k : Nat) : Int := zs[k]?.getD (-1)
def two (z : Int) : Int := if z = 242 then 2 else if z = 243 then 4 else 0
def k1 (zs : List Int) : Nat := if at_ zs 0 = 102 then 1 else 0
def k2 (zs : List Int) : Nat := if two (at_ zs (k1 zs)) = 0 then k1 zs else k1 zs + 1
/-- Which prefixes; which REX; how many bytes. -/
def rdP (zs : List Int) : Int := (k1 zs : Int) + two (at_ zs (k1 zs))
def rdR (zs : List Int) : Int := rexZ (at_ zs (k2 zs))
def rdN (zs : List Int) : Nat := if rdR zs = -1 then k2 zs else k2 zs + 1
theorem ret3 {a b c a' b' c' : Int} (h1 : a = a') (h2 : b = b') (h3 : c = c') : Ending.returned (.tuple #[.int .i64 a, .int .i64 b, .int .i64 c]) = .returned (.tuple #[.int .i64 a', .int .i64 b', .int .i64 c']) := by rw [h1, h2, h3]
set_option maxHeartbeats 1000000 in
theorem rread_0 (A : Option Addr) (c : Nat) (w : World) :
    Calls Try.prog 18 #[.slice A 0 c] w fun e w' => e = .returned (.tuple #[.int .i64 (rdP []), .int .i64 (rdR []), .int .i64 (rdN [])]) ∧ w = w' := by
  go_enter Try.func18, Try.ntmps18
  go_wp2
  go_ret3
  exact ⟨rfl, rfl⟩
set_option maxHeartbeats 2000000 in
theorem rread_1 (q off c : Nat) (x : Int) (w : World) (h0 : w.cell? ⟨q, off, none⟩ = some (.int .u8 x)) (hx : 0 ≤ x ∧ x < 256) :
    Calls Try.prog 18 #[.slice (some ⟨q, off, none⟩) 1 c] w fun e w' => e = .returned (.tuple #[.int .i64 (rdP ([x])), .int .i64 (rdR ([x])), .int .i64 (rdN ([x]))]) ∧ w = w' := by
  go_enter Try.func18, Try.ntmps18
  go_wp2
  all_goals (go_ret3; refine ⟨ret3 ?_ ?_ ?_, rfl⟩)
  all_goals
    clear h0
    try simp only [beq_iff_eq, beq_eq_false_iff_ne, ne_eq] at *
  all_goals
    simp [rdP, rdR, rdN, at_, two, k1, k2, rexZ, *]
  all_goals (repeat' split)
  all_goals first | omega | (simp_all; done) | (simp_all; omega)
set_option maxHeartbeats 2000000 in
theorem rread_2 (q off c : Nat) (x y : Int) (w : World) (h0 : w.cell? ⟨q, off, none⟩ = some (.int .u8 x)) (h1 : w.cell? ⟨q, off + 1, none⟩ = some (.int .u8 y)) (hx : 0 ≤ x ∧ x < 256) (hy : 0 ≤ y ∧ y < 256) :
    Calls Try.prog 18 #[.slice (some ⟨q, off, none⟩) 2 c] w fun e w' => e = .returned (.tuple #[.int .i64 (rdP ([x, y])), .int .i64 (rdR ([x, y])), .int .i64 (rdN ([x, y]))]) ∧ w = w' := by
  go_enter Try.func18, Try.ntmps18
  go_wp2
  all_goals (go_ret3; refine ⟨ret3 ?_ ?_ ?_, rfl⟩)
  all_goals
    clear h0 h1
    try simp only [beq_iff_eq, beq_eq_false_iff_ne, ne_eq] at *
  all_goals
    simp [rdP, rdR, rdN, at_, two, k1, k2, rexZ, *]
  all_goals (repeat' split)
  all_goals first | omega | (simp_all; done) | (simp_all; omega)
set_option maxHeartbeats 2000000 in
theorem rread_3 (q off c : Nat) (x y z : Int) (r : List Int) (w : World) (h0 : w.cell? ⟨q, off, none⟩ = some (.int .u8 x)) (h1 : w.cell? ⟨q, off + 1, none⟩ = some (.int .u8 y)) (h2 : w.cell? ⟨q, off + 2, none⟩ = some (.int .u8 z)) (hx : 0 ≤ x ∧ x < 256) (hy : 0 ≤ y ∧ y < 256) (hz : 0 ≤ z ∧ z < 256) :
    Calls Try.prog 18 #[.slice (some ⟨q, off, none⟩) (r.length + 3) c] w fun e w' => e = .returned (.tuple #[.int .i64 (rdP (x :: y :: z :: r)), .int .i64 (rdR (x :: y :: z :: r)), .int .i64 (rdN (x :: y :: z :: r))]) ∧ w = w' := by
  go_enter Try.func18, Try.ntmps18
  go_wp2
  all_goals (go_ret3; refine ⟨ret3 ?_ ?_ ?_, rfl⟩)
  all_goals
    clear h0 h1 h2
    try simp only [beq_iff_eq, beq_eq_false_iff_ne, ne_eq] at *
  all_goals
    simp [rdP, rdR, rdN, at_, two, k1, k2, rexZ, *]
  all_goals (repeat' split)
  all_goals first | omega | (simp_all; done) | (simp_all; omega)
end Go.Proofs.Ytgioggpehlhbfaa
