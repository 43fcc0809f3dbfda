/-
  Law 10: RexBack, case by case (classes of a first byte).
-/
import Derived.Test.YtgioggpehlhbfaaRxBackA
namespace Go.Proofs.Ytgioggpehlhbfaa
open Go.RowKit
set_option maxRecDepth 100000

set_option maxHeartbeats 1000000 in
theorem bk_a0 (pre n : Int) (q off : Nat) (c N : Nat) (zs ls : List Int) (y : Int) (p r : Int) (k : Nat) (w : World) (hb : ((N : Int) == 0) = false) (hpos : (0 : Int) < N) (hq : q < w.heap.size) (hcy : w.cell? ⟨q, off, none⟩ = some (.int .u8 y)) (h0 : (y != 102) = false) (g0 : n < 0)
    (HX : Hid (Mem w w.heap.size (some ⟨q, off, none⟩) zs)) (_ : Hid (zs.length = N)) (hl2 : (N : Int) ≤ 20) (HZ : Hid (layE pre n = 0)) (HLS : Hid (layB pre n = ls ∧ ls.length ≤ 1000))
    (HRL : Hid (layE p r = 0 ∧ layB p r = zs.take k ∧ k ≤ 3 ∧ k ≤ zs.length)) (hk3 : (k : Int) ≤ 3 ∧ (k : Int) ≤ N ∧ (0 : Int) ≤ k) (hc2 : (N : Int) ≤ c ∧ (c : Int) ≤ 9223372036854775807) (HRead : Hid (∀ W : World, Mem W W.heap.size (some ⟨q, off, none⟩) zs → Calls Try.prog 17 #[.slice (some ⟨q, off, none⟩) N c] W fun e w' => e = .returned (.tuple #[.int .i64 p, .int .i64 r, .int .i64 k]) ∧ Below W.heap.size W w')) :
    Calls Try.prog 6 #[.int .i64 pre, .int .i64 n, .slice (some ⟨q, off, none⟩) N c] w fun e w' => e = .returned (.bool true) ∧ Below w.heap.size w w' := by
  have HCY := hid hcy
  clear hcy
  go_enter Try.func6, Try.ntmps6
  go_wp2_with (first
    | (go_at_call 5; refine (known_law _).mono ?_; rintro e w1 ⟨rfl, hb1⟩; have HB1 := hid hb1; clear hb1)
    | (go_at_call 7; refine (xlay_of HZ.out HLS.out.1 _).mono ?_; rintro e w2 ⟨A2, c2, rfl, hb2, hr2, hm2, _, _⟩; have HB2 := hid (HB1.out.trans (hb2.mono HB1.out.size)); have HM2 := hid hm2; clear hb2 hr2 hm2; have HXW := hid (HX.out.below HB2.out); have hc := (HB2.out.cell (p := ⟨q, off, none⟩) hq).trans HCY.out)
    | (go_at_call 11; refine (bits_any _ _).mono ?_; rintro e w5 ⟨rfl, rfl⟩)
    | (go_at_call 17; refine (HRead.out _ ((HX.out.below HB2.out).mono HB2.out.size)).mono ?_; rintro e w8 ⟨rfl, hb8⟩; have HB8 := hid (HB2.out.trans (hb8.mono HB2.out.size)); clear hb8)
    | (go_at_call 20; refine (lays_yes p r (zs.take k) HRL.out.1 HRL.out.2.1 _ k c (take_len HRL.out.2.2.2) _ (((HX.out.below HB8.out).mono HB8.out.size).take k)).mono ?_; rintro e w9 ⟨rfl, hb9⟩; have HB9 := hid (HB8.out.trans (hb9.mono HB8.out.size)); clear hb9))
  go_ret
  exact ⟨rfl, HB9.out⟩
set_option maxHeartbeats 1000000 in
theorem bk_a1 (pre n : Int) (q off : Nat) (c N : Nat) (zs ls : List Int) (y : Int) (p r : Int) (k : Nat) (w : World) (hb : ((N : Int) == 0) = false) (hpos : (0 : Int) < N) (hq : q < w.heap.size) (hcy : w.cell? ⟨q, off, none⟩ = some (.int .u8 y)) (h0 : (y != 102) = false) (g0 : 0 ≤ n) (g1 : n ≤ 15)
    (HX : Hid (Mem w w.heap.size (some ⟨q, off, none⟩) zs)) (HN : Hid (zs.length = N)) (hl2 : (N : Int) ≤ 20) (HZ : Hid (layE pre n = 0)) (HLS : Hid (layB pre n = ls ∧ ls.length ≤ 1000)) (HR : Hid (rexF (bW n) (bR n) (bX n) (bB n) = n)) (HBP : Hid (rdP (ls ++ zs) = pre ∧ rdR (ls ++ zs) = n ∧ rdN (ls ++ zs) = ls.length))
    (HRL : Hid (layE p r = 0 ∧ layB p r = zs.take k ∧ k ≤ 3 ∧ k ≤ zs.length)) (hk3 : (k : Int) ≤ 3 ∧ (k : Int) ≤ N ∧ (0 : Int) ≤ k) (hc2 : (N : Int) ≤ c ∧ (c : Int) ≤ 9223372036854775807) (HRead : Hid (∀ W : World, Mem W W.heap.size (some ⟨q, off, none⟩) zs → Calls Try.prog 17 #[.slice (some ⟨q, off, none⟩) N c] W fun e w' => e = .returned (.tuple #[.int .i64 p, .int .i64 r, .int .i64 k]) ∧ Below W.heap.size W w')) :
    Calls Try.prog 6 #[.int .i64 pre, .int .i64 n, .slice (some ⟨q, off, none⟩) N c] w fun e w' => e = .returned (.bool true) ∧ Below w.heap.size w w' := by
  have HCY := hid hcy
  clear hcy
  go_enter Try.func6, Try.ntmps6
  go_wp2_with (first
    | (go_at_call 5; refine (known_law _).mono ?_; rintro e w1 ⟨rfl, hb1⟩; have HB1 := hid hb1; clear hb1)
    | (go_at_call 7; refine (xlay_of HZ.out HLS.out.1 _).mono ?_; rintro e w2 ⟨A2, c2, rfl, hb2, hr2, hm2, _, _⟩; have HB2 := hid (HB1.out.trans (hb2.mono HB1.out.size)); have HM2 := hid hm2; clear hb2 hr2 hm2; have HXW := hid (HX.out.below HB2.out); have hc := (HB2.out.cell (p := ⟨q, off, none⟩) hq).trans HCY.out)
    | (go_at_call 11; refine (bits_any _ _).mono ?_; rintro e w5 ⟨rfl, rfl⟩)
    | (go_at_call 13; refine (rex_of HR.out _).mono ?_; rintro e w5 ⟨rfl, rfl⟩)
    | (go_at_call 22; refine (copyb_any A2 c2 ls _ _ HM2.out (by have := HLS.out.2; omega) (Nat.le_refl _)).mono ?_; rintro e w5 ⟨v5, rfl, hb5, ho5⟩; have HB5 := hid (HB2.out.trans (hb5.mono HB2.out.size)); have HO5 := hid ho5; clear hb5 ho5)
    | (at_builtin; refine wpList_append_bytes_w rfl _ _ rfl w.heap.size v5 ls.length ls rfl (own_down HO5.out HB2.out.size) (some ⟨q, off, none⟩) N c w.heap.size zs HN.out rfl (HX.out.below HB5.out) (by have := HLS.out.2; omega) HB5.out.size ?_; intro v6 w6 ho6 hg6; obtain ⟨A6, c6, rfl, hm6, hl6, hc6, hd6⟩ := own_full ho6.out (HM2.out.1.append HX.out.1); have HM6 := hid (And.intro hm6 (And.intro hl6 (And.intro hc6 hd6))); have HB6 := hid (HB5.out.grown hg6 HB5.out.size (own_from (own_down HO5.out HB2.out.size))); clear ho6 hg6 hm6 hl6 hc6 hd6)
    | (go_at_call 21; refine (reads_yes A6 (ls.length + N) c6 (ls ++ zs) pre n ls.length HBP.out.1 HBP.out.2.1 HBP.out.2.2 HM6.out.2.1 HM6.out.2.2.1 HM6.out.2.2.2 _ HM6.out.1).mono ?_; rintro e w7 ⟨rfl, hb7⟩; have HB7 := hid (HB6.out.trans (hb7.mono HB6.out.size)); clear hb7)
    | (go_at_call 17; refine (HRead.out _ ((HX.out.below HB7.out).mono HB7.out.size)).mono ?_; rintro e w8 ⟨rfl, hb8⟩; have HB8 := hid (HB7.out.trans (hb8.mono HB7.out.size)); clear hb8)
    | (go_at_call 20; refine (lays_yes p r (zs.take k) HRL.out.1 HRL.out.2.1 _ k c (take_len HRL.out.2.2.2) _ (((HX.out.below HB8.out).mono HB8.out.size).take k)).mono ?_; rintro e w9 ⟨rfl, hb9⟩; have HB9 := hid (HB8.out.trans (hb9.mono HB8.out.size)); clear hb9))
  go_ret
  exact ⟨rfl, HB9.out⟩
set_option maxHeartbeats 1000000 in
theorem bk_a2 (pre n : Int) (q off : Nat) (c N : Nat) (zs ls : List Int) (y : Int) (p r : Int) (k : Nat) (w : World) (z : Int) (hz : (z == 0) = false) (hb : ((N : Int) == 0) = false) (hpos : (0 : Int) < N) (hq : q < w.heap.size) (hcy : w.cell? ⟨q, off, none⟩ = some (.int .u8 y)) (h0 : (y != 102) = false) (g0 : n < 0)
    (HX : Hid (Mem w w.heap.size (some ⟨q, off, none⟩) zs)) (_ : Hid (zs.length = N)) (hl2 : (N : Int) ≤ 20) (HZ : Hid (layE pre n = z)) (HLS : Hid (layB pre n = ls ∧ ls.length ≤ 1000))
    (HRL : Hid (layE p r = 0 ∧ layB p r = zs.take k ∧ k ≤ 3 ∧ k ≤ zs.length)) (hk3 : (k : Int) ≤ 3 ∧ (k : Int) ≤ N ∧ (0 : Int) ≤ k) (hc2 : (N : Int) ≤ c ∧ (c : Int) ≤ 9223372036854775807) (HRead : Hid (∀ W : World, Mem W W.heap.size (some ⟨q, off, none⟩) zs → Calls Try.prog 17 #[.slice (some ⟨q, off, none⟩) N c] W fun e w' => e = .returned (.tuple #[.int .i64 p, .int .i64 r, .int .i64 k]) ∧ Below W.heap.size W w')) :
    Calls Try.prog 6 #[.int .i64 pre, .int .i64 n, .slice (some ⟨q, off, none⟩) N c] w fun e w' => e = .returned (.bool true) ∧ Below w.heap.size w w' := by
  have HCY := hid hcy
  clear hcy
  go_enter Try.func6, Try.ntmps6
  go_wp2_with (first
    | (go_at_call 5; refine (known_law _).mono ?_; rintro e w1 ⟨rfl, hb1⟩; have HB1 := hid hb1; clear hb1)
    | (go_at_call 7; refine (xlay_of HZ.out HLS.out.1 _).mono ?_; rintro e w2 ⟨A2, c2, rfl, hb2, hr2, hm2, _, _⟩; have HB2 := hid (HB1.out.trans (hb2.mono HB1.out.size)); have HM2 := hid hm2; clear hb2 hr2 hm2; have HXW := hid (HX.out.below HB2.out); have hc := (HB2.out.cell (p := ⟨q, off, none⟩) hq).trans HCY.out)
    | (go_at_call 11; refine (bits_any _ _).mono ?_; rintro e w5 ⟨rfl, rfl⟩)
    | (go_at_call 17; refine (HRead.out _ ((HX.out.below HB2.out).mono HB2.out.size)).mono ?_; rintro e w8 ⟨rfl, hb8⟩; have HB8 := hid (HB2.out.trans (hb8.mono HB2.out.size)); clear hb8)
    | (go_at_call 20; refine (lays_yes p r (zs.take k) HRL.out.1 HRL.out.2.1 _ k c (take_len HRL.out.2.2.2) _ (((HX.out.below HB8.out).mono HB8.out.size).take k)).mono ?_; rintro e w9 ⟨rfl, hb9⟩; have HB9 := hid (HB8.out.trans (hb9.mono HB8.out.size)); clear hb9))
  go_ret
  exact ⟨rfl, HB9.out⟩
set_option maxHeartbeats 1000000 in
theorem bk_a3 (pre n : Int) (q off : Nat) (c N : Nat) (zs ls : List Int) (y : Int) (p r : Int) (k : Nat) (w : World) (z : Int) (hz : (z == 0) = false) (hb : ((N : Int) == 0) = false) (hpos : (0 : Int) < N) (hq : q < w.heap.size) (hcy : w.cell? ⟨q, off, none⟩ = some (.int .u8 y)) (h0 : (y != 102) = false) (g0 : 0 ≤ n) (g1 : n ≤ 15)
    (HX : Hid (Mem w w.heap.size (some ⟨q, off, none⟩) zs)) (_ : Hid (zs.length = N)) (hl2 : (N : Int) ≤ 20) (HZ : Hid (layE pre n = z)) (HLS : Hid (layB pre n = ls ∧ ls.length ≤ 1000)) (HR : Hid (rexF (bW n) (bR n) (bX n) (bB n) = n))
    (HRL : Hid (layE p r = 0 ∧ layB p r = zs.take k ∧ k ≤ 3 ∧ k ≤ zs.length)) (hk3 : (k : Int) ≤ 3 ∧ (k : Int) ≤ N ∧ (0 : Int) ≤ k) (hc2 : (N : Int) ≤ c ∧ (c : Int) ≤ 9223372036854775807) (HRead : Hid (∀ W : World, Mem W W.heap.size (some ⟨q, off, none⟩) zs → Calls Try.prog 17 #[.slice (some ⟨q, off, none⟩) N c] W fun e w' => e = .returned (.tuple #[.int .i64 p, .int .i64 r, .int .i64 k]) ∧ Below W.heap.size W w')) :
    Calls Try.prog 6 #[.int .i64 pre, .int .i64 n, .slice (some ⟨q, off, none⟩) N c] w fun e w' => e = .returned (.bool true) ∧ Below w.heap.size w w' := by
  have HCY := hid hcy
  clear hcy
  go_enter Try.func6, Try.ntmps6
  go_wp2_with (first
    | (go_at_call 5; refine (known_law _).mono ?_; rintro e w1 ⟨rfl, hb1⟩; have HB1 := hid hb1; clear hb1)
    | (go_at_call 7; refine (xlay_of HZ.out HLS.out.1 _).mono ?_; rintro e w2 ⟨A2, c2, rfl, hb2, hr2, hm2, _, _⟩; have HB2 := hid (HB1.out.trans (hb2.mono HB1.out.size)); have HM2 := hid hm2; clear hb2 hr2 hm2; have HXW := hid (HX.out.below HB2.out); have hc := (HB2.out.cell (p := ⟨q, off, none⟩) hq).trans HCY.out)
    | (go_at_call 11; refine (bits_any _ _).mono ?_; rintro e w5 ⟨rfl, rfl⟩)
    | (go_at_call 13; refine (rex_of HR.out _).mono ?_; rintro e w5 ⟨rfl, rfl⟩)
    | (go_at_call 17; refine (HRead.out _ ((HX.out.below HB2.out).mono HB2.out.size)).mono ?_; rintro e w8 ⟨rfl, hb8⟩; have HB8 := hid (HB2.out.trans (hb8.mono HB2.out.size)); clear hb8)
    | (go_at_call 20; refine (lays_yes p r (zs.take k) HRL.out.1 HRL.out.2.1 _ k c (take_len HRL.out.2.2.2) _ (((HX.out.below HB8.out).mono HB8.out.size).take k)).mono ?_; rintro e w9 ⟨rfl, hb9⟩; have HB9 := hid (HB8.out.trans (hb9.mono HB8.out.size)); clear hb9))
  go_ret
  exact ⟨rfl, HB9.out⟩
set_option maxHeartbeats 1000000 in
theorem bk_a4 (pre n : Int) (q off : Nat) (c N : Nat) (zs ls : List Int) (y : Int) (p r : Int) (k : Nat) (w : World) (z : Int) (hz : (z == 0) = false) (hb : ((N : Int) == 0) = false) (hpos : (0 : Int) < N) (hq : q < w.heap.size) (hcy : w.cell? ⟨q, off, none⟩ = some (.int .u8 y)) (h0 : (y != 102) = false) (g0 : 15 < n)
    (HX : Hid (Mem w w.heap.size (some ⟨q, off, none⟩) zs)) (_ : Hid (zs.length = N)) (hl2 : (N : Int) ≤ 20) (HZ : Hid (layE pre n = z)) (HLS : Hid (layB pre n = ls ∧ ls.length ≤ 1000))
    (HRL : Hid (layE p r = 0 ∧ layB p r = zs.take k ∧ k ≤ 3 ∧ k ≤ zs.length)) (hk3 : (k : Int) ≤ 3 ∧ (k : Int) ≤ N ∧ (0 : Int) ≤ k) (hc2 : (N : Int) ≤ c ∧ (c : Int) ≤ 9223372036854775807) (HRead : Hid (∀ W : World, Mem W W.heap.size (some ⟨q, off, none⟩) zs → Calls Try.prog 17 #[.slice (some ⟨q, off, none⟩) N c] W fun e w' => e = .returned (.tuple #[.int .i64 p, .int .i64 r, .int .i64 k]) ∧ Below W.heap.size W w')) :
    Calls Try.prog 6 #[.int .i64 pre, .int .i64 n, .slice (some ⟨q, off, none⟩) N c] w fun e w' => e = .returned (.bool true) ∧ Below w.heap.size w w' := by
  have HCY := hid hcy
  clear hcy
  go_enter Try.func6, Try.ntmps6
  go_wp2_with (first
    | (go_at_call 5; refine (known_law _).mono ?_; rintro e w1 ⟨rfl, hb1⟩; have HB1 := hid hb1; clear hb1)
    | (go_at_call 7; refine (xlay_of HZ.out HLS.out.1 _).mono ?_; rintro e w2 ⟨A2, c2, rfl, hb2, hr2, hm2, _, _⟩; have HB2 := hid (HB1.out.trans (hb2.mono HB1.out.size)); have HM2 := hid hm2; clear hb2 hr2 hm2; have HXW := hid (HX.out.below HB2.out); have hc := (HB2.out.cell (p := ⟨q, off, none⟩) hq).trans HCY.out)
    | (go_at_call 11; refine (bits_any _ _).mono ?_; rintro e w5 ⟨rfl, rfl⟩)
    | (go_at_call 17; refine (HRead.out _ ((HX.out.below HB2.out).mono HB2.out.size)).mono ?_; rintro e w8 ⟨rfl, hb8⟩; have HB8 := hid (HB2.out.trans (hb8.mono HB2.out.size)); clear hb8)
    | (go_at_call 20; refine (lays_yes p r (zs.take k) HRL.out.1 HRL.out.2.1 _ k c (take_len HRL.out.2.2.2) _ (((HX.out.below HB8.out).mono HB8.out.size).take k)).mono ?_; rintro e w9 ⟨rfl, hb9⟩; have HB9 := hid (HB8.out.trans (hb9.mono HB8.out.size)); clear hb9))
  go_ret
  exact ⟨rfl, HB9.out⟩
set_option maxHeartbeats 1000000 in
theorem bk_b0 (pre n : Int) (q off : Nat) (c N : Nat) (zs ls : List Int) (y : Int) (p r : Int) (k : Nat) (w : World) (hb : ((N : Int) == 0) = false) (hpos : (0 : Int) < N) (hq : q < w.heap.size) (hcy : w.cell? ⟨q, off, none⟩ = some (.int .u8 y)) (h0 : (y != 102) = true) (h1 : (y != 242) = false) (g0 : n < 0)
    (HX : Hid (Mem w w.heap.size (some ⟨q, off, none⟩) zs)) (_ : Hid (zs.length = N)) (hl2 : (N : Int) ≤ 20) (HZ : Hid (layE pre n = 0)) (HLS : Hid (layB pre n = ls ∧ ls.length ≤ 1000))
    (HRL : Hid (layE p r = 0 ∧ layB p r = zs.take k ∧ k ≤ 3 ∧ k ≤ zs.length)) (hk3 : (k : Int) ≤ 3 ∧ (k : Int) ≤ N ∧ (0 : Int) ≤ k) (hc2 : (N : Int) ≤ c ∧ (c : Int) ≤ 9223372036854775807) (HRead : Hid (∀ W : World, Mem W W.heap.size (some ⟨q, off, none⟩) zs → Calls Try.prog 17 #[.slice (some ⟨q, off, none⟩) N c] W fun e w' => e = .returned (.tuple #[.int .i64 p, .int .i64 r, .int .i64 k]) ∧ Below W.heap.size W w')) :
    Calls Try.prog 6 #[.int .i64 pre, .int .i64 n, .slice (some ⟨q, off, none⟩) N c] w fun e w' => e = .returned (.bool true) ∧ Below w.heap.size w w' := by
  have HCY := hid hcy
  clear hcy
  go_enter Try.func6, Try.ntmps6
  go_wp2_with (first
    | (go_at_call 5; refine (known_law _).mono ?_; rintro e w1 ⟨rfl, hb1⟩; have HB1 := hid hb1; clear hb1)
    | (go_at_call 7; refine (xlay_of HZ.out HLS.out.1 _).mono ?_; rintro e w2 ⟨A2, c2, rfl, hb2, hr2, hm2, _, _⟩; have HB2 := hid (HB1.out.trans (hb2.mono HB1.out.size)); have HM2 := hid hm2; clear hb2 hr2 hm2; have HXW := hid (HX.out.below HB2.out); have hc := (HB2.out.cell (p := ⟨q, off, none⟩) hq).trans HCY.out)
    | (go_at_call 11; refine (bits_any _ _).mono ?_; rintro e w5 ⟨rfl, rfl⟩)
    | (go_at_call 17; refine (HRead.out _ ((HX.out.below HB2.out).mono HB2.out.size)).mono ?_; rintro e w8 ⟨rfl, hb8⟩; have HB8 := hid (HB2.out.trans (hb8.mono HB2.out.size)); clear hb8)
    | (go_at_call 20; refine (lays_yes p r (zs.take k) HRL.out.1 HRL.out.2.1 _ k c (take_len HRL.out.2.2.2) _ (((HX.out.below HB8.out).mono HB8.out.size).take k)).mono ?_; rintro e w9 ⟨rfl, hb9⟩; have HB9 := hid (HB8.out.trans (hb9.mono HB8.out.size)); clear hb9))
  go_ret
  exact ⟨rfl, HB9.out⟩
set_option maxHeartbeats 1000000 in
theorem bk_b1 (pre n : Int) (q off : Nat) (c N : Nat) (zs ls : List Int) (y : Int) (p r : Int) (k : Nat) (w : World) (hb : ((N : Int) == 0) = false) (hpos : (0 : Int) < N) (hq : q < w.heap.size) (hcy : w.cell? ⟨q, off, none⟩ = some (.int .u8 y)) (h0 : (y != 102) = true) (h1 : (y != 242) = false) (g0 : 0 ≤ n) (g1 : n ≤ 15)
    (HX : Hid (Mem w w.heap.size (some ⟨q, off, none⟩) zs)) (HN : Hid (zs.length = N)) (hl2 : (N : Int) ≤ 20) (HZ : Hid (layE pre n = 0)) (HLS : Hid (layB pre n = ls ∧ ls.length ≤ 1000)) (HR : Hid (rexF (bW n) (bR n) (bX n) (bB n) = n)) (HBP : Hid (rdP (ls ++ zs) = pre ∧ rdR (ls ++ zs) = n ∧ rdN (ls ++ zs) = ls.length))
    (HRL : Hid (layE p r = 0 ∧ layB p r = zs.take k ∧ k ≤ 3 ∧ k ≤ zs.length)) (hk3 : (k : Int) ≤ 3 ∧ (k : Int) ≤ N ∧ (0 : Int) ≤ k) (hc2 : (N : Int) ≤ c ∧ (c : Int) ≤ 9223372036854775807) (HRead : Hid (∀ W : World, Mem W W.heap.size (some ⟨q, off, none⟩) zs → Calls Try.prog 17 #[.slice (some ⟨q, off, none⟩) N c] W fun e w' => e = .returned (.tuple #[.int .i64 p, .int .i64 r, .int .i64 k]) ∧ Below W.heap.size W w')) :
    Calls Try.prog 6 #[.int .i64 pre, .int .i64 n, .slice (some ⟨q, off, none⟩) N c] w fun e w' => e = .returned (.bool true) ∧ Below w.heap.size w w' := by
  have HCY := hid hcy
  clear hcy
  go_enter Try.func6, Try.ntmps6
  go_wp2_with (first
    | (go_at_call 5; refine (known_law _).mono ?_; rintro e w1 ⟨rfl, hb1⟩; have HB1 := hid hb1; clear hb1)
    | (go_at_call 7; refine (xlay_of HZ.out HLS.out.1 _).mono ?_; rintro e w2 ⟨A2, c2, rfl, hb2, hr2, hm2, _, _⟩; have HB2 := hid (HB1.out.trans (hb2.mono HB1.out.size)); have HM2 := hid hm2; clear hb2 hr2 hm2; have HXW := hid (HX.out.below HB2.out); have hc := (HB2.out.cell (p := ⟨q, off, none⟩) hq).trans HCY.out)
    | (go_at_call 11; refine (bits_any _ _).mono ?_; rintro e w5 ⟨rfl, rfl⟩)
    | (go_at_call 13; refine (rex_of HR.out _).mono ?_; rintro e w5 ⟨rfl, rfl⟩)
    | (go_at_call 22; refine (copyb_any A2 c2 ls _ _ HM2.out (by have := HLS.out.2; omega) (Nat.le_refl _)).mono ?_; rintro e w5 ⟨v5, rfl, hb5, ho5⟩; have HB5 := hid (HB2.out.trans (hb5.mono HB2.out.size)); have HO5 := hid ho5; clear hb5 ho5)
    | (at_builtin; refine wpList_append_bytes_w rfl _ _ rfl w.heap.size v5 ls.length ls rfl (own_down HO5.out HB2.out.size) (some ⟨q, off, none⟩) N c w.heap.size zs HN.out rfl (HX.out.below HB5.out) (by have := HLS.out.2; omega) HB5.out.size ?_; intro v6 w6 ho6 hg6; obtain ⟨A6, c6, rfl, hm6, hl6, hc6, hd6⟩ := own_full ho6.out (HM2.out.1.append HX.out.1); have HM6 := hid (And.intro hm6 (And.intro hl6 (And.intro hc6 hd6))); have HB6 := hid (HB5.out.grown hg6 HB5.out.size (own_from (own_down HO5.out HB2.out.size))); clear ho6 hg6 hm6 hl6 hc6 hd6)
    | (go_at_call 21; refine (reads_yes A6 (ls.length + N) c6 (ls ++ zs) pre n ls.length HBP.out.1 HBP.out.2.1 HBP.out.2.2 HM6.out.2.1 HM6.out.2.2.1 HM6.out.2.2.2 _ HM6.out.1).mono ?_; rintro e w7 ⟨rfl, hb7⟩; have HB7 := hid (HB6.out.trans (hb7.mono HB6.out.size)); clear hb7)
    | (go_at_call 17; refine (HRead.out _ ((HX.out.below HB7.out).mono HB7.out.size)).mono ?_; rintro e w8 ⟨rfl, hb8⟩; have HB8 := hid (HB7.out.trans (hb8.mono HB7.out.size)); clear hb8)
    | (go_at_call 20; refine (lays_yes p r (zs.take k) HRL.out.1 HRL.out.2.1 _ k c (take_len HRL.out.2.2.2) _ (((HX.out.below HB8.out).mono HB8.out.size).take k)).mono ?_; rintro e w9 ⟨rfl, hb9⟩; have HB9 := hid (HB8.out.trans (hb9.mono HB8.out.size)); clear hb9))
  go_ret
  exact ⟨rfl, HB9.out⟩
set_option maxHeartbeats 1000000 in
theorem bk_b2 (pre n : Int) (q off : Nat) (c N : Nat) (zs ls : List Int) (y : Int) (p r : Int) (k : Nat) (w : World) (z : Int) (hz : (z == 0) = false) (hb : ((N : Int) == 0) = false) (hpos : (0 : Int) < N) (hq : q < w.heap.size) (hcy : w.cell? ⟨q, off, none⟩ = some (.int .u8 y)) (h0 : (y != 102) = true) (h1 : (y != 242) = false) (g0 : n < 0)
    (HX : Hid (Mem w w.heap.size (some ⟨q, off, none⟩) zs)) (_ : Hid (zs.length = N)) (hl2 : (N : Int) ≤ 20) (HZ : Hid (layE pre n = z)) (HLS : Hid (layB pre n = ls ∧ ls.length ≤ 1000))
    (HRL : Hid (layE p r = 0 ∧ layB p r = zs.take k ∧ k ≤ 3 ∧ k ≤ zs.length)) (hk3 : (k : Int) ≤ 3 ∧ (k : Int) ≤ N ∧ (0 : Int) ≤ k) (hc2 : (N : Int) ≤ c ∧ (c : Int) ≤ 9223372036854775807) (HRead : Hid (∀ W : World, Mem W W.heap.size (some ⟨q, off, none⟩) zs → Calls Try.prog 17 #[.slice (some ⟨q, off, none⟩) N c] W fun e w' => e = .returned (.tuple #[.int .i64 p, .int .i64 r, .int .i64 k]) ∧ Below W.heap.size W w')) :
    Calls Try.prog 6 #[.int .i64 pre, .int .i64 n, .slice (some ⟨q, off, none⟩) N c] w fun e w' => e = .returned (.bool true) ∧ Below w.heap.size w w' := by
  have HCY := hid hcy
  clear hcy
  go_enter Try.func6, Try.ntmps6
  go_wp2_with (first
    | (go_at_call 5; refine (known_law _).mono ?_; rintro e w1 ⟨rfl, hb1⟩; have HB1 := hid hb1; clear hb1)
    | (go_at_call 7; refine (xlay_of HZ.out HLS.out.1 _).mono ?_; rintro e w2 ⟨A2, c2, rfl, hb2, hr2, hm2, _, _⟩; have HB2 := hid (HB1.out.trans (hb2.mono HB1.out.size)); have HM2 := hid hm2; clear hb2 hr2 hm2; have HXW := hid (HX.out.below HB2.out); have hc := (HB2.out.cell (p := ⟨q, off, none⟩) hq).trans HCY.out)
    | (go_at_call 11; refine (bits_any _ _).mono ?_; rintro e w5 ⟨rfl, rfl⟩)
    | (go_at_call 17; refine (HRead.out _ ((HX.out.below HB2.out).mono HB2.out.size)).mono ?_; rintro e w8 ⟨rfl, hb8⟩; have HB8 := hid (HB2.out.trans (hb8.mono HB2.out.size)); clear hb8)
    | (go_at_call 20; refine (lays_yes p r (zs.take k) HRL.out.1 HRL.out.2.1 _ k c (take_len HRL.out.2.2.2) _ (((HX.out.below HB8.out).mono HB8.out.size).take k)).mono ?_; rintro e w9 ⟨rfl, hb9⟩; have HB9 := hid (HB8.out.trans (hb9.mono HB8.out.size)); clear hb9))
  go_ret
  exact ⟨rfl, HB9.out⟩
set_option maxHeartbeats 1000000 in
theorem bk_b3 (pre n : Int) (q off : Nat) (c N : Nat) (zs ls : List Int) (y : Int) (p r : Int) (k : Nat) (w : World) (z : Int) (hz : (z == 0) = false) (hb : ((N : Int) == 0) = false) (hpos : (0 : Int) < N) (hq : q < w.heap.size) (hcy : w.cell? ⟨q, off, none⟩ = some (.int .u8 y)) (h0 : (y != 102) = true) (h1 : (y != 242) = false) (g0 : 0 ≤ n) (g1 : n ≤ 15)
    (HX : Hid (Mem w w.heap.size (some ⟨q, off, none⟩) zs)) (_ : Hid (zs.length = N)) (hl2 : (N : Int) ≤ 20) (HZ : Hid (layE pre n = z)) (HLS : Hid (layB pre n = ls ∧ ls.length ≤ 1000)) (HR : Hid (rexF (bW n) (bR n) (bX n) (bB n) = n))
    (HRL : Hid (layE p r = 0 ∧ layB p r = zs.take k ∧ k ≤ 3 ∧ k ≤ zs.length)) (hk3 : (k : Int) ≤ 3 ∧ (k : Int) ≤ N ∧ (0 : Int) ≤ k) (hc2 : (N : Int) ≤ c ∧ (c : Int) ≤ 9223372036854775807) (HRead : Hid (∀ W : World, Mem W W.heap.size (some ⟨q, off, none⟩) zs → Calls Try.prog 17 #[.slice (some ⟨q, off, none⟩) N c] W fun e w' => e = .returned (.tuple #[.int .i64 p, .int .i64 r, .int .i64 k]) ∧ Below W.heap.size W w')) :
    Calls Try.prog 6 #[.int .i64 pre, .int .i64 n, .slice (some ⟨q, off, none⟩) N c] w fun e w' => e = .returned (.bool true) ∧ Below w.heap.size w w' := by
  have HCY := hid hcy
  clear hcy
  go_enter Try.func6, Try.ntmps6
  go_wp2_with (first
    | (go_at_call 5; refine (known_law _).mono ?_; rintro e w1 ⟨rfl, hb1⟩; have HB1 := hid hb1; clear hb1)
    | (go_at_call 7; refine (xlay_of HZ.out HLS.out.1 _).mono ?_; rintro e w2 ⟨A2, c2, rfl, hb2, hr2, hm2, _, _⟩; have HB2 := hid (HB1.out.trans (hb2.mono HB1.out.size)); have HM2 := hid hm2; clear hb2 hr2 hm2; have HXW := hid (HX.out.below HB2.out); have hc := (HB2.out.cell (p := ⟨q, off, none⟩) hq).trans HCY.out)
    | (go_at_call 11; refine (bits_any _ _).mono ?_; rintro e w5 ⟨rfl, rfl⟩)
    | (go_at_call 13; refine (rex_of HR.out _).mono ?_; rintro e w5 ⟨rfl, rfl⟩)
    | (go_at_call 17; refine (HRead.out _ ((HX.out.below HB2.out).mono HB2.out.size)).mono ?_; rintro e w8 ⟨rfl, hb8⟩; have HB8 := hid (HB2.out.trans (hb8.mono HB2.out.size)); clear hb8)
    | (go_at_call 20; refine (lays_yes p r (zs.take k) HRL.out.1 HRL.out.2.1 _ k c (take_len HRL.out.2.2.2) _ (((HX.out.below HB8.out).mono HB8.out.size).take k)).mono ?_; rintro e w9 ⟨rfl, hb9⟩; have HB9 := hid (HB8.out.trans (hb9.mono HB8.out.size)); clear hb9))
  go_ret
  exact ⟨rfl, HB9.out⟩
set_option maxHeartbeats 1000000 in
theorem bk_b4 (pre n : Int) (q off : Nat) (c N : Nat) (zs ls : List Int) (y : Int) (p r : Int) (k : Nat) (w : World) (z : Int) (hz : (z == 0) = false) (hb : ((N : Int) == 0) = false) (hpos : (0 : Int) < N) (hq : q < w.heap.size) (hcy : w.cell? ⟨q, off, none⟩ = some (.int .u8 y)) (h0 : (y != 102) = true) (h1 : (y != 242) = false) (g0 : 15 < n)
    (HX : Hid (Mem w w.heap.size (some ⟨q, off, none⟩) zs)) (_ : Hid (zs.length = N)) (hl2 : (N : Int) ≤ 20) (HZ : Hid (layE pre n = z)) (HLS : Hid (layB pre n = ls ∧ ls.length ≤ 1000))
    (HRL : Hid (layE p r = 0 ∧ layB p r = zs.take k ∧ k ≤ 3 ∧ k ≤ zs.length)) (hk3 : (k : Int) ≤ 3 ∧ (k : Int) ≤ N ∧ (0 : Int) ≤ k) (hc2 : (N : Int) ≤ c ∧ (c : Int) ≤ 9223372036854775807) (HRead : Hid (∀ W : World, Mem W W.heap.size (some ⟨q, off, none⟩) zs → Calls Try.prog 17 #[.slice (some ⟨q, off, none⟩) N c] W fun e w' => e = .returned (.tuple #[.int .i64 p, .int .i64 r, .int .i64 k]) ∧ Below W.heap.size W w')) :
    Calls Try.prog 6 #[.int .i64 pre, .int .i64 n, .slice (some ⟨q, off, none⟩) N c] w fun e w' => e = .returned (.bool true) ∧ Below w.heap.size w w' := by
  have HCY := hid hcy
  clear hcy
  go_enter Try.func6, Try.ntmps6
  go_wp2_with (first
    | (go_at_call 5; refine (known_law _).mono ?_; rintro e w1 ⟨rfl, hb1⟩; have HB1 := hid hb1; clear hb1)
    | (go_at_call 7; refine (xlay_of HZ.out HLS.out.1 _).mono ?_; rintro e w2 ⟨A2, c2, rfl, hb2, hr2, hm2, _, _⟩; have HB2 := hid (HB1.out.trans (hb2.mono HB1.out.size)); have HM2 := hid hm2; clear hb2 hr2 hm2; have HXW := hid (HX.out.below HB2.out); have hc := (HB2.out.cell (p := ⟨q, off, none⟩) hq).trans HCY.out)
    | (go_at_call 11; refine (bits_any _ _).mono ?_; rintro e w5 ⟨rfl, rfl⟩)
    | (go_at_call 17; refine (HRead.out _ ((HX.out.below HB2.out).mono HB2.out.size)).mono ?_; rintro e w8 ⟨rfl, hb8⟩; have HB8 := hid (HB2.out.trans (hb8.mono HB2.out.size)); clear hb8)
    | (go_at_call 20; refine (lays_yes p r (zs.take k) HRL.out.1 HRL.out.2.1 _ k c (take_len HRL.out.2.2.2) _ (((HX.out.below HB8.out).mono HB8.out.size).take k)).mono ?_; rintro e w9 ⟨rfl, hb9⟩; have HB9 := hid (HB8.out.trans (hb9.mono HB8.out.size)); clear hb9))
  go_ret
  exact ⟨rfl, HB9.out⟩
end Go.Proofs.Ytgioggpehlhbfaa
