/-
  Law 10: RexLays, RexReads, RexKnown.
-/
import Derived.Test.YtgioggpehlhbfaaRxLaw
namespace Go.Proofs.Ytgioggpehlhbfaa
open Go.RowKit
set_option maxRecDepth 100000

set_option maxHeartbeats 1000000 in
theorem lays_law (pre n a r x b : Int) (w : World) (_ : I64 pre) (_ : I64 n) (_ : I64 a) (_ : I64 r) (_ : I64 x) (_ : I64 b) :
    Calls Try.prog 3 #[.int .i64 pre, .int .i64 n, .int .i64 a, .int .i64 r, .int .i64 x, .int .i64 b] w fun e w' => e = .returned (.bool true) ∧ Below w.heap.size w w' := by
  obtain ⟨z, hz⟩ : ∃ z, layE pre n = z := ⟨_, rfl⟩
  obtain ⟨zs, hzs⟩ : ∃ zs, layB pre n = zs := ⟨_, rfl⟩
  obtain ⟨q, hq⟩ : ∃ q, rexF a r x b = q := ⟨_, rfl⟩
  have HQ := hid (fun W => hq ▸ rrex_any a r x b W)
  have H0 := hid hz
  have H1 := hid hzs
  have HX := hid hq
  clear hz hzs hq
  go_enter Try.func3, Try.ntmps3
  go_wp2_with (first
    | (go_at_call 7; refine (xlay_of H0.out H1.out _).mono ?_; rintro e w1 ⟨A1, c1, rfl, hb1, hr1, hm1, _, _⟩; have HB1 := hid hb1; have HR1 := hid hr1; have HM1 := hid hm1; clear hb1 hr1 hm1)
    | (go_at_call 8; refine (rlay_of H0.out H1.out _).mono ?_; rintro e w2 ⟨A2, c2, rfl, hb2, hr2, hm2, _, _⟩; have HB2 := hid (HB1.out.trans (hb2.mono HB1.out.size)); have HR2 := hid (HR1.out.below hb2); have HM2 := hid hm2; have HM1 := hid (HM1.out.below hb2); clear hb2 hr2 hm2)
    | (go_at_call 9; refine (same_of _ _ _ _ _ _ zs zs _ ⟨_, HM1.out⟩ ⟨_, HM2.out⟩ rfl rfl).mono ?_; rintro e w3 ⟨rfl, rfl⟩)
    | (go_at_call 10; refine (overz_any w.heap.size _ zs _ HR2.out).mono ?_; rintro e w4 ⟨rfl, hb4⟩; have HB4 := hid (HB2.out.trans hb4); clear hb4)
    | (go_at_call 11; refine (bits_any _ _).mono ?_; rintro e w5 ⟨rfl, rfl⟩)
    | (go_at_call 12; refine (rbits_any _ _).mono ?_; rintro e w5 ⟨rfl, rfl⟩)
    | (go_at_call 13; refine (rex_of HX.out _).mono ?_; rintro e w5 ⟨rfl, rfl⟩)
    | (go_at_call 14; refine (HQ.out _).mono ?_; rintro e w5 ⟨rfl, rfl⟩)
    | (go_at_call 15; refine (awake_any _).mono ?_; rintro e w6 ⟨rfl, hb6⟩; have HB6 := hid (HB4.out.trans (hb6.mono HB4.out.size)); clear hb6))
  go_ret
  exact ⟨by simp, HB6.out⟩
theorem bits_of {n p q r s : Int} (h : bW n = p ∧ bR n = q ∧ bX n = r ∧ bB n = s) (w : World) :
    Calls Try.prog 11 #[.int .i64 n] w fun e w' => e = .returned (.tuple #[.int .i64 p, .int .i64 q, .int .i64 r, .int .i64 s]) ∧ w = w' := by
  obtain ⟨rfl, rfl, rfl, rfl⟩ := h
  exact bits_any n w
theorem lays_two (pre n a b : Int) (h1 : layE pre n = 0) (h2 : layB pre n = [a, b]) (hb : ([a, b].all (fun z => decide (0 ≤ z) && decide (z < 256))) = true) (w : World) :
    Calls Try.prog 20 #[.int .i64 pre, .int .i64 n, .slice (some ⟨w.heap.size, 0, none⟩) 2 2] (w.alloc (.cells #[.int .u8 a, .int .u8 b] 5)) fun e w' => e = .returned (.bool true) ∧ Below w.heap.size w w' :=
  (lays_yes pre n [a, b] h1 h2 _ 2 2 rfl _ (mem_new (zs := [a, b]) (is_bytes hb) (by simp))).mono fun _ _ h => ⟨h.1, ((Below.refl w.heap.size w).alloc (Nat.le_refl _) _).trans (h.2.mono (by simp))⟩
theorem reads_int (A : Option Addr) (m c : Nat) (zs : List Int) (p r k : Int) (h1 : rdP zs = p) (h2 : rdR zs = r) (h3 : (rdN zs : Int) = k) (hm : zs.length = m) (hmc : m ≤ c) (hcl : c ≤ 9223372036854775807) (w : World) (hx : Mem w w.heap.size A zs) :
    Calls Try.prog 21 #[.slice A m c, .int .i64 p, .int .i64 r, .int .i64 k] w fun e w' => e = .returned (.bool true) ∧ Below w.heap.size w w' := by
  subst h3
  exact reads_yes A m c zs p r _ h1 h2 rfl hm hmc hcl w hx
theorem reads_two (a b p r k : Int) (h : rdP [a, b] = p ∧ rdR [a, b] = r ∧ (rdN [a, b] : Int) = k) (hb : ([a, b].all (fun z => decide (0 ≤ z) && decide (z < 256))) = true) (w : World) :
    Calls Try.prog 21 #[.slice (some ⟨w.heap.size, 0, none⟩) 2 2, .int .i64 p, .int .i64 r, .int .i64 k] (w.alloc (.cells #[.int .u8 a, .int .u8 b] 5)) fun e w' => e = .returned (.bool true) ∧ Below w.heap.size w w' :=
  (reads_int _ 2 2 [a, b] p r k h.1 h.2.1 h.2.2 rfl (by decide) (by decide) _ (mem_new (zs := [a, b]) (is_bytes hb) (by simp))).mono fun _ _ h => ⟨h.1, ((Below.refl w.heap.size w).alloc (Nat.le_refl _) _).trans (h.2.mono (by simp))⟩
set_option maxHeartbeats 2000000 in
theorem known_law (w : World) : Calls Try.prog 5 #[] w fun e w' => e = .returned (.bool true) ∧ Below w.heap.size w w' := by
  have H1 := hid (show (layE 6 0 = 2 ∧ layB 6 0 = []) ∧ (layE 0 16 = 5 ∧ layB 0 16 = []) ∧ (layE 0 (-1) = 0 ∧ layB 0 (-1) = []) ∧ (layE 5 (-1) = 0 ∧ layB 5 (-1) = [102, 243]) by decide +kernel)
  have H2 := hid (show (rdP [243, 102] = 4 ∧ rdR [243, 102] = -1 ∧ (rdN [243, 102] : Int) = 1) ∧ (rdP [65, 64] = 0 ∧ rdR [65, 64] = 1 ∧ (rdN [65, 64] : Int) = 1) ∧ (rdP [] = 0 ∧ rdR [] = -1 ∧ (rdN [] : Int) = 0) by decide +kernel)
  have H3 := hid (show rexF 2 0 0 0 = -1 by decide +kernel)
  have H4 := hid (show bW 13 = 1 ∧ bR 13 = 1 ∧ bX 13 = 0 ∧ bB 13 = 1 by decide +kernel)
  go_enter Try.func5, Try.ntmps5
  go_wp2_with (first
    | (go_at_call 7; (with_reducible refine (xlay_of H1.out.1.1 H1.out.1.2 _).mono ?_); rintro e w1 ⟨A1, c1, rfl, hb1, _, _, _, _⟩; have HB1 := hid hb1; clear hb1)
    | (go_at_call 7; (with_reducible refine (xlay_of H1.out.2.1.1 H1.out.2.1.2 _).mono ?_); rintro e w2 ⟨A2, c2, rfl, hb2, _, _, _, _⟩; have HB2 := hid (HB1.out.trans (hb2.mono HB1.out.size)); clear hb2)
    | (go_at_call 11; refine (bits_of H4.out _).mono ?_; rintro e w5 ⟨rfl, rfl⟩)
    | (go_at_call 13; refine (rex_of H3.out _).mono ?_; rintro e w5 ⟨rfl, rfl⟩)
    | (go_at_call 20; (with_reducible refine (lays_yes 0 (-1) [] H1.out.2.2.1.1 H1.out.2.2.1.2 _ 0 0 rfl _ (Mem.nil _ _ _)).mono ?_); rintro e w3 ⟨rfl, hb3⟩; have HB3 := hid (HB2.out.trans (hb3.mono HB2.out.size)); clear hb3)
    | (go_at_call 20; (with_reducible refine (lays_two 5 (-1) 102 243 H1.out.2.2.2.1 H1.out.2.2.2.2 (by decide) _).mono ?_); rintro e w4 ⟨rfl, hb4⟩; have HB4 := hid (HB3.out.trans (hb4.mono HB3.out.size)); clear hb4)
    | (go_at_call 15; refine (awake_any _).mono ?_; rintro e w6 ⟨rfl, hb6⟩; have HB6 := hid (HB4.out.trans (hb6.mono HB4.out.size)); clear hb6)
    | (go_at_call 21; (with_reducible refine (reads_two 243 102 4 (-1) 1 H2.out.1 (by decide) _).mono ?_); rintro e w7 ⟨rfl, hb7⟩; have HB7 := hid (HB6.out.trans (hb7.mono HB6.out.size)); clear hb7)
    | (go_at_call 21; (with_reducible refine (reads_two 65 64 0 1 1 H2.out.2.1 (by decide) _).mono ?_); rintro e w8 ⟨rfl, hb8⟩; have HB8 := hid (HB7.out.trans (hb8.mono HB7.out.size)); clear hb8)
    | (go_at_call 21; (with_reducible refine (reads_int _ 0 0 [] 0 (-1) 0 H2.out.2.2.1 H2.out.2.2.2.1 H2.out.2.2.2.2 rfl (by decide) (by decide) _ (Mem.nil _ _ _)).mono ?_); rintro e w9 ⟨rfl, hb9⟩; have HB9 := hid (HB8.out.trans (hb9.mono HB8.out.size)); clear hb9))
  go_ret
  exact ⟨rfl, HB9.out⟩
theorem lent_take (xs : List Int) : (lent xs).take xs.length = xs := by unfold lent; rw [List.take_left]
set_option maxHeartbeats 1000000 in
theorem reads_law (A : Option Addr) (c : Nat) (xs : List Int) (w : World) (hx : Mem w w.heap.size A xs) (_ : xs.length ≤ c) (_ : c ≤ 9223372036854775807) :
    Calls Try.prog 4 #[.slice A xs.length c] w fun e w' => e = .returned (.bool true) ∧ Below w.heap.size w w' := by
  by_cases hl : 100 < xs.length
  · have hl2 : (100 : Int) < xs.length := by omega
    clear hx
    go_enter Try.func4, Try.ntmps4
    go_wp2_with (go_at_call 15; refine (awake_any _).mono ?_; rintro e w6 ⟨rfl, hb6⟩; have HB6 := hid hb6; clear hb6)
    go_ret
    exact ⟨rfl, HB6.out⟩
  · have hl2 : (xs.length : Int) ≤ 100 := by omega
    have HL := hid (show xs.length ≤ 100000000 by omega)
    have HX := hid hx
    obtain ⟨p, hp⟩ : ∃ p, rdP xs = p := ⟨_, rfl⟩
    obtain ⟨r, hr⟩ : ∃ r, rdR xs = r := ⟨_, rfl⟩
    obtain ⟨k, hk⟩ : ∃ k, rdN xs = k := ⟨_, rfl⟩
    have HE := hid (And.intro hp (And.intro hr hk))
    clear hx hl hp hr hk
    have HRead := hid (fun (W : World) (g : Nat) (hg : ByB W g 5 (lent xs)) => (show Calls Try.prog 17 #[.slice (some ⟨g, 0, none⟩) xs.length (xs.length + 3)] W fun e w' => e = .returned (.tuple #[.int .i64 p, .int .i64 r, .int .i64 k]) ∧ Below W.heap.size W w' by
      have := xread_any (some ⟨g, 0, none⟩) xs.length (xs.length + 3) xs rfl (by omega) (by have := HL.out; omega) W (by have h := (hg.mem (B := W.heap.size) (lent_bytes HX.out.1) hg.lt).take xs.length; rwa [lent_take] at h)
      rw [HE.out.1, HE.out.2.1, HE.out.2.2] at this
      exact this))
    have HRef := hid (fun (W : World) (hW : Mem W w.heap.size A xs) => (show Calls Try.prog 18 #[.slice A xs.length c] W fun e w' => e = .returned (.tuple #[.int .i64 p, .int .i64 r, .int .i64 k]) ∧ W = w' by
      have := rread_any A xs.length c xs rfl W _ hW
      rw [HE.out.1, HE.out.2.1, HE.out.2.2] at this
      exact this))
    go_enter Try.func4, Try.ntmps4
    go_wp2_with (first
      | (go_at_call 16; refine (lent_any A c xs _ _ HX.out HL.out (Nat.le_refl _)).mono ?_; rintro e w1 ⟨rfl, hb1, hk1⟩; have HB1 := hid hb1; have HK1 := hid hk1; clear hb1 hk1)
      | (go_at_call 17; refine (HRead.out _ _ HK1.out).mono ?_; rintro e w2 ⟨rfl, hb2⟩; have HB2 := hid (HB1.out.trans (hb2.mono HB1.out.size)); have HK2 := hid (HK1.out.below hb2 HK1.out.lt); clear hb2)
      | (go_at_call 18; refine (HRef.out _ (HX.out.below HB2.out)).mono ?_; rintro e w3 ⟨rfl, rfl⟩)
      | (go_at_call 19; refine (keptb_any _ A c xs (lent xs) _ w.heap.size HK2.out (lent_bytes HX.out.1) (lent_length xs) (HX.out.below HB2.out) HL.out HB2.out.size).mono ?_; rintro e w4 ⟨rfl, hb4⟩; have HB4 := hid (HB2.out.trans (hb4.mono HB2.out.size)); clear hb4)
      | (go_at_call 15; refine (awake_any _).mono ?_; rintro e w6 ⟨rfl, hb6⟩; have HB6 := hid (HB4.out.trans (hb6.mono HB4.out.size)); clear hb6))
    go_ret
    exact ⟨by simp, HB6.out⟩
end Go.Proofs.Ytgioggpehlhbfaa
