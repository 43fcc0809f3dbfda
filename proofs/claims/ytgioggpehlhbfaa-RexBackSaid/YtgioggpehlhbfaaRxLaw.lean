/-
  Law 10: lays, reads, awake; RexLays, RexReads, RexKnown.
-/
import Derived.Test.YtgioggpehlhbfaaRxLay
namespace Go.Proofs.Ytgioggpehlhbfaa
open Go.RowKit
set_option maxRecDepth 100000

theorem laid_form {pre n z : Int} {zs : List Int} (h1 : layE pre n = z) (h2 : layB pre n = zs) {w w' : World} {e : Ending} (h : Laid pre n w e w') :
    ∃ A c, e = .returned (.tuple #[.slice A zs.length c, .int .i64 z]) ∧ Below w.heap.size w w' ∧ RowZ w' w.heap.size (.slice A zs.length c) zs ∧ Mem w' w'.heap.size A zs ∧ zs.length ≤ c ∧ c ≤ 9223372036854775807 := by
  subst h1 h2
  obtain ⟨v, rfl, hb, hr⟩ := h
  obtain ⟨A, c, rfl, hm, h1, h2⟩ := hr.form
  exact ⟨A, c, rfl, hb, hr, hm, h1, h2⟩
theorem xlay_of {pre n z : Int} {zs : List Int} (h1 : layE pre n = z) (h2 : layB pre n = zs) (w : World) :
    Calls Try.prog 7 #[.int .i64 pre, .int .i64 n] w fun e w' => ∃ A c, e = .returned (.tuple #[.slice A zs.length c, .int .i64 z]) ∧ Below w.heap.size w w' ∧ RowZ w' w.heap.size (.slice A zs.length c) zs ∧ Mem w' w'.heap.size A zs ∧ zs.length ≤ c ∧ c ≤ 9223372036854775807 :=
  (xlay_any pre n w).mono fun _ _ => laid_form h1 h2
theorem rlay_of {pre n z : Int} {zs : List Int} (h1 : layE pre n = z) (h2 : layB pre n = zs) (w : World) :
    Calls Try.prog 8 #[.int .i64 pre, .int .i64 n] w fun e w' => ∃ A c, e = .returned (.tuple #[.slice A zs.length c, .int .i64 z]) ∧ Below w.heap.size w w' ∧ RowZ w' w.heap.size (.slice A zs.length c) zs ∧ Mem w' w'.heap.size A zs ∧ zs.length ≤ c ∧ c ≤ 9223372036854775807 :=
  (rlay_any pre n w).mono fun _ _ => laid_form h1 h2
set_option maxHeartbeats 1000000 in
theorem lays_yes (pre n : Int) (zs : List Int) (h1 : layE pre n = 0) (h2 : layB pre n = zs) (A : Option Addr) (m c : Nat) (hm : zs.length = m) (w : World) (hx : Mem w w.heap.size A zs) :
    Calls Try.prog 20 #[.int .i64 pre, .int .i64 n, .slice A m c] w fun e w' => e = .returned (.bool true) ∧ Below w.heap.size w w' := by
  have H1 := hid h1
  have H2 := hid h2
  have HX := hid hx
  have HM := hid hm
  clear h1 h2 hx hm
  go_enter Try.func20, Try.ntmps20
  go_wp2_with (first | (go_at_call 7; refine (xlay_of H1.out H2.out _).mono ?_; rintro e w1 ⟨A1, c1, rfl, hb1, hr1, hm1, _, _⟩; have HB := hid hb1; have HM1 := hid hm1; clear hb1 hr1 hm1) | (go_at_call 9; refine (same_of _ _ _ _ _ _ zs zs _ ⟨_, HM1.out⟩ ⟨_, HX.out.below HB.out⟩ rfl HM.out).mono ?_; rintro e w2 ⟨rfl, rfl⟩))
  go_ret
  exact ⟨by simp, HB.out⟩
set_option maxHeartbeats 1000000 in
theorem reads_yes (A : Option Addr) (m c : Nat) (zs : List Int) (p r : Int) (k : Nat) (h1 : rdP zs = p) (h2 : rdR zs = r) (h3 : rdN zs = k) (hm : zs.length = m) (hmc : m ≤ c) (hcl : c ≤ 9223372036854775807) (w : World) (hx : Mem w w.heap.size A zs) :
    Calls Try.prog 21 #[.slice A m c, .int .i64 p, .int .i64 r, .int .i64 k] w fun e w' => e = .returned (.bool true) ∧ Below w.heap.size w w' := by
  have HR := hid (xread_any A m c zs hm hmc hcl w hx)
  rw [h1, h2, h3] at HR
  clear h1 h2 h3 hx hm hmc
  go_enter Try.func21, Try.ntmps21
  go_wp2_with (go_at_call 17; refine (HR.out).mono ?_; rintro e w1 ⟨rfl, hb1⟩; have HB := hid hb1; clear hb1)
  go_ret
  exact ⟨by simp, HB.out⟩
theorem mem_new {W : World} {zs : List Int} (hz : isBytes zs) (hB : W.heap.size < (W.alloc (.cells (zs.map (Value.int .u8)).toArray 5)).heap.size) : Mem (W.alloc (.cells (zs.map (Value.int .u8)).toArray 5)) (W.alloc (.cells (zs.map (Value.int .u8)).toArray 5)).heap.size (some ⟨W.heap.size, 0, none⟩) zs :=
  (ByB.mem (t := 5) (heap_alloc_new W _) hz hB)
theorem rex_of {a b c d z : Int} (h : rexF a b c d = z) (w : World) :
    Calls Try.prog 13 #[.int .i64 a, .int .i64 b, .int .i64 c, .int .i64 d] w fun e w' => e = .returned (.int .i64 z) ∧ w = w' := by rw [← h]; exact rex_any a b c d w
set_option maxHeartbeats 1000000 in
theorem awake_any (w : World) : Calls Try.prog 15 #[] w fun e w' => e = .returned (.bool true) ∧ Below w.heap.size w w' := by
  have H1 := hid (show layE 1 8 = 0 ∧ layB 1 8 = [102, 72] by decide +kernel)
  have H2 := hid (show rdP [102, 243, 65, 15] = 5 ∧ rdR [102, 243, 65, 15] = 1 ∧ rdN [102, 243, 65, 15] = 3 by decide +kernel)
  have H3 := hid (show rexF 1 0 0 1 = 9 by decide +kernel)
  go_enter Try.func15, Try.ntmps15
  go_wp2_with (first
    | (go_at_call 20; refine (lays_yes 1 8 [102, 72] H1.out.1 H1.out.2 _ 2 2 rfl _ (mem_new (zs := [102, 72]) (is_bytes (by decide)) (by simp))).mono ?_; rintro e w1 ⟨rfl, hb1⟩; have HB1 := hid (show Below w.heap.size w w1 from ((Below.refl w.heap.size w).alloc (Nat.le_refl _) _).trans (hb1.mono (by simp))); clear hb1)
    | (go_at_call 21; refine (reads_yes _ 4 4 [102, 243, 65, 15] 5 1 3 H2.out.1 H2.out.2.1 H2.out.2.2 rfl (by decide) (by decide) _ (mem_new (zs := [102, 243, 65, 15]) (is_bytes (by decide)) (by simp))).mono ?_; rintro e w2 ⟨rfl, hb2⟩; have HB2 := hid (show Below w.heap.size w w2 from (HB1.out.alloc HB1.out.size _).trans (hb2.mono (by have := HB1.out.size; simp; omega))); clear hb2)
    | (go_at_call 13; refine (rex_of H3.out _).mono ?_; rintro e w3 ⟨rfl, rfl⟩))
  go_ret
  exact ⟨rfl, HB2.out⟩
end Go.Proofs.Ytgioggpehlhbfaa
