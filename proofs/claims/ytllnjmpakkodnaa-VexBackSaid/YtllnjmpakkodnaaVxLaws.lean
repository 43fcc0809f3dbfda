/-
  Law 11: VexKnown, VexReads.
-/
import Derived.Test.YtllnjmpakkodnaaVxLaw
import Derived.Test.YtllnjmpakkodnaaVxRReadAll
import Derived.Test.YtllnjmpakkodnaaFKept
namespace Go.Proofs.Ytllnjmpakkodnaa
open Go.RowKit
set_option maxRecDepth 100000

set_option maxHeartbeats 2000000 in
theorem known_law (w : World) : Calls Try.prog 5 #[] w fun e w' => e = .returned (.bool true) ∧ Below w.heap.size w w' := by
  have H1 := hid (show readF [196, 225, 120] = (⟨0, 0, 0, 1, 0, 0, 0, 0⟩, 3, 0) by decide +kernel)
  have H2 := hid (show waysF ⟨0, 0, 0, 2, 0, 3, 1, 1⟩ true = [[196, 226, 101], [196, 226, 229]] ∧ errF ⟨0, 0, 0, 2, 0, 3, 1, 1⟩ = 0 by decide +kernel)
  have H3 := hid (show readF [197] = (V0, 0, 9) ∧ readF [196, 228] = (V0, 0, 4) by decide +kernel)
  have he := eql_self 0 0 0 1 0 0 0 0
  go_enter Try.func5, Try.ntmps5
  go_wp2_with (first
    | (go_at_call 16; (with_reducible refine (read_3 196 225 120 H1.out (by decide) (by decide) (by decide) _).mono ?_); rintro e w1 ⟨rfl, hb1⟩; have HO1 := hid (((Own.nil w).call hb1).alloc w1.heap.size #[.int .i64 0, .int .i64 0, .int .i64 0, .int .i64 1, .int .i64 0, .int .i64 0, .int .i64 0, .int .i64 0] 23 rfl); clear hb1)
    | (go_at_call 19; (with_reducible refine (all_33 0 0 0 2 0 3 1 1 true 196 226 101 196 226 229 H2.out.1 H2.out.2 _ _ _ _ (by simp) (by simp) (by simp)).mono ?_); rintro e w2 ⟨rfl, hb2⟩; have HO2 := hid (HO1.out.call hb2); clear hb2)
    | (go_at_call 14; (refine (awake_any _).mono ?_); rintro e w3 ⟨rfl, hb3⟩; have HO3 := hid (HO2.out.call hb3); have c3 := HO3.out.c; have z3 := HO3.out.z; clear hb3)
    | (go_at_call 20; (with_reducible refine (fails_1 9 197 H3.out.1 (by decide) _).mono ?_); rintro e w4 ⟨rfl, hb4⟩; have HB4 := hid (HO3.out.below.trans (hb4.mono HO3.out.below.size)); clear hb4)
    | (go_at_call 20; (with_reducible refine (fails_2 4 196 228 H3.out.2 (by decide) (by decide) _).mono ?_); rintro e w5 ⟨rfl, hb5⟩; have HB5 := hid (HB4.out.trans (hb5.mono HB4.out.size)); clear hb5))
  go_ret
  exact ⟨rfl, HB5.out⟩
theorem lent_take (xs : List Int) : (lent xs).take xs.length = xs := by unfold lent; rw [List.take_left]
set_option maxHeartbeats 2000000 in
theorem reads_law (A : Option Addr) (c : Nat) (xs : List Int) (w : World) (hx : Mem w w.heap.size A xs) (_ : xs.length ≤ c) (_ : c ≤ 9223372036854775807) :
    Calls Try.prog 4 #[.slice A xs.length c] w fun e w' => e = .returned (.bool true) ∧ Below w.heap.size w w' := by
  by_cases hl : 100 < xs.length
  · have hl2 : (100 : Int) < xs.length := by omega
    clear hx
    go_enter Try.func4, Try.ntmps4
    go_wp2_with (go_at_call 14; refine (awake_any _).mono ?_; rintro e w6 ⟨rfl, hb6⟩; have HB6 := hid hb6; clear hb6)
    go_ret
    exact ⟨rfl, HB6.out⟩
  · have hl2 : (xs.length : Int) ≤ 100 := by omega
    have HL := hid (show xs.length ≤ 100000000 by omega)
    have HX := hid hx
    obtain ⟨⟨⟨r, x, b, m, n, v, l, p⟩, k, er⟩, hE⟩ : ∃ R, readF xs = R := ⟨_, rfl⟩
    have HE := hid hE
    clear hx hl hE
    have HRead := hid (fun (W : World) (g : Nat) (hg : ByB W g 5 (lent xs)) => (vread_of HE.out (some ⟨g, 0, none⟩) xs.length (xs.length + 3) rfl (by omega) (by have := HL.out; omega) W (by have h := (hg.mem (B := W.heap.size) (lent_bytes HX.out.1) hg.lt).take xs.length; rwa [lent_take] at h)))
    have HRef := hid (fun (W : World) (hW : Mem W W.heap.size A xs) => (show Calls Try.prog 17 #[.slice A xs.length c] W fun e w' => e = .returned (.tuple #[.agg #[.int .i64 r, .int .i64 x, .int .i64 b, .int .i64 m, .int .i64 n, .int .i64 v, .int .i64 l, .int .i64 p], .int .i64 k, .int .i64 er]) ∧ Below W.heap.size W w' by
      have := rread_any A xs.length c xs rfl W hW
      rw [HE.out] at this
      exact this))
    have he := eql_self r x b m n v l p
    go_enter Try.func4, Try.ntmps4
    go_wp2_with (first
      | (go_at_call 15; refine (lent_any A c xs _ _ HX.out HL.out (Nat.le_refl _)).mono ?_; rintro e w1 ⟨rfl, hb1, hk1⟩; have HB1 := hid hb1; have HK1 := hid hk1; clear hb1 hk1)
      | (go_at_call 16; refine (HRead.out _ _ HK1.out).mono ?_; rintro e w2 ⟨rfl, hb2⟩; have HO2 := hid (((Own.nil w).call (HB1.out.trans (hb2.mono HB1.out.size))).alloc w2.heap.size #[.int .i64 r, .int .i64 x, .int .i64 b, .int .i64 m, .int .i64 n, .int .i64 v, .int .i64 l, .int .i64 p] 23 rfl); have HK2 := hid (byb_alloc (HK1.out.below hb2 HK1.out.lt) (.cells #[.int .i64 r, .int .i64 x, .int .i64 b, .int .i64 m, .int .i64 n, .int .i64 v, .int .i64 l, .int .i64 p] 23)); clear hb2)
      | (go_at_call 17; refine (HRef.out _ ((HX.out.below HO2.out.below).mono HO2.out.below.size)).mono ?_; rintro e w3 ⟨rfl, hb3⟩; have HO3 := hid ((HO2.out.call hb3).alloc w3.heap.size #[.int .i64 r, .int .i64 x, .int .i64 b, .int .i64 m, .int .i64 n, .int .i64 v, .int .i64 l, .int .i64 p] 23 rfl); have HK3 := hid (byb_alloc (HK2.out.below hb3 HK2.out.lt) (.cells #[.int .i64 r, .int .i64 x, .int .i64 b, .int .i64 m, .int .i64 n, .int .i64 v, .int .i64 l, .int .i64 p] 23)); clear hb3; have c3 := HO3.out.c; have z3 := HO3.out.z; have c4 := HO3.out.tl.c; have z4 := HO3.out.tl.z)
      | (go_at_call 18; refine (keptb_any _ A c xs (lent xs) _ w.heap.size HK3.out (lent_bytes HX.out.1) (lent_length xs) (HX.out.below HO3.out.below) HL.out HO3.out.below.size).mono ?_; rintro e w4 ⟨rfl, hb4⟩; have HB4 := hid (HO3.out.below.trans (hb4.mono HO3.out.below.size)); clear hb4)
      | (go_at_call 14; refine (awake_any _).mono ?_; rintro e w6 ⟨rfl, hb6⟩; have HB6 := hid (HB4.out.trans (hb6.mono HB4.out.size)); clear hb6))
    go_ret
    exact ⟨by simp, HB6.out⟩
end Go.Proofs.Ytllnjmpakkodnaa
