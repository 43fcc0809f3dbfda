/-
  What the statements on registers share: of, named, awake.
-/
import Derived.Test.YtebcljdekhmkhaaDoorRegs
import Derived.Laws.StructEq
namespace Go.Proofs.YtebcljdekhmkhaaDoor
open Go.RowKit

theorem of_any (c n : Int) (w : World) :
    Calls Tryd.prog 23 #[.int .i64 c, .int .i64 n] w fun e w' => e = .returned (.agg #[.int .i64 c, .int .i64 n]) ∧ Below w.heap.size w w' := by
  go_enter Tryd.func23, Tryd.ntmps23
  go_wp2
  refine bodyPost_ret (v := .agg #[.int .i64 c, .int .i64 n]) (by simp [results, Tryd.results23, go_sem]) rfl ⟨rfl, ?_⟩
  go_grown
theorem parse_of {s : ByteArray} {c n : Int} (h : parseF (lower (nums s)) = some (c, n)) (hs : s.size ≤ 9223372036854775807) (w : World) (ht : Tab w) :
    Calls Tryd.prog 22 #[.string s] w fun e w' => e = .returned (.tuple #[.agg #[.int .i64 c, .int .i64 n], .bool true]) ∧ Below w.heap.size w w' := by
  have := parse_any s w ht hs
  rw [h] at this
  exact this
theorem parse_not {s : ByteArray} (h : parseF (lower (nums s)) = none) (hs : s.size ≤ 9223372036854775807) (w : World) (ht : Tab w) :
    Calls Tryd.prog 22 #[.string s] w fun e w' => e = .returned (.tuple #[.agg #[.int .i64 0, .int .i64 0], .bool false]) ∧ Below w.heap.size w w' := by
  have := parse_any s w ht hs
  rw [h] at this
  exact this
theorem name_str {c n : Int} {s : ByteArray} (h : nameF c n = nums s) (w : World) (ht : Tab w) :
    Calls Tryd.prog 9 #[.agg #[.int .i64 c, .int .i64 n]] w fun e w' => e = .returned (.string s) ∧ Below w.heap.size w w' :=
  (name_any c n w ht).mono fun _ _ ⟨T, h1, h2, h3⟩ => ⟨by rw [h1, nums_inj (h2.trans h)], h3⟩
set_option maxHeartbeats 2000000 in
theorem named_of {c n : Int} {s : ByteArray} (h1 : nameF c n = nums s) (h2 : parseF (lower (nums s)) = some (c, n)) (hs : s.size ≤ 9223372036854775807) (w : World) (ht : Tab w) :
    Calls Tryd.prog 24 #[.int .i64 c, .int .i64 n, .string s] w fun e w' => e = .returned (.bool true) ∧ Below w.heap.size w w' := by
  have HT := hid ht
  have H1 := hid h1
  have H2 := hid h2
  clear ht h1 h2
  go_enter Tryd.func24, Tryd.ntmps24
  go_wp2_with (go_at_call 22; refine (parse_of H2.out hs _ HT.out).mono ?_; rintro e w1 ⟨rfl, hb1⟩)
  have hz : w1.heap.size < (w1.alloc (.cells #[.int .i64 c, .int .i64 n] 23)).heap.size := by simp
  have h0 : (w1.alloc (.cells #[.int .i64 c, .int .i64 n] 23)).cell? ⟨w1.heap.size, 0, none⟩ = some (.int .i64 c) := by simp
  have h1 : (w1.alloc (.cells #[.int .i64 c, .int .i64 n] 23)).cell? ⟨w1.heap.size, 1, none⟩ = some (.int .i64 n) := by simp
  have HB := hid (hb1.alloc hb1.size (.cells #[.int .i64 c, .int .i64 n] 23))
  generalize w1.alloc (.cells #[.int .i64 c, .int .i64 n] 23) = W at *
  have HTW := hid (HT.out.below HB.out)
  have hS : Below W.heap.size W W ∧ W.cell? ⟨w1.heap.size, 0, none⟩ = some (.int .i64 c) ∧ W.cell? ⟨w1.heap.size, 1, none⟩ = some (.int .i64 n) := ⟨Below.refl _ _, h0, h1⟩
  generalize w1.heap.size = g at *
  clear h0 h1 hb1
  go_region_held3 (fun w' => Below W.heap.size W w' ∧ w'.cell? ⟨g, 0, none⟩ = some (.int .i64 c) ∧ w'.cell? ⟨g, 1, none⟩ = some (.int .i64 n)) (first | assumption | exact boxed_drew ‹_› | (refine boxed ?_ (by assumption) hz; assumption))
    (first | (go_at_call 23; refine (of_any _ _ _).mono ?_; rintro e w2 ⟨rfl, hbel⟩) | (go_at_call 9; refine (name_str H1.out _ ?_).mono ?_; (refine HTW.out.below ?_; apply And.left; assumption); rintro e w2 ⟨rfl, hbel⟩))
  have hk := (‹Below W.heap.size W w2 ∧ _ ∧ _›).1
  go_wp2
  go_ret
  exact ⟨rfl, HB.out.trans (hk.mono HB.out.size)⟩
theorem awake_any (w : World) (ht : Tab w) : Calls Tryd.prog 21 #[] w fun e w' => e = .returned (.bool true) ∧ Below w.heap.size w w' := by
  have HT := hid ht
  clear ht
  go_enter Tryd.func21, Tryd.ntmps21
  go_wp2_with fail
  refine (named_of (c := 1) (n := 5) (s := ⟨#[98, 112, 108]⟩) (by decide +kernel) (by decide +kernel) (by decide) _ HT.out).mono ?_
  rintro e w1 ⟨rfl, hb1⟩
  have B1 := hid hb1
  clear hb1
  go_wp2_with fail
  refine (named_of (c := 2) (n := 5) (s := ⟨#[99, 104]⟩) (by decide +kernel) (by decide +kernel) (by decide) _ (HT.out.below B1.out)).mono ?_
  rintro e w2 ⟨rfl, hb2⟩
  have B2 := hid (B1.out.trans (hb2.mono B1.out.size))
  clear hb2
  go_wp2_with fail
  refine (named_of (c := 6) (n := 12) (s := ⟨#[120, 109, 109, 49, 50]⟩) (by decide +kernel) (by decide +kernel) (by decide) _ (HT.out.below B2.out)).mono ?_
  rintro e w3 ⟨rfl, hb3⟩
  have B3 := hid (B2.out.trans (hb3.mono B2.out.size))
  clear hb3
  go_wp2_with fail
  refine (of_any 7 3 _).mono ?_
  rintro e w4 ⟨rfl, hb4⟩
  have B4 := hid (B3.out.trans (hb4.mono B3.out.size))
  clear hb4
  go_wp2_with fail
  refine (size_reg 7 3 _).mono ?_
  rw [show sizeF 7 3 = 32 by decide +kernel]
  rintro e w5 ⟨rfl, hb5⟩
  have B5 := hid (B4.out.trans (hb5.mono B4.out.size))
  clear hb5
  go_wp2_with fail
  go_ret
  exact ⟨rfl, B5.out⟩
end Go.Proofs.YtebcljdekhmkhaaDoor
