/-
  Whether a place may be: the program's Check.
-/
import Derived.Test.YtiiepdgpnnjpiaaDoorPlaces
namespace Go.Proofs.YtiiepdgpnnjpiaaDoor
open Go.RowKit

/-- A place: its base's class and number, its index's, its scale, displacement, size. -/
structure Pl where
  bc : Int
  bn : Int
  ic : Int
  ix : Int
  s : Int
  d : Int
  z : Int
def indexedF (p : Pl) : Bool :=
  if noneF p.ic p.ix then p.s == 0 else if !scaleF p.s || !wideF p.ic p.ix || p.bc == 8 then false else if stackF p.ic p.ix then p.s == 1 && !stackF p.bc p.bn else true
def checkF (p : Pl) : Int := if p.d < -2147483648 ∨ 2147483647 < p.d then 5 else if sizedF p.z && basedF p.bc p.bn && indexedF p then 0 else 2

theorem none_of {c n : Int} {b : Bool} (h : noneF c n = b) (w : World) :
    Calls Tryd.prog 66 #[.agg #[.int .i64 c, .int .i64 n]] w fun e w' => e = .returned (.bool b) ∧ Below w.heap.size w w' := by
  have := none_any c n w
  rw [h] at this
  exact this
theorem rnone_of {c n : Int} {b : Bool} (h : noneF c n = b) (w : World) :
    Calls Tryd.prog 53 #[.agg #[.int .i64 c, .int .i64 n]] w fun e w' => e = .returned (.bool b) ∧ Below w.heap.size w w' := by
  have := rnone_any c n w
  rw [h] at this
  exact this
theorem stack_of {c n : Int} {b : Bool} (h : stackF c n = b) (w : World) :
    Calls Tryd.prog 67 #[.agg #[.int .i64 c, .int .i64 n]] w fun e w' => e = .returned (.bool b) ∧ Below w.heap.size w w' := by
  have := stack_any c n w
  rw [h] at this
  exact this
theorem wide_of {c n : Int} {b : Bool} (h : wideF c n = b) (w : World) :
    Calls Tryd.prog 90 #[.agg #[.int .i64 c, .int .i64 n]] w fun e w' => e = .returned (.bool b) ∧ Below w.heap.size w w' := by
  have := wide_any c n w
  rw [h] at this
  exact this
theorem rwide_of {c n : Int} {b : Bool} (h : wideF c n = b) (w : World) :
    Calls Tryd.prog 74 #[.agg #[.int .i64 c, .int .i64 n]] w fun e w' => e = .returned (.bool b) ∧ Below w.heap.size w w' := by
  have := rwide_any c n w
  rw [h] at this
  exact this
theorem valid_of {c n : Int} {b : Bool} (h : validF c n = b) (w : World) :
    Calls Tryd.prog 64 #[.agg #[.int .i64 c, .int .i64 n]] w fun e w' => e = .returned (.bool b) ∧ Below w.heap.size w w' := by
  have := valid_any c n w
  rw [h] at this
  exact this
theorem sized_of {z : Int} {b : Bool} (h : sizedF z = b) (w : World) :
    Calls Tryd.prog 78 #[.int .i64 z] w fun e w' => e = .returned (.bool b) ∧ w = w' := by
  have := sized_any z w
  rw [h] at this
  exact this
theorem based_any (c n : Int) (w : World) :
    Calls Tryd.prog 79 #[.agg #[.int .i64 c, .int .i64 n]] w fun e w' => e = .returned (.bool (basedF c n)) ∧ Below w.heap.size w w' := by
  cases h1 : noneF c n
  · cases h2 : wideF c n
    · by_cases h3 : c = 8
      · subst h3
        have H1 := hid h1
        have H2 := hid h2
        clear h1 h2
        go_enter Tryd.func79, Tryd.ntmps79
        go_wp2_with (first | (go_at_call 66; refine (none_of H1.out _).mono ?_; rintro e w1 ⟨rfl, hb1⟩; obtain ⟨hc1, hf1⟩ := bcell hb1; have hz1 : w.heap.size < w1.heap.size := (by have := hb1.size; (try simp at this); omega); have HB := hid (show Below w.heap.size w w1 by first | exact HB.out.trans (hb1.mono HB.out.size) | exact ((Below.refl _ _).alloc (Nat.le_refl _) _).trans (hb1.mono (by simp)))) | (go_at_call 90; refine (wide_of H2.out _).mono ?_; rintro e w1 ⟨rfl, hb1⟩; obtain ⟨hc1, hf1⟩ := bcell hb1; have hz1 : w.heap.size < w1.heap.size := (by have := hb1.size; (try simp at this); omega); have HB := hid (show Below w.heap.size w w1 by first | exact HB.out.trans (hb1.mono HB.out.size) | exact ((Below.refl _ _).alloc (Nat.le_refl _) _).trans (hb1.mono (by simp)))) | (go_at_call 64; refine (valid_any _ _ _).mono ?_; rintro e w1 ⟨rfl, hb1⟩; obtain ⟨hc1, hf1⟩ := bcell hb1; have hz1 : w.heap.size < w1.heap.size := (by have := hb1.size; (try simp at this); omega); have HB := hid (show Below w.heap.size w w1 by first | exact HB.out.trans (hb1.mono HB.out.size) | exact ((Below.refl _ _).alloc (Nat.le_refl _) _).trans (hb1.mono (by simp)))))
        go_returns
        exact ⟨ret_b (by rw [Bool.eq_iff_iff]; simp [basedF, H1.out, H2.out, validF, spanF]; omega), HB.out⟩
      · have H1 := hid h1
        have H2 := hid h2
        clear h1 h2
        go_enter Tryd.func79, Tryd.ntmps79
        go_wp2_with (first | (go_at_call 66; refine (none_of H1.out _).mono ?_; rintro e w1 ⟨rfl, hb1⟩; obtain ⟨hc1, hf1⟩ := bcell hb1; have hz1 : w.heap.size < w1.heap.size := (by have := hb1.size; (try simp at this); omega); have HB := hid (show Below w.heap.size w w1 by first | exact HB.out.trans (hb1.mono HB.out.size) | exact ((Below.refl _ _).alloc (Nat.le_refl _) _).trans (hb1.mono (by simp)))) | (go_at_call 90; refine (wide_of H2.out _).mono ?_; rintro e w1 ⟨rfl, hb1⟩; obtain ⟨hc1, hf1⟩ := bcell hb1; have hz1 : w.heap.size < w1.heap.size := (by have := hb1.size; (try simp at this); omega); have HB := hid (show Below w.heap.size w w1 by first | exact HB.out.trans (hb1.mono HB.out.size) | exact ((Below.refl _ _).alloc (Nat.le_refl _) _).trans (hb1.mono (by simp)))))
        go_returns
        exact ⟨by simp [basedF, H1.out, H2.out, h3], HB.out⟩
    · have H1 := hid h1
      have H2 := hid h2
      clear h1 h2
      go_enter Tryd.func79, Tryd.ntmps79
      go_wp2_with (first | (go_at_call 66; refine (none_of H1.out _).mono ?_; rintro e w1 ⟨rfl, hb1⟩; obtain ⟨hc1, hf1⟩ := bcell hb1; have hz1 : w.heap.size < w1.heap.size := (by have := hb1.size; (try simp at this); omega); have HB := hid (show Below w.heap.size w w1 by first | exact HB.out.trans (hb1.mono HB.out.size) | exact ((Below.refl _ _).alloc (Nat.le_refl _) _).trans (hb1.mono (by simp)))) | (go_at_call 90; refine (wide_of H2.out _).mono ?_; rintro e w1 ⟨rfl, hb1⟩; obtain ⟨hc1, hf1⟩ := bcell hb1; have hz1 : w.heap.size < w1.heap.size := (by have := hb1.size; (try simp at this); omega); have HB := hid (show Below w.heap.size w w1 by first | exact HB.out.trans (hb1.mono HB.out.size) | exact ((Below.refl _ _).alloc (Nat.le_refl _) _).trans (hb1.mono (by simp)))))
      go_returns
      exact ⟨by simp [basedF, H1.out, H2.out], HB.out⟩
  · have H1 := hid h1
    clear h1
    go_enter Tryd.func79, Tryd.ntmps79
    go_wp2_with (go_at_call 66; refine (none_of H1.out _).mono ?_; rintro e w1 ⟨rfl, hb1⟩; obtain ⟨hc1, hf1⟩ := bcell hb1; have hz1 : w.heap.size < w1.heap.size := (by have := hb1.size; (try simp at this); omega); have HB := hid (show Below w.heap.size w w1 by first | exact HB.out.trans (hb1.mono HB.out.size) | exact ((Below.refl _ _).alloc (Nat.le_refl _) _).trans (hb1.mono (by simp))))
    go_returns
    exact ⟨by simp [basedF, H1.out], HB.out⟩
theorem based_of {c n : Int} {b : Bool} (h : basedF c n = b) (w : World) :
    Calls Tryd.prog 79 #[.agg #[.int .i64 c, .int .i64 n]] w fun e w' => e = .returned (.bool b) ∧ Below w.heap.size w w' := by
  have := based_any c n w
  rw [h] at this
  exact this
theorem scaled_of {s : Int} {b : Bool} (h : scaleF s = b) (hs : I64 s) (w : World) :
    Calls Tryd.prog 91 #[.int .i64 s] w fun e w' => e = .returned (.tuple #[.int .i64 (shiftF s), .bool b]) ∧ Below w.heap.size w w' := by
  have := scaled_any s hs w
  rw [h] at this
  exact this
theorem indexed_any (bc bn ic ix s d z : Int) (hs : I64 s) (w : World) :
    Calls Tryd.prog 80 #[.agg #[.int .i64 bc, .int .i64 bn, .int .i64 ic, .int .i64 ix, .int .i64 s, .int .i64 d, .int .i64 z]] w fun e w' => e = .returned (.bool (indexedF ⟨bc, bn, ic, ix, s, d, z⟩)) ∧ Below w.heap.size w w' := by
  have HS := hid hs
  clear hs
  obtain ⟨b1, h1⟩ : ∃ b, noneF ic ix = b := ⟨_, rfl⟩
  obtain ⟨b2, h2⟩ : ∃ b, scaleF s = b := ⟨_, rfl⟩
  obtain ⟨b3, h3⟩ : ∃ b, wideF ic ix = b := ⟨_, rfl⟩
  obtain ⟨b4, h4⟩ : ∃ b, stackF ic ix = b := ⟨_, rfl⟩
  obtain ⟨b5, h5⟩ : ∃ b, stackF bc bn = b := ⟨_, rfl⟩
  have HE := hid (show indexedF ⟨bc, bn, ic, ix, s, d, z⟩ = (if b1 then s == 0 else if !b2 || !b3 || bc == 8 then false else if b4 then s == 1 && !b5 else true) by simp only [indexedF, h1, h2, h3, h4, h5])
  have H1 := hid h1
  have H2 := hid h2
  have H3 := hid h3
  have H4 := hid h4
  have H5 := hid h5
  clear h1 h2 h3 h4 h5
  rw [HE.out]
  clear HE
  cases b1
  · cases b2
    · go_enter Tryd.func80, Tryd.ntmps80
      go_wp2_with (first | (go_at_call 66; refine (none_of H1.out _).mono ?_; rintro e w1 ⟨rfl, hb1⟩; obtain ⟨hc1, hf1⟩ := bcell hb1; have hz1 : w.heap.size < w1.heap.size := (by have := hb1.size; (try simp at this); omega); have HB := hid (show Below w.heap.size w w1 by first | exact HB.out.trans (hb1.mono HB.out.size) | exact ((Below.refl _ _).alloc (Nat.le_refl _) _).trans (hb1.mono (by simp)))) | (go_at_call 91; refine (scaled_of H2.out HS.out _).mono ?_; rintro e w1 ⟨rfl, hb1⟩; obtain ⟨hc1, hf1⟩ := bcell hb1; have hz1 : w.heap.size < w1.heap.size := (by have := hb1.size; (try simp at this); omega); have HB := hid (show Below w.heap.size w w1 by first | exact HB.out.trans (hb1.mono HB.out.size) | exact ((Below.refl _ _).alloc (Nat.le_refl _) _).trans (hb1.mono (by simp)))))
      go_returns
      exact ⟨rfl, HB.out⟩
    cases b3
    · go_enter Tryd.func80, Tryd.ntmps80
      go_wp2_with (first | (go_at_call 66; refine (none_of H1.out _).mono ?_; rintro e w1 ⟨rfl, hb1⟩; obtain ⟨hc1, hf1⟩ := bcell hb1; have hz1 : w.heap.size < w1.heap.size := (by have := hb1.size; (try simp at this); omega); have HB := hid (show Below w.heap.size w w1 by first | exact HB.out.trans (hb1.mono HB.out.size) | exact ((Below.refl _ _).alloc (Nat.le_refl _) _).trans (hb1.mono (by simp)))) | (go_at_call 91; refine (scaled_of H2.out HS.out _).mono ?_; rintro e w1 ⟨rfl, hb1⟩; obtain ⟨hc1, hf1⟩ := bcell hb1; have hz1 : w.heap.size < w1.heap.size := (by have := hb1.size; (try simp at this); omega); have HB := hid (show Below w.heap.size w w1 by first | exact HB.out.trans (hb1.mono HB.out.size) | exact ((Below.refl _ _).alloc (Nat.le_refl _) _).trans (hb1.mono (by simp)))) | (go_at_call 90; refine (wide_of H3.out _).mono ?_; rintro e w1 ⟨rfl, hb1⟩; obtain ⟨hc1, hf1⟩ := bcell hb1; have hz1 : w.heap.size < w1.heap.size := (by have := hb1.size; (try simp at this); omega); have HB := hid (show Below w.heap.size w w1 by first | exact HB.out.trans (hb1.mono HB.out.size) | exact ((Below.refl _ _).alloc (Nat.le_refl _) _).trans (hb1.mono (by simp)))))
      go_returns
      exact ⟨rfl, HB.out⟩
    by_cases h6 : bc = 8
    · subst h6
      go_enter Tryd.func80, Tryd.ntmps80
      go_wp2_with (first | (go_at_call 66; refine (none_of H1.out _).mono ?_; rintro e w1 ⟨rfl, hb1⟩; obtain ⟨hc1, hf1⟩ := bcell hb1; have hz1 : w.heap.size < w1.heap.size := (by have := hb1.size; (try simp at this); omega); have HB := hid (show Below w.heap.size w w1 by first | exact HB.out.trans (hb1.mono HB.out.size) | exact ((Below.refl _ _).alloc (Nat.le_refl _) _).trans (hb1.mono (by simp)))) | (go_at_call 91; refine (scaled_of H2.out HS.out _).mono ?_; rintro e w1 ⟨rfl, hb1⟩; obtain ⟨hc1, hf1⟩ := bcell hb1; have hz1 : w.heap.size < w1.heap.size := (by have := hb1.size; (try simp at this); omega); have HB := hid (show Below w.heap.size w w1 by first | exact HB.out.trans (hb1.mono HB.out.size) | exact ((Below.refl _ _).alloc (Nat.le_refl _) _).trans (hb1.mono (by simp)))) | (go_at_call 90; refine (wide_of H3.out _).mono ?_; rintro e w1 ⟨rfl, hb1⟩; obtain ⟨hc1, hf1⟩ := bcell hb1; have hz1 : w.heap.size < w1.heap.size := (by have := hb1.size; (try simp at this); omega); have HB := hid (show Below w.heap.size w w1 by first | exact HB.out.trans (hb1.mono HB.out.size) | exact ((Below.refl _ _).alloc (Nat.le_refl _) _).trans (hb1.mono (by simp)))))
      go_returns
      exact ⟨rfl, HB.out⟩
    cases b4
    · go_enter Tryd.func80, Tryd.ntmps80
      go_wp2_with (first | (go_at_call 66; refine (none_of H1.out _).mono ?_; rintro e w1 ⟨rfl, hb1⟩; obtain ⟨hc1, hf1⟩ := bcell hb1; have hz1 : w.heap.size < w1.heap.size := (by have := hb1.size; (try simp at this); omega); have HB := hid (show Below w.heap.size w w1 by first | exact HB.out.trans (hb1.mono HB.out.size) | exact ((Below.refl _ _).alloc (Nat.le_refl _) _).trans (hb1.mono (by simp)))) | (go_at_call 91; refine (scaled_of H2.out HS.out _).mono ?_; rintro e w1 ⟨rfl, hb1⟩; obtain ⟨hc1, hf1⟩ := bcell hb1; have hz1 : w.heap.size < w1.heap.size := (by have := hb1.size; (try simp at this); omega); have HB := hid (show Below w.heap.size w w1 by first | exact HB.out.trans (hb1.mono HB.out.size) | exact ((Below.refl _ _).alloc (Nat.le_refl _) _).trans (hb1.mono (by simp)))) | (go_at_call 90; refine (wide_of H3.out _).mono ?_; rintro e w1 ⟨rfl, hb1⟩; obtain ⟨hc1, hf1⟩ := bcell hb1; have hz1 : w.heap.size < w1.heap.size := (by have := hb1.size; (try simp at this); omega); have HB := hid (show Below w.heap.size w w1 by first | exact HB.out.trans (hb1.mono HB.out.size) | exact ((Below.refl _ _).alloc (Nat.le_refl _) _).trans (hb1.mono (by simp)))) | (go_at_call 67; with_reducible refine (stack_of H4.out _).mono ?_; rintro e w1 ⟨rfl, hb1⟩; obtain ⟨hc1, hf1⟩ := bcell hb1; have hz1 : w.heap.size < w1.heap.size := (by have := hb1.size; (try simp at this); omega); have HB := hid (show Below w.heap.size w w1 by first | exact HB.out.trans (hb1.mono HB.out.size) | exact ((Below.refl _ _).alloc (Nat.le_refl _) _).trans (hb1.mono (by simp)))) | (go_at_call 67; with_reducible refine (stack_of H5.out _).mono ?_; rintro e w1 ⟨rfl, hb1⟩; obtain ⟨hc1, hf1⟩ := bcell hb1; have hz1 : w.heap.size < w1.heap.size := (by have := hb1.size; (try simp at this); omega); have HB := hid (show Below w.heap.size w w1 by first | exact HB.out.trans (hb1.mono HB.out.size) | exact ((Below.refl _ _).alloc (Nat.le_refl _) _).trans (hb1.mono (by simp)))))
      go_returns
      exact ⟨by simp_all, HB.out⟩
    by_cases h7 : s = 1
    · subst h7
      go_enter Tryd.func80, Tryd.ntmps80
      go_wp2_with (first | (go_at_call 66; refine (none_of H1.out _).mono ?_; rintro e w1 ⟨rfl, hb1⟩; obtain ⟨hc1, hf1⟩ := bcell hb1; have hz1 : w.heap.size < w1.heap.size := (by have := hb1.size; (try simp at this); omega); have HB := hid (show Below w.heap.size w w1 by first | exact HB.out.trans (hb1.mono HB.out.size) | exact ((Below.refl _ _).alloc (Nat.le_refl _) _).trans (hb1.mono (by simp)))) | (go_at_call 91; refine (scaled_of H2.out HS.out _).mono ?_; rintro e w1 ⟨rfl, hb1⟩; obtain ⟨hc1, hf1⟩ := bcell hb1; have hz1 : w.heap.size < w1.heap.size := (by have := hb1.size; (try simp at this); omega); have HB := hid (show Below w.heap.size w w1 by first | exact HB.out.trans (hb1.mono HB.out.size) | exact ((Below.refl _ _).alloc (Nat.le_refl _) _).trans (hb1.mono (by simp)))) | (go_at_call 90; refine (wide_of H3.out _).mono ?_; rintro e w1 ⟨rfl, hb1⟩; obtain ⟨hc1, hf1⟩ := bcell hb1; have hz1 : w.heap.size < w1.heap.size := (by have := hb1.size; (try simp at this); omega); have HB := hid (show Below w.heap.size w w1 by first | exact HB.out.trans (hb1.mono HB.out.size) | exact ((Below.refl _ _).alloc (Nat.le_refl _) _).trans (hb1.mono (by simp)))) | (go_at_call 67; with_reducible refine (stack_of H4.out _).mono ?_; rintro e w1 ⟨rfl, hb1⟩; obtain ⟨hc1, hf1⟩ := bcell hb1; have hz1 : w.heap.size < w1.heap.size := (by have := hb1.size; (try simp at this); omega); have HB := hid (show Below w.heap.size w w1 by first | exact HB.out.trans (hb1.mono HB.out.size) | exact ((Below.refl _ _).alloc (Nat.le_refl _) _).trans (hb1.mono (by simp)))) | (go_at_call 67; with_reducible refine (stack_of H5.out _).mono ?_; rintro e w1 ⟨rfl, hb1⟩; obtain ⟨hc1, hf1⟩ := bcell hb1; have hz1 : w.heap.size < w1.heap.size := (by have := hb1.size; (try simp at this); omega); have HB := hid (show Below w.heap.size w w1 by first | exact HB.out.trans (hb1.mono HB.out.size) | exact ((Below.refl _ _).alloc (Nat.le_refl _) _).trans (hb1.mono (by simp)))))
      go_returns
      exact ⟨by simp_all, HB.out⟩
    · go_enter Tryd.func80, Tryd.ntmps80
      go_wp2_with (first | (go_at_call 66; refine (none_of H1.out _).mono ?_; rintro e w1 ⟨rfl, hb1⟩; obtain ⟨hc1, hf1⟩ := bcell hb1; have hz1 : w.heap.size < w1.heap.size := (by have := hb1.size; (try simp at this); omega); have HB := hid (show Below w.heap.size w w1 by first | exact HB.out.trans (hb1.mono HB.out.size) | exact ((Below.refl _ _).alloc (Nat.le_refl _) _).trans (hb1.mono (by simp)))) | (go_at_call 91; refine (scaled_of H2.out HS.out _).mono ?_; rintro e w1 ⟨rfl, hb1⟩; obtain ⟨hc1, hf1⟩ := bcell hb1; have hz1 : w.heap.size < w1.heap.size := (by have := hb1.size; (try simp at this); omega); have HB := hid (show Below w.heap.size w w1 by first | exact HB.out.trans (hb1.mono HB.out.size) | exact ((Below.refl _ _).alloc (Nat.le_refl _) _).trans (hb1.mono (by simp)))) | (go_at_call 90; refine (wide_of H3.out _).mono ?_; rintro e w1 ⟨rfl, hb1⟩; obtain ⟨hc1, hf1⟩ := bcell hb1; have hz1 : w.heap.size < w1.heap.size := (by have := hb1.size; (try simp at this); omega); have HB := hid (show Below w.heap.size w w1 by first | exact HB.out.trans (hb1.mono HB.out.size) | exact ((Below.refl _ _).alloc (Nat.le_refl _) _).trans (hb1.mono (by simp)))) | (go_at_call 67; with_reducible refine (stack_of H4.out _).mono ?_; rintro e w1 ⟨rfl, hb1⟩; obtain ⟨hc1, hf1⟩ := bcell hb1; have hz1 : w.heap.size < w1.heap.size := (by have := hb1.size; (try simp at this); omega); have HB := hid (show Below w.heap.size w w1 by first | exact HB.out.trans (hb1.mono HB.out.size) | exact ((Below.refl _ _).alloc (Nat.le_refl _) _).trans (hb1.mono (by simp)))) | (go_at_call 67; with_reducible refine (stack_of H5.out _).mono ?_; rintro e w1 ⟨rfl, hb1⟩; obtain ⟨hc1, hf1⟩ := bcell hb1; have hz1 : w.heap.size < w1.heap.size := (by have := hb1.size; (try simp at this); omega); have HB := hid (show Below w.heap.size w w1 by first | exact HB.out.trans (hb1.mono HB.out.size) | exact ((Below.refl _ _).alloc (Nat.le_refl _) _).trans (hb1.mono (by simp)))))
      go_returns
      exact ⟨by simp_all, HB.out⟩
  · go_enter Tryd.func80, Tryd.ntmps80
    go_wp2_with (go_at_call 66; refine (none_of H1.out _).mono ?_; rintro e w1 ⟨rfl, hb1⟩; obtain ⟨hc1, hf1⟩ := bcell hb1; have hz1 : w.heap.size < w1.heap.size := (by have := hb1.size; (try simp at this); omega); have HB := hid (show Below w.heap.size w w1 by first | exact HB.out.trans (hb1.mono HB.out.size) | exact ((Below.refl _ _).alloc (Nat.le_refl _) _).trans (hb1.mono (by simp))))
    all_goals
      go_returns
      exact ⟨by simp_all, HB.out⟩
theorem indexed_of {bc bn ic ix s d z : Int} {b : Bool} (h : indexedF ⟨bc, bn, ic, ix, s, d, z⟩ = b) (hs : I64 s) (w : World) :
    Calls Tryd.prog 80 #[.agg #[.int .i64 bc, .int .i64 bn, .int .i64 ic, .int .i64 ix, .int .i64 s, .int .i64 d, .int .i64 z]] w fun e w' => e = .returned (.bool b) ∧ Below w.heap.size w w' := by
  have := indexed_any bc bn ic ix s d z hs w
  rw [h] at this
  exact this
theorem check_any (bc bn ic ix s d z : Int) (hs : I64 s) (w : World) :
    Calls Tryd.prog 65 #[.agg #[.int .i64 bc, .int .i64 bn, .int .i64 ic, .int .i64 ix, .int .i64 s, .int .i64 d, .int .i64 z]] w fun e w' => e = .returned (.int .i64 (checkF ⟨bc, bn, ic, ix, s, d, z⟩)) ∧ Below w.heap.size w w' := by
  have HS := hid hs
  clear hs
  obtain ⟨b1, h1⟩ : ∃ b, sizedF z = b := ⟨_, rfl⟩
  obtain ⟨b2, h2⟩ : ∃ b, basedF bc bn = b := ⟨_, rfl⟩
  obtain ⟨b3, h3⟩ : ∃ b, indexedF ⟨bc, bn, ic, ix, s, d, z⟩ = b := ⟨_, rfl⟩
  have HE := hid (show checkF ⟨bc, bn, ic, ix, s, d, z⟩ = (if d < -2147483648 ∨ 2147483647 < d then 5 else if b1 && b2 && b3 then 0 else 2) by simp only [checkF, h1, h2, h3])
  have H1 := hid h1
  have H2 := hid h2
  have H3 := hid h3
  clear h1 h2 h3
  rw [HE.out]
  clear HE
  by_cases h4 : d < -2147483648
  · go_enter Tryd.func65, Tryd.ntmps65
    go_wp2_with fail
    go_returns
    exact ⟨by simp_all, by go_grown⟩
  by_cases h5 : 2147483647 < d
  · go_enter Tryd.func65, Tryd.ntmps65
    go_wp2_with fail
    go_returns
    exact ⟨by simp_all, by go_grown⟩
  cases b1
  · go_enter Tryd.func65, Tryd.ntmps65
    go_wp2_with (go_at_call 78; refine (sized_of H1.out _).mono ?_; rintro e w' ⟨rfl, rfl⟩)
    go_returns
    exact ⟨by simp_all, by go_grown⟩
  cases b2
  · go_enter Tryd.func65, Tryd.ntmps65
    go_wp2_with (first | (go_at_call 78; refine (sized_of H1.out _).mono ?_; rintro e w' ⟨rfl, rfl⟩) | (go_at_call 79; refine (based_of H2.out _).mono ?_; rintro e w1 ⟨rfl, hb1⟩; obtain ⟨hc1, hf1⟩ := bcell hb1; have hz1 : w.heap.size < w1.heap.size := (by have := hb1.size; (try simp at this); omega); have HB := hid (show Below w.heap.size w w1 by first | exact HB.out.trans (hb1.mono HB.out.size) | exact ((Below.refl _ _).alloc (Nat.le_refl _) _).trans (hb1.mono (by simp)))))
    go_returns
    exact ⟨by simp_all, HB.out⟩
  cases b3
  · go_enter Tryd.func65, Tryd.ntmps65
    go_wp2_with (first | (go_at_call 78; refine (sized_of H1.out _).mono ?_; rintro e w' ⟨rfl, rfl⟩) | (go_at_call 79; refine (based_of H2.out _).mono ?_; rintro e w1 ⟨rfl, hb1⟩; obtain ⟨hc1, hf1⟩ := bcell hb1; have hz1 : w.heap.size < w1.heap.size := (by have := hb1.size; (try simp at this); omega); have HB := hid (show Below w.heap.size w w1 by first | exact HB.out.trans (hb1.mono HB.out.size) | exact ((Below.refl _ _).alloc (Nat.le_refl _) _).trans (hb1.mono (by simp)))) | (go_at_call 80; refine (indexed_of H3.out HS.out _).mono ?_; rintro e w1 ⟨rfl, hb1⟩; obtain ⟨hc1, hf1⟩ := bcell hb1; have hz1 : w.heap.size < w1.heap.size := (by have := hb1.size; (try simp at this); omega); have HB := hid (show Below w.heap.size w w1 by first | exact HB.out.trans (hb1.mono HB.out.size) | exact ((Below.refl _ _).alloc (Nat.le_refl _) _).trans (hb1.mono (by simp)))))
    go_returns
    exact ⟨by simp_all, HB.out⟩
  · go_enter Tryd.func65, Tryd.ntmps65
    go_wp2_with (first | (go_at_call 78; refine (sized_of H1.out _).mono ?_; rintro e w' ⟨rfl, rfl⟩) | (go_at_call 79; refine (based_of H2.out _).mono ?_; rintro e w1 ⟨rfl, hb1⟩; obtain ⟨hc1, hf1⟩ := bcell hb1; have hz1 : w.heap.size < w1.heap.size := (by have := hb1.size; (try simp at this); omega); have HB := hid (show Below w.heap.size w w1 by first | exact HB.out.trans (hb1.mono HB.out.size) | exact ((Below.refl _ _).alloc (Nat.le_refl _) _).trans (hb1.mono (by simp)))) | (go_at_call 80; refine (indexed_of H3.out HS.out _).mono ?_; rintro e w1 ⟨rfl, hb1⟩; obtain ⟨hc1, hf1⟩ := bcell hb1; have hz1 : w.heap.size < w1.heap.size := (by have := hb1.size; (try simp at this); omega); have HB := hid (show Below w.heap.size w w1 by first | exact HB.out.trans (hb1.mono HB.out.size) | exact ((Below.refl _ _).alloc (Nat.le_refl _) _).trans (hb1.mono (by simp)))))
    go_returns
    exact ⟨by simp_all, HB.out⟩
theorem check_of {bc bn ic ix s d z k : Int} (h : checkF ⟨bc, bn, ic, ix, s, d, z⟩ = k) (hs : I64 s) (w : World) :
    Calls Tryd.prog 65 #[.agg #[.int .i64 bc, .int .i64 bn, .int .i64 ic, .int .i64 ix, .int .i64 s, .int .i64 d, .int .i64 z]] w fun e w' => e = .returned (.int .i64 k) ∧ Below w.heap.size w w' := by
  have := check_any bc bn ic ix s d z hs w
  rw [h] at this
  exact this
end Go.Proofs.YtiiepdgpnnjpiaaDoor
