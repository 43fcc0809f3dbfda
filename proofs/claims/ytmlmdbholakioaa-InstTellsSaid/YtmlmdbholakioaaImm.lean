/-
  A number in so many bits: Imm of both sides.
-/
import Derived.Test.YtmlmdbholakioaaOwn
namespace Go.Proofs.Ytmlmdbholakioaa
open Go.RowKit

def fourW (b : Int) : Bool := b == 8 || b == 16 || b == 32 || b == 64
def immE (n b : Int) : Int := if fourW b = true then (if ¬ n = sgn n b ∧ ¬ n = low n b then 5 else 0) else 2
def immV (n b : Int) (s : Bool) : Int := if fourW b = true then (if ¬ n = sgn n b ∧ ¬ n = low n b then 0 else if s = true then sgn n b else low n b) else 0
theorem fourW_in {b : Int} (h : fourW b = true) : 1 ≤ b ∧ b ≤ 64 := by simp [fourW] at h; omega
theorem wideb_any (b : Int) (w : World) :
    Calls Try.prog 62 #[.int .i64 b] w fun e w' => e = .returned (.bool (fourW b)) ∧ w = w' := by
  go_enter Try.func62, Try.ntmps62
  go_wp2
  all_goals (go_ret; exact ⟨ret_b (by simp_all [fourW]), rfl⟩)
theorem wideb_of {b : Int} {v : Bool} (h : fourW b = v) (w : World) :
    Calls Try.prog 62 #[.int .i64 b] w fun e w' => e = .returned (.bool v) ∧ w = w' := by
  have := wideb_any b w
  rw [h] at this
  exact this
theorem cut_of {n b x y : Int} (hn : I64 n) (h : 1 ≤ b ∧ b ≤ 64) (hx : sgn n b = x) (hy : low n b = y) (w : World) :
    Calls Try.prog 63 #[.int .i64 n, .int .i64 b] w fun e w' => e = .returned (.tuple #[.int .i64 x, .int .i64 y]) ∧ Below w.heap.size w w' := by
  have h1 := h.1
  have h2 := h.2
  have H := hid ((shift_sgn n b h1 h2).trans hx)
  have H2 := hid ((shift_low n b hn h1 h2).trans hy)
  clear hn h hx hy
  go_enter Try.func63, Try.ntmps63
  go_wp2
  go_region
  go_wp2
  refine bodyPost_ret (v := .tuple #[.int .i64 x, .int .i64 y]) (by simp [results, Try.results63, go_sem, H.out, H2.out]) rfl ⟨rfl, ?_⟩
  go_grown
theorem imm_out {n b x y : Int} (s : Bool) (HN : Hid (I64 n)) (HB : Hid (1 ≤ b ∧ b ≤ 64)) (HW : Hid (fourW b = true)) (HX : Hid (sgn n b = x)) (HY : Hid (low n b = y)) (h1 : (n != x) = true) (h2 : (n != y) = true) (w : World) :
    Calls Try.prog 50 #[.int .i64 n, .int .i64 b, .bool s] w fun e w' => e = .returned (.tuple #[.int .i64 0, .int .i64 5]) ∧ Below w.heap.size w w' := by
  go_enter Try.func50, Try.ntmps50
  go_wp2_with (first | (go_at_call 62; refine (wideb_of HW.out _).mono ?_; rintro e w' ⟨rfl, rfl⟩) | (go_at_call 63; refine (cut_of HN.out HB.out HX.out HY.out _).mono ?_; rintro e w' ⟨rfl, hb⟩))
  go_ret2
  exact ⟨rfl, hb⟩
theorem imm_in1_true {n b x y : Int} (HN : Hid (I64 n)) (HB : Hid (1 ≤ b ∧ b ≤ 64)) (HW : Hid (fourW b = true)) (HX : Hid (sgn n b = x)) (HY : Hid (low n b = y)) (h1 : (n != x) = false) (w : World) :
    Calls Try.prog 50 #[.int .i64 n, .int .i64 b, .bool true] w fun e w' => e = .returned (.tuple #[.int .i64 x, .int .i64 0]) ∧ Below w.heap.size w w' := by
  go_enter Try.func50, Try.ntmps50
  go_wp2_with (first | (go_at_call 62; refine (wideb_of HW.out _).mono ?_; rintro e w' ⟨rfl, rfl⟩) | (go_at_call 63; refine (cut_of HN.out HB.out HX.out HY.out _).mono ?_; rintro e w' ⟨rfl, hb⟩))
  go_ret2
  exact ⟨rfl, hb⟩
theorem imm_in2_true {n b x y : Int} (HN : Hid (I64 n)) (HB : Hid (1 ≤ b ∧ b ≤ 64)) (HW : Hid (fourW b = true)) (HX : Hid (sgn n b = x)) (HY : Hid (low n b = y)) (h1 : (n != x) = true) (h2 : (n != y) = false) (w : World) :
    Calls Try.prog 50 #[.int .i64 n, .int .i64 b, .bool true] w fun e w' => e = .returned (.tuple #[.int .i64 x, .int .i64 0]) ∧ Below w.heap.size w w' := by
  go_enter Try.func50, Try.ntmps50
  go_wp2_with (first | (go_at_call 62; refine (wideb_of HW.out _).mono ?_; rintro e w' ⟨rfl, rfl⟩) | (go_at_call 63; refine (cut_of HN.out HB.out HX.out HY.out _).mono ?_; rintro e w' ⟨rfl, hb⟩))
  go_ret2
  exact ⟨rfl, hb⟩
theorem imm_in1_false {n b x y : Int} (HN : Hid (I64 n)) (HB : Hid (1 ≤ b ∧ b ≤ 64)) (HW : Hid (fourW b = true)) (HX : Hid (sgn n b = x)) (HY : Hid (low n b = y)) (h1 : (n != x) = false) (w : World) :
    Calls Try.prog 50 #[.int .i64 n, .int .i64 b, .bool false] w fun e w' => e = .returned (.tuple #[.int .i64 y, .int .i64 0]) ∧ Below w.heap.size w w' := by
  go_enter Try.func50, Try.ntmps50
  go_wp2_with (first | (go_at_call 62; refine (wideb_of HW.out _).mono ?_; rintro e w' ⟨rfl, rfl⟩) | (go_at_call 63; refine (cut_of HN.out HB.out HX.out HY.out _).mono ?_; rintro e w' ⟨rfl, hb⟩))
  go_ret2
  exact ⟨rfl, hb⟩
theorem imm_in2_false {n b x y : Int} (HN : Hid (I64 n)) (HB : Hid (1 ≤ b ∧ b ≤ 64)) (HW : Hid (fourW b = true)) (HX : Hid (sgn n b = x)) (HY : Hid (low n b = y)) (h1 : (n != x) = true) (h2 : (n != y) = false) (w : World) :
    Calls Try.prog 50 #[.int .i64 n, .int .i64 b, .bool false] w fun e w' => e = .returned (.tuple #[.int .i64 y, .int .i64 0]) ∧ Below w.heap.size w w' := by
  go_enter Try.func50, Try.ntmps50
  go_wp2_with (first | (go_at_call 62; refine (wideb_of HW.out _).mono ?_; rintro e w' ⟨rfl, rfl⟩) | (go_at_call 63; refine (cut_of HN.out HB.out HX.out HY.out _).mono ?_; rintro e w' ⟨rfl, hb⟩))
  go_ret2
  exact ⟨rfl, hb⟩
theorem imm_not {n b : Int} (s : Bool) (HW : Hid (fourW b = false)) (w : World) :
    Calls Try.prog 50 #[.int .i64 n, .int .i64 b, .bool s] w fun e w' => e = .returned (.tuple #[.int .i64 0, .int .i64 2]) ∧ Below w.heap.size w w' := by
  go_enter Try.func50, Try.ntmps50
  go_wp2_with (go_at_call 62; refine (wideb_of HW.out _).mono ?_; rintro e w' ⟨rfl, rfl⟩)
  go_ret2
  exact ⟨rfl, by go_grown⟩
theorem imm_of {n b v e' : Int} {s : Bool} (hn : I64 n) (hv : immV n b s = v) (he : immE n b = e') (w : World) :
    Calls Try.prog 50 #[.int .i64 n, .int .i64 b, .bool s] w fun e w' => e = .returned (.tuple #[.int .i64 v, .int .i64 e']) ∧ Below w.heap.size w w' := by
  subst hv he
  unfold immV immE
  cases hw : fourW b
  · exact imm_not s (hid hw) w
  · rw [if_pos rfl, if_pos rfl]
    have hb := fourW_in hw
    by_cases h1 : n = sgn n b
    · have e1 : ¬(¬ n = sgn n b ∧ ¬ n = low n b) := fun h => h.1 h1
      rw [if_neg e1, if_neg e1]
      cases s
      · exact imm_in1_false (hid hn) (hid hb) (hid hw) (hid rfl) (hid rfl) (by simpa using h1) w
      · exact imm_in1_true (hid hn) (hid hb) (hid hw) (hid rfl) (hid rfl) (by simpa using h1) w
    · by_cases h2 : n = low n b
      · have e1 : ¬(¬ n = sgn n b ∧ ¬ n = low n b) := fun h => h.2 h2
        rw [if_neg e1, if_neg e1]
        cases s
        · exact imm_in2_false (hid hn) (hid hb) (hid hw) (hid rfl) (hid rfl) (bne_iff_ne.2 h1) (by simpa using h2) w
        · exact imm_in2_true (hid hn) (hid hb) (hid hw) (hid rfl) (hid rfl) (bne_iff_ne.2 h1) (by simpa using h2) w
      · rw [if_pos ⟨h1, h2⟩, if_pos ⟨h1, h2⟩]
        exact imm_out s (hid hn) (hid hb) (hid hw) (hid rfl) (hid rfl) (bne_iff_ne.2 h1) (bne_iff_ne.2 h2) w
end Go.Proofs.Ytmlmdbholakioaa
