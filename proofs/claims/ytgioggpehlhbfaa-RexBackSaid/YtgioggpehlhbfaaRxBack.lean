/-
  Law 10: RexBack.
-/
import Derived.Test.YtgioggpehlhbfaaRxBackB
import Derived.Test.YtgioggpehlhbfaaRxBackC
import Derived.Test.YtgioggpehlhbfaaRxBackD
namespace Go.Proofs.Ytgioggpehlhbfaa
open Go.RowKit
set_option maxRecDepth 100000

theorem back_long (pre n : Int) (A : Option Addr) (c : Nat) (zs : List Int) (w : World) (hl2 : (20 : Int) < zs.length) :
    Calls Try.prog 6 #[.int .i64 pre, .int .i64 n, .slice A zs.length c] w fun e w' => e = .returned (.bool true) ∧ Below w.heap.size w w' := by
  go_enter Try.func6, Try.ntmps6
  go_wp2_with (go_at_call 5; refine (known_law _).mono ?_; rintro e w6 ⟨rfl, hb6⟩; have HB6 := hid hb6; clear hb6)
  go_ret
  exact ⟨rfl, HB6.out⟩
theorem layB_len (pre n : Int) : (layB pre n).length ≤ 1000 := by
  unfold layB preB rexB
  split
  · have h1 := addF_length pre [1] [102] 1 (by decide)
    have h2 := addF_length pre [2, 4] [242, 243] 2 (by decide)
    rw [List.length_append, List.length_append]
    split <;> simp <;> omega
  · simp
/-- The ways of the code and the number. -/
theorem ways (pre n : Int) : (layE pre n = 0 ∧ n < 0) ∨ (layE pre n = 0 ∧ 0 ≤ n ∧ n ≤ 15) ∨ ((layE pre n == 0) = false ∧ n < 0) ∨ ((layE pre n == 0) = false ∧ 0 ≤ n ∧ n ≤ 15) ∨ ((layE pre n == 0) = false ∧ 15 < n) := by
  by_cases h : layE pre n = 0
  · have hr : n = -1 ∨ (0 ≤ n ∧ n ≤ 15) := by
      have hv : validF pre = true := by
        cases hv : validF pre
        · simp [layE, hv] at h
        · rfl
      by_cases h1 : n = -1
      · exact .inl h1
      · refine .inr (isF_yes ?_)
        simp [layE, hv, h1] at h
        exact h
    rcases hr with hr | hr
    · exact .inl ⟨h, by omega⟩
    · exact .inr (.inl ⟨h, hr⟩)
  · have h' : (layE pre n == 0) = false := by simpa using h
    by_cases h1 : n < 0
    · exact .inr (.inr (.inl ⟨h', h1⟩))
    · by_cases h2 : n ≤ 15
      · exact .inr (.inr (.inr (.inl ⟨h', by omega, h2⟩)))
      · exact .inr (.inr (.inr (.inr ⟨h', by omega⟩)))
/-- The classes of a first byte. -/
theorem classes (y : Int) : (y != 102) = false ∨ ((y != 102) = true ∧ (y != 242) = false) ∨ ((y != 102) = true ∧ (y != 242) = true ∧ (y != 243) = false) ∨ ((y != 102) = true ∧ (y != 242) = true ∧ (y != 243) = true ∧ y < 64) ∨
    ((y != 102) = true ∧ (y != 242) = true ∧ (y != 243) = true ∧ 64 ≤ y ∧ y ≤ 79) ∨ ((y != 102) = true ∧ (y != 242) = true ∧ (y != 243) = true ∧ 64 ≤ y ∧ 79 < y) := by
  cases h1 : (y != 102)
  · exact .inl rfl
  cases h2 : (y != 242)
  · exact .inr (.inl ⟨rfl, rfl⟩)
  cases h3 : (y != 243)
  · exact .inr (.inr (.inl ⟨rfl, rfl, rfl⟩))
  by_cases h4 : y < 64
  · exact .inr (.inr (.inr (.inl ⟨rfl, rfl, rfl, h4⟩)))
  by_cases h5 : 79 < y
  · exact .inr (.inr (.inr (.inr (.inr ⟨rfl, rfl, rfl, by omega, h5⟩))))
  · exact .inr (.inr (.inr (.inr (.inl ⟨rfl, rfl, rfl, by omega, by omega⟩))))
theorem free_lo {zs : List Int} {y : Int} (h : freeF zs = (y != 102 && y != 242 && y != 243 && (decide (y < 64) || decide (79 < y)))) (h1 : (y != 102) = true) (h2 : (y != 242) = true) (h3 : (y != 243) = true) (h4 : y < 64 ∨ 79 < y) : freeF zs = true := by
  rw [h, h1, h2, h3]
  rcases h4 with h4 | h4 <;> simp [h4]
theorem back_law (pre n : Int) (A : Option Addr) (c : Nat) (zs : List Int) (w : World) (_ : I64 pre) (_ : I64 n) (hx : Mem w w.heap.size A zs) (hzc : zs.length ≤ c) (hcl : c ≤ 9223372036854775807) :
    Calls Try.prog 6 #[.int .i64 pre, .int .i64 n, .slice A zs.length c] w fun e w' => e = .returned (.bool true) ∧ Below w.heap.size w w' := by
  by_cases hl : 20 < zs.length
  · exact back_long pre n A c zs w (by omega)
  have hrl := read_laid zs
  have HRead : ∀ W : World, Mem W W.heap.size A zs → Calls Try.prog 17 #[.slice A zs.length c] W fun e w' => e = .returned (.tuple #[.int .i64 (rdP zs), .int .i64 (rdR zs), .int .i64 (rdN zs)]) ∧ Below W.heap.size W w' :=
    fun W hW => xread_any A zs.length c zs rfl hzc hcl W hW
  have hl2 : (zs.length : Int) ≤ 20 := by omega
  have hk3 : (rdN zs : Int) ≤ 3 ∧ (rdN zs : Int) ≤ zs.length ∧ (0 : Int) ≤ rdN zs := by omega
  have hc2 : (zs.length : Int) ≤ c ∧ (c : Int) ≤ 9223372036854775807 := by omega
  have HLS := And.intro (rfl : layB pre n = layB pre n) (layB_len pre n)
  have hbp := fun h0 hf => back_plain pre n zs h0 hf
  have hsh : (zs = []) ∨ (∃ q off y, freeF zs = (y != 102 && y != 242 && y != 243 && (decide (y < 64) || decide (79 < y))) ∧ A = some ⟨q, off, none⟩ ∧ w.cell? ⟨q, off, none⟩ = some (.int .u8 y) ∧ 0 < zs.length ∧ q < w.heap.size) := by
    rcases hx.2 with h | ⟨q, off, h, hq, hc⟩
    · exact .inl h
    · rcases zs with _ | ⟨y, t⟩
      · exact .inl rfl
      · exact .inr ⟨q, off, y, rfl, h, by simpa using hc 0 (by simp), by simp, hq⟩
  rcases hsh with h0 | ⟨q, off, y, hfr, rfl, hcy, hpos, hq⟩
  · have hb : ((zs.length : Int) == 0) = true := by rw [h0]; rfl
    have hf : freeF zs = true := by rw [h0]; rfl
    clear h0
    rcases ways pre n with ⟨hz, g0⟩ | ⟨hz, g0, g1⟩ | ⟨hz, g0⟩ | ⟨hz, g0, g1⟩ | ⟨hz, g0⟩
    · exact bk_n0 pre n A c _ zs _ _ _ _ w hb  g0 (hid hx) (hid rfl) hl2 (hid hz) (hid HLS) (hid (hbp hz (.inl hf))) (hid hrl) hk3 hc2 (hid HRead)
    · exact bk_n1 pre n A c _ zs _ _ _ _ w hb  g0 g1 (hid hx) (hid rfl) hl2 (hid hz) (hid HLS) (hid (bits_rex ⟨g0, g1⟩)) (hid (hbp hz (.inr g0))) (hid hrl) hk3 hc2 (hid HRead)
    · exact bk_n2 pre n A c _ zs _ _ _ _ w _ hz hb  g0 (hid hx) (hid rfl) hl2 (hid rfl) (hid HLS) (hid hrl) hk3 hc2 (hid HRead)
    · exact bk_n3 pre n A c _ zs _ _ _ _ w _ hz hb  g0 g1 (hid hx) (hid rfl) hl2 (hid rfl) (hid HLS) (hid (bits_rex ⟨g0, g1⟩)) (hid hrl) hk3 hc2 (hid HRead)
    · exact bk_n4 pre n A c _ zs _ _ _ _ w _ hz hb  g0 (hid hx) (hid rfl) hl2 (hid rfl) (hid HLS) (hid hrl) hk3 hc2 (hid HRead)
  · have hb : ((zs.length : Int) == 0) = false := by rw [beq_eq_false_iff_ne]; omega
    have hp : (0 : Int) < zs.length := by omega
    rcases classes y with h0 | ⟨h0, h1⟩ | ⟨h0, h1, h2⟩ | ⟨h0, h1, h2, h3⟩ | ⟨h0, h1, h2, h3⟩ | ⟨h0, h1, h2, h3⟩
    · rcases ways pre n with ⟨hz, g0⟩ | ⟨hz, g0, g1⟩ | ⟨hz, g0⟩ | ⟨hz, g0, g1⟩ | ⟨hz, g0⟩
      · exact bk_a0 pre n q off c _ zs _ y _ _ _ w hb hp hq hcy h0 g0 (hid hx) (hid rfl) hl2 (hid hz) (hid HLS) (hid hrl) hk3 hc2 (hid HRead)
      · exact bk_a1 pre n q off c _ zs _ y _ _ _ w hb hp hq hcy h0 g0 g1 (hid hx) (hid rfl) hl2 (hid hz) (hid HLS) (hid (bits_rex ⟨g0, g1⟩)) (hid (hbp hz (.inr g0))) (hid hrl) hk3 hc2 (hid HRead)
      · exact bk_a2 pre n q off c _ zs _ y _ _ _ w _ hz hb hp hq hcy h0 g0 (hid hx) (hid rfl) hl2 (hid rfl) (hid HLS) (hid hrl) hk3 hc2 (hid HRead)
      · exact bk_a3 pre n q off c _ zs _ y _ _ _ w _ hz hb hp hq hcy h0 g0 g1 (hid hx) (hid rfl) hl2 (hid rfl) (hid HLS) (hid (bits_rex ⟨g0, g1⟩)) (hid hrl) hk3 hc2 (hid HRead)
      · exact bk_a4 pre n q off c _ zs _ y _ _ _ w _ hz hb hp hq hcy h0 g0 (hid hx) (hid rfl) hl2 (hid rfl) (hid HLS) (hid hrl) hk3 hc2 (hid HRead)
    · rcases ways pre n with ⟨hz, g0⟩ | ⟨hz, g0, g1⟩ | ⟨hz, g0⟩ | ⟨hz, g0, g1⟩ | ⟨hz, g0⟩
      · exact bk_b0 pre n q off c _ zs _ y _ _ _ w hb hp hq hcy h0 h1 g0 (hid hx) (hid rfl) hl2 (hid hz) (hid HLS) (hid hrl) hk3 hc2 (hid HRead)
      · exact bk_b1 pre n q off c _ zs _ y _ _ _ w hb hp hq hcy h0 h1 g0 g1 (hid hx) (hid rfl) hl2 (hid hz) (hid HLS) (hid (bits_rex ⟨g0, g1⟩)) (hid (hbp hz (.inr g0))) (hid hrl) hk3 hc2 (hid HRead)
      · exact bk_b2 pre n q off c _ zs _ y _ _ _ w _ hz hb hp hq hcy h0 h1 g0 (hid hx) (hid rfl) hl2 (hid rfl) (hid HLS) (hid hrl) hk3 hc2 (hid HRead)
      · exact bk_b3 pre n q off c _ zs _ y _ _ _ w _ hz hb hp hq hcy h0 h1 g0 g1 (hid hx) (hid rfl) hl2 (hid rfl) (hid HLS) (hid (bits_rex ⟨g0, g1⟩)) (hid hrl) hk3 hc2 (hid HRead)
      · exact bk_b4 pre n q off c _ zs _ y _ _ _ w _ hz hb hp hq hcy h0 h1 g0 (hid hx) (hid rfl) hl2 (hid rfl) (hid HLS) (hid hrl) hk3 hc2 (hid HRead)
    · rcases ways pre n with ⟨hz, g0⟩ | ⟨hz, g0, g1⟩ | ⟨hz, g0⟩ | ⟨hz, g0, g1⟩ | ⟨hz, g0⟩
      · exact bk_c0 pre n q off c _ zs _ y _ _ _ w hb hp hq hcy h0 h1 h2 g0 (hid hx) (hid rfl) hl2 (hid hz) (hid HLS) (hid hrl) hk3 hc2 (hid HRead)
      · exact bk_c1 pre n q off c _ zs _ y _ _ _ w hb hp hq hcy h0 h1 h2 g0 g1 (hid hx) (hid rfl) hl2 (hid hz) (hid HLS) (hid (bits_rex ⟨g0, g1⟩)) (hid (hbp hz (.inr g0))) (hid hrl) hk3 hc2 (hid HRead)
      · exact bk_c2 pre n q off c _ zs _ y _ _ _ w _ hz hb hp hq hcy h0 h1 h2 g0 (hid hx) (hid rfl) hl2 (hid rfl) (hid HLS) (hid hrl) hk3 hc2 (hid HRead)
      · exact bk_c3 pre n q off c _ zs _ y _ _ _ w _ hz hb hp hq hcy h0 h1 h2 g0 g1 (hid hx) (hid rfl) hl2 (hid rfl) (hid HLS) (hid (bits_rex ⟨g0, g1⟩)) (hid hrl) hk3 hc2 (hid HRead)
      · exact bk_c4 pre n q off c _ zs _ y _ _ _ w _ hz hb hp hq hcy h0 h1 h2 g0 (hid hx) (hid rfl) hl2 (hid rfl) (hid HLS) (hid hrl) hk3 hc2 (hid HRead)
    · rcases ways pre n with ⟨hz, g0⟩ | ⟨hz, g0, g1⟩ | ⟨hz, g0⟩ | ⟨hz, g0, g1⟩ | ⟨hz, g0⟩
      · exact bk_d0 pre n q off c _ zs _ y _ _ _ w hb hp hq hcy h0 h1 h2 h3 g0 (hid hx) (hid rfl) hl2 (hid hz) (hid HLS) (hid (hbp hz (.inl (free_lo hfr h0 h1 h2 (.inl h3))))) (hid hrl) hk3 hc2 (hid HRead)
      · exact bk_d1 pre n q off c _ zs _ y _ _ _ w hb hp hq hcy h0 h1 h2 h3 g0 g1 (hid hx) (hid rfl) hl2 (hid hz) (hid HLS) (hid (bits_rex ⟨g0, g1⟩)) (hid (hbp hz (.inr g0))) (hid hrl) hk3 hc2 (hid HRead)
      · exact bk_d2 pre n q off c _ zs _ y _ _ _ w _ hz hb hp hq hcy h0 h1 h2 h3 g0 (hid hx) (hid rfl) hl2 (hid rfl) (hid HLS) (hid hrl) hk3 hc2 (hid HRead)
      · exact bk_d3 pre n q off c _ zs _ y _ _ _ w _ hz hb hp hq hcy h0 h1 h2 h3 g0 g1 (hid hx) (hid rfl) hl2 (hid rfl) (hid HLS) (hid (bits_rex ⟨g0, g1⟩)) (hid hrl) hk3 hc2 (hid HRead)
      · exact bk_d4 pre n q off c _ zs _ y _ _ _ w _ hz hb hp hq hcy h0 h1 h2 h3 g0 (hid hx) (hid rfl) hl2 (hid rfl) (hid HLS) (hid hrl) hk3 hc2 (hid HRead)
    · rcases ways pre n with ⟨hz, g0⟩ | ⟨hz, g0, g1⟩ | ⟨hz, g0⟩ | ⟨hz, g0, g1⟩ | ⟨hz, g0⟩
      · exact bk_e0 pre n q off c _ zs _ y _ _ _ w hb hp hq hcy h0 h1 h2 h3 g0 (hid hx) (hid rfl) hl2 (hid hz) (hid HLS) (hid hrl) hk3 hc2 (hid HRead)
      · exact bk_e1 pre n q off c _ zs _ y _ _ _ w hb hp hq hcy h0 h1 h2 h3 g0 g1 (hid hx) (hid rfl) hl2 (hid hz) (hid HLS) (hid (bits_rex ⟨g0, g1⟩)) (hid (hbp hz (.inr g0))) (hid hrl) hk3 hc2 (hid HRead)
      · exact bk_e2 pre n q off c _ zs _ y _ _ _ w _ hz hb hp hq hcy h0 h1 h2 h3 g0 (hid hx) (hid rfl) hl2 (hid rfl) (hid HLS) (hid hrl) hk3 hc2 (hid HRead)
      · exact bk_e3 pre n q off c _ zs _ y _ _ _ w _ hz hb hp hq hcy h0 h1 h2 h3 g0 g1 (hid hx) (hid rfl) hl2 (hid rfl) (hid HLS) (hid (bits_rex ⟨g0, g1⟩)) (hid hrl) hk3 hc2 (hid HRead)
      · exact bk_e4 pre n q off c _ zs _ y _ _ _ w _ hz hb hp hq hcy h0 h1 h2 h3 g0 (hid hx) (hid rfl) hl2 (hid rfl) (hid HLS) (hid hrl) hk3 hc2 (hid HRead)
    · rcases ways pre n with ⟨hz, g0⟩ | ⟨hz, g0, g1⟩ | ⟨hz, g0⟩ | ⟨hz, g0, g1⟩ | ⟨hz, g0⟩
      · exact bk_f0 pre n q off c _ zs _ y _ _ _ w hb hp hq hcy h0 h1 h2 h3 g0 (hid hx) (hid rfl) hl2 (hid hz) (hid HLS) (hid (hbp hz (.inl (free_lo hfr h0 h1 h2 (.inr h3.2))))) (hid hrl) hk3 hc2 (hid HRead)
      · exact bk_f1 pre n q off c _ zs _ y _ _ _ w hb hp hq hcy h0 h1 h2 h3 g0 g1 (hid hx) (hid rfl) hl2 (hid hz) (hid HLS) (hid (bits_rex ⟨g0, g1⟩)) (hid (hbp hz (.inr g0))) (hid hrl) hk3 hc2 (hid HRead)
      · exact bk_f2 pre n q off c _ zs _ y _ _ _ w _ hz hb hp hq hcy h0 h1 h2 h3 g0 (hid hx) (hid rfl) hl2 (hid rfl) (hid HLS) (hid hrl) hk3 hc2 (hid HRead)
      · exact bk_f3 pre n q off c _ zs _ y _ _ _ w _ hz hb hp hq hcy h0 h1 h2 h3 g0 g1 (hid hx) (hid rfl) hl2 (hid rfl) (hid HLS) (hid (bits_rex ⟨g0, g1⟩)) (hid hrl) hk3 hc2 (hid HRead)
      · exact bk_f4 pre n q off c _ zs _ y _ _ _ w _ hz hb hp hq hcy h0 h1 h2 h3 g0 (hid hx) (hid rfl) hl2 (hid rfl) (hid HLS) (hid hrl) hk3 hc2 (hid HRead)
end Go.Proofs.Ytgioggpehlhbfaa
