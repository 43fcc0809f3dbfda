/-
  What registers contain, and sums: numbers in memory; the program's contents and sum.
-/
import Derived.Test.YtdononofdnclfaaCanonAll
namespace Go.Proofs.Ytdononofdnclfaa
open Go.RowKit

/-- From A on the numbers xs stand, in a block below B. -/
def Ints (w : World) (B : Nat) (A : Option Addr) (xs : List Int) : Prop :=
  xs = [] ∨ ∃ b off, A = some ⟨b, off, none⟩ ∧ b < B ∧ ∀ i, i < xs.length → w.cell? ⟨b, off + i, none⟩ = some (.int .i64 (xs[i]?.getD 0))
theorem Ints.below {w w' : World} {B : Nat} {A : Option Addr} {xs : List Int} (h : Ints w B A xs) (hb : Below B w w') : Ints w' B A xs := by
  rcases h with rfl | ⟨b, off, rfl, hlt, hc⟩
  · left; rfl
  · exact .inr ⟨b, off, rfl, hlt, fun i hi => by rw [hb.cell (p := ⟨b, off + i, none⟩) hlt]; exact hc i hi⟩
theorem Ints.mono {w : World} {B B' : Nat} {A : Option Addr} {xs : List Int} (h : Ints w B A xs) (hB : B ≤ B') : Ints w B' A xs := by
  rcases h with rfl | ⟨b, off, rfl, hlt, hc⟩
  · left; rfl
  · exact .inr ⟨b, off, rfl, by omega, hc⟩
/-- What a register of a place contains. -/
def contF (c n : Int) (xs : List Int) (next : Int) : Int := if c = 5 then xs[n.toNat]?.getD 0 else if c = 8 then next else 0
set_option maxHeartbeats 1000000 in
theorem contents_any (c n : Int) (A : Option Addr) (cap : Nat) (xs : List Int) (next : Int) (hn : c = 5 → 0 ≤ n ∧ n < 16) (hl : xs.length = 16) (w : World) (hI : Ints w w.heap.size A xs) :
    Calls Try.prog 32 #[.agg #[.int .i64 c, .int .i64 n], .slice A 16 cap, .int .i64 next] w fun e w' => e = .returned (.int .i64 (contF c n xs next)) ∧ Below w.heap.size w w' := by
  rcases hI with rfl | ⟨b, off, rfl, hb, hc⟩
  · cases hl
  by_cases h5 : c = 5
  · subst h5
    obtain ⟨k, rfl⟩ : ∃ k : Nat, n = k := ⟨n.toNat, by have := hn rfl; omega⟩
    have hk : k < 16 := by have := hn rfl; omega
    have hcell := hc k (by omega)
    have HF := hid (show contF 5 k xs next = xs[k]?.getD 0 by simp [contF])
    rw [HF.out]
    generalize xs[k]?.getD 0 = x at hcell HF
    clear hn hc hl HF
    go_enter Try.func32, Try.ntmps32
    go_wp2
    go_returns
    exact ⟨rfl, by go_grown⟩
  · clear hc hn
    by_cases h8 : c = 8
    · subst h8
      go_enter Try.func32, Try.ntmps32
      go_wp2
      go_returns
      exact ⟨by simp [contF], by go_grown⟩
    · go_enter Try.func32, Try.ntmps32
      go_wp2
      go_returns
      exact ⟨by simp [contF, h5, h8], by go_grown⟩
/-- The sum, one after another, each modulo 2^64. -/
def sumF (xs : List Int) : Int := xs.foldl (fun t x => wrap64 (t + x)) 0
theorem sumF_next {xs : List Int} {k : Nat} (hk : k < xs.length) : sumF (xs.take (k + 1)) = wrap64 (sumF (xs.take k) + xs[k]?.getD 0) := by
  unfold sumF
  rw [List.take_add_one, List.foldl_append, List.getElem?_eq_getElem hk]
  rfl
theorem sum_any (b : Nat) (xs : List Int) (w : World) (hl : xs.length ≤ 100) (hc : ∀ i, i < xs.length → w.cell? ⟨b, i, none⟩ = some (.int .i64 (xs[i]?.getD 0))) :
    Calls Try.prog 31 #[.slice (some ⟨b, 0, none⟩) xs.length xs.length] w fun e w' => e = .returned (.int .i64 (sumF xs)) ∧ w = w' := by
  go_enter Try.func31, Try.ntmps31
  have HC := hid hc
  clear hc
  go_wp2
  go_loopw [8, 3] (fun i t wr => ∃ k : Nat, k ≤ xs.length ∧ i = .int .i64 k ∧ t = .int .i64 (sumF (xs.take k)) ∧ w = wr) (fun i _ _ => xs.length - (intOf i).toNat)
  case atStart => exact ⟨0, by omega, rfl, rfl, rfl⟩
  case round =>
    obtain ⟨k, hk, rfl, rfl, rfl⟩ := hrel
    by_cases hlt : k < xs.length
    · have hcell := HC.out k hlt
      have HN := hid (sumF_next hlt)
      generalize xs[k]?.getD 0 = x at hcell HN
      generalize sumF (xs.take k) = t at HN
      go_wp2
      go_roundw
      case rel => exact ⟨k + 1, by omega, by go_num, by rw [HN.out], trivial⟩
      case measure => simp [intOf]; omega
    · have hkl : k = xs.length := by omega
      have HK := hid (show sumF (xs.take k) = sumF xs by rw [List.take_of_length_le (by omega)])
      rw [HK.out]
      go_wp2
      go_ret
      exact ⟨rfl, rfl⟩
end Go.Proofs.Ytdononofdnclfaa
