/-
  The walk of OperandTells.
-/
import Derived.Test.YtnchamgnllnflaaArgLaw
namespace Go.Proofs.Ytnchamgnllnflaa
open Go.RowKit

set_option maxHeartbeats 4000000 in
theorem tells_law (k rc rn bc bn ic ix s d z n k' rc' rn' bc' bn' ic' ix' s' d' z' n' : Int) (w : World) (hs : I64 s) (hs' : I64 s') :
    Calls Try.prog 3 #[.agg #[.int .i64 k, .int .i64 rc, .int .i64 rn, .int .i64 bc, .int .i64 bn, .int .i64 ic, .int .i64 ix, .int .i64 s, .int .i64 d, .int .i64 z, .int .i64 n], .agg #[.int .i64 k', .int .i64 rc', .int .i64 rn', .int .i64 bc', .int .i64 bn', .int .i64 ic', .int .i64 ix', .int .i64 s', .int .i64 d', .int .i64 z', .int .i64 n']] w fun e w' => e = .returned (.bool true) ∧ Below w.heap.size w w' := by
  obtain ⟨⟨x0, x1, x2, ⟨x3, x4, x5, x6, x7, x8, x9⟩, x10⟩, hx⟩ : ∃ x, aoutF ⟨k, rc, rn, ⟨bc, bn, ic, ix, s, d, z⟩, n⟩ = x := ⟨_, rfl⟩
  obtain ⟨e', hk⟩ : ∃ e', argF ⟨k, rc, rn, ⟨bc, bn, ic, ix, s, d, z⟩, n⟩ = e' := ⟨_, rfl⟩
  obtain ⟨v, hv⟩ : ∃ v, asameF ⟨k, rc, rn, ⟨bc, bn, ic, ix, s, d, z⟩, n⟩ ⟨k', rc', rn', ⟨bc', bn', ic', ix', s', d', z'⟩, n'⟩ = v := ⟨_, rfl⟩
  obtain ⟨y, hy⟩ : ∃ y, asizeF ⟨k, rc, rn, ⟨bc, bn, ic, ix, s, d, z⟩, n⟩ = y := ⟨_, rfl⟩
  have HX := hid hx
  have HK := hid hk
  have HV := hid hv
  have HY := hid hy
  have HS := hid hs
  have HT := hid hs'
  clear hx hk hv hy hs hs'
  go_enter Try.func3, Try.ntmps3
  go_wp2_with fail
  refine (acanon_at HX.out HK.out HS.out _).mono ?_
  rintro e w1 ⟨rfl, hb1⟩
  have HO := hid ((((Own.nil w).alloc w.heap.size #[.int .i64 k, .int .i64 rc, .int .i64 rn, .int .i64 bc, .int .i64 bn, .int .i64 ic, .int .i64 ix, .int .i64 s, .int .i64 d, .int .i64 z, .int .i64 n] 27 rfl).alloc (w.heap.size + 1) #[.int .i64 k', .int .i64 rc', .int .i64 rn', .int .i64 bc', .int .i64 bn', .int .i64 ic', .int .i64 ix', .int .i64 s', .int .i64 d', .int .i64 z', .int .i64 n'] 27 (by simp)).call hb1)
  clear hb1
  have c0 := HO.out.c
  have z0 := HO.out.z
  have a0 := HO.out.a
  have c1 := HO.out.tl.c
  have z1 := HO.out.tl.z
  have a1 := HO.out.tl.a
  go_wp2_with fail
  refine (racanon_at HX.out HK.out _).mono ?_
  rintro e w2 ⟨rfl, hb1⟩
  have HO := hid ((HO.out.alloc w1.heap.size #[.int .i64 x0, .int .i64 x1, .int .i64 x2, .int .i64 x3, .int .i64 x4, .int .i64 x5, .int .i64 x6, .int .i64 x7, .int .i64 x8, .int .i64 x9, .int .i64 x10] 27 rfl).call hb1)
  clear hb1 c0 z0 a0 c1 z1 a1
  go_wp2_with fail
  have HO := hid (HO.out.alloc w2.heap.size #[.int .i64 x0, .int .i64 x1, .int .i64 x2, .int .i64 x3, .int .i64 x4, .int .i64 x5, .int .i64 x6, .int .i64 x7, .int .i64 x8, .int .i64 x9, .int .i64 x10] 27 rfl)
  generalize w2.alloc (.cells #[.int .i64 x0, .int .i64 x1, .int .i64 x2, .int .i64 x3, .int .i64 x4, .int .i64 x5, .int .i64 x6, .int .i64 x7, .int .i64 x8, .int .i64 x9, .int .i64 x10] 27) = W at *
  have c0 := HO.out.c
  have z0 := HO.out.z
  have c1 := HO.out.tl.c
  have z1 := HO.out.tl.z
  have c2 := HO.out.tl.tl.c
  have z2 := HO.out.tl.tl.z
  have c3 := HO.out.tl.tl.tl.c
  have z3 := HO.out.tl.tl.tl.z
  have hS := Old.of (Below.refl W.heap.size W)
  go_region_held3 (fun w' => Below W.heap.size W w' ∧ ∀ b o, b < W.heap.size → w'.cell? ⟨b, o, none⟩ = W.cell? ⟨b, o, none⟩) (first | assumption | exact old_drew ‹_› | (refine old_kept ?_ (by assumption); assumption)) (first | (go_at_call 10; with_reducible refine (acheck_of HK.out HS.out _).mono ?_; rintro e w9 ⟨rfl, hbel⟩) | (go_at_call 11; with_reducible refine (racheck_of HK.out _).mono ?_; rintro e w9 ⟨rfl, hbel⟩) | (go_at_call 12; with_reducible refine (asize_of HY.out HS.out _).mono ?_; rintro e w9 ⟨rfl, hbel⟩) | (go_at_call 13; with_reducible refine (rasize_of HY.out _).mono ?_; rintro e w9 ⟨rfl, hbel⟩) | (go_at_call 14; with_reducible refine (asame_of HV.out HS.out HT.out _).mono ?_; rintro e w9 ⟨rfl, hbel⟩) | (go_at_call 15; with_reducible refine (rasame_of HV.out _).mono ?_; rintro e w9 ⟨rfl, hbel⟩) | (go_at_call 16; with_reducible refine (awake_any _).mono ?_; rintro e w9 ⟨rfl, hbel⟩))
  have hk := (‹Below W.heap.size W w9 ∧ _›).1
  go_wp2
  go_ret
  exact ⟨rfl, HO.out.below.trans (hk.mono HO.out.below.size)⟩
end Go.Proofs.Ytnchamgnllnflaa
