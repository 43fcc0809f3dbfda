/-
  The document's Canon, case by case (3).
-/
import Derived.Test.YtmlmdbholakioaaTwo
import Derived.Deep.DeepCutAuto
namespace Go.Proofs.Ytmlmdbholakioaa
open Go.RowKit

set_option maxHeartbeats 1000000 in
theorem rcanon_swap (bc bn ic d z : Int) (HK : Hid (checkF ⟨bc, bn, ic, 4, 1, d, z⟩ = 0)) (HN : Hid (noneF bc bn = false)) (w : World) :
    Calls Try.prog 52 #[.agg #[.int .i64 bc, .int .i64 bn, .int .i64 ic, .int .i64 4, .int .i64 1, .int .i64 d, .int .i64 z]] w fun e w' => e = .returned (.tuple #[.agg #[.int .i64 ic, .int .i64 4, .int .i64 bc, .int .i64 bn, .int .i64 1, .int .i64 d, .int .i64 z], .int .i64 0]) ∧ Below w.heap.size w w' := by
  go_enter Try.func52, Try.ntmps52
  go_upto_if 34 with (first | (go_at_call 58; refine (rcheck_of HK.out _).mono ?_; rintro e w1 ⟨rfl, hb1⟩; have HT := hid (Two.below (Two.start w ⟨bc, bn, ic, 4, 1, d, z⟩ ⟨0, 0, 0, 0, 0, 0, 0⟩) hb1); clear hb1; obtain ⟨⟨c0, c1, c2, c3, c4, c5, c6⟩, ⟨r0, r1, r2, r3, r4, r5, r6⟩, f0, f1⟩ := HT.out.cells; have hz1 := HT.out.lt; have hz0 : w.heap.size < w1.heap.size := by omega) | (go_at_call 67; refine (rnone_of HN.out _).mono ?_; rintro e w1 ⟨rfl, hb1⟩; have HT := hid (HT.out.below hb1); clear hb1; obtain ⟨⟨c0, c1, c2, c3, c4, c5, c6⟩, ⟨r0, r1, r2, r3, r4, r5, r6⟩, f0, f1⟩ := HT.out.cells; have hz1 := HT.out.lt; have hz0 : w.heap.size < w1.heap.size := by omega))
  go_cut [20] (fun _ wx => Hid (Two w ⟨ic, 4, bc, bn, 1, d, z⟩ ⟨0, 0, 0, 0, 0, 0, 0⟩ wx))
  case first =>
    go_wp2_with fail
    go_meet
    exact hid ((((((HT.out).set (p' := ⟨ic, bn, ic, 4, 1, d, z⟩) 0 (.int .i64 ic) rfl).set (p' := ⟨ic, 4, ic, 4, 1, d, z⟩) 1 (.int .i64 4) rfl).set (p' := ⟨ic, 4, bc, 4, 1, d, z⟩) 2 (.int .i64 bc) rfl).set (p' := ⟨ic, 4, bc, bn, 1, d, z⟩) 3 (.int .i64 bn) rfl).alloc _)
  case rest =>
    clear HT c0 c1 c2 c3 c4 c5 c6 r0 r1 r2 r3 r4 r5 r6 f0 f1 hz0 hz1
    have HT := hcut
    clear hcut
    obtain ⟨⟨c0, c1, c2, c3, c4, c5, c6⟩, ⟨r0, r1, r2, r3, r4, r5, r6⟩, f0, f1⟩ := HT.out.cells
    have hz1 := HT.out.lt
    have hz0 : w.heap.size < wc.heap.size := by omega
    go_wp2_with fail
    refine bodyPost_ret (v := .tuple #[.agg #[.int .i64 ic, .int .i64 4, .int .i64 bc, .int .i64 bn, .int .i64 1, .int .i64 d, .int .i64 z], .int .i64 0]) (by simp [results, Try.results52, go_sem, *]) rfl ⟨rfl, ?_⟩
    (repeat with_reducible refine Below.setCell ?_ (by simp) _)
    exact HT.out.1
end Go.Proofs.Ytmlmdbholakioaa
