/-
  The document's answer: bytes of heads and displacements; a place without a base; with each displacement.
-/
import Derived.Test.YtiiepdgpnnjpiaaDoorCollect
import Derived.Outline
namespace Go.Proofs.YtiiepdgpnnjpiaaDoor
open Go.RowKit
set_option maxRecDepth 100000

theorem rscale_any (s : Int) (w : World) :
    Calls Tryd.prog 56 #[.int .i64 s] w fun e w' => e = .returned (.int .i64 (shiftF s)) ∧ w = w' := by
  go_enter Tryd.func56, Tryd.ntmps56
  go_wp2
  all_goals go_returns
  all_goals exact ⟨ret_i (by unfold shiftF; simp_all), rfl⟩
theorem rfour_any (d : Int) (w : World) :
    Calls Tryd.prog 54 #[.int .i64 d] w fun e w' => e = .returned (.slice (some ⟨w.heap.size, 0, none⟩) 4 4) ∧ Below w.heap.size w w' ∧ ByB w' w.heap.size 5 (bytesOf d 4) := by
  have h4 : bytesOf d 4 = [d % 256, d / 256 % 256, d / 65536 % 256, d / 16777216 % 256] := by
    simp [bytesOf, List.range_succ]
  have H4 := hid h4
  clear h4
  go_enter Tryd.func54, Tryd.ntmps54
  go_wp2
  go_ret
  refine ⟨rfl, by go_grown, ?_⟩
  rw [H4.out]
  exact heap_alloc_new w _
/-- The bytes ahead of a displacement. -/
def headB (mod f rm s : Int) : List Int := (64 * mod + 8 * f + rm) :: (if s < 0 then [] else [s])
def RowV (w : World) (base : Nat) (v : Value) (bs : List Int) : Prop := isBytes bs ∧ w.ownsRow base 5 1 v bs.length (bs.map (Value.int .u8))
theorem rhead_any (mod f rm s : Int) (hm : 0 ≤ mod ∧ mod ≤ 3) (hf : 0 ≤ f ∧ f ≤ 7) (hr : 0 ≤ rm ∧ rm ≤ 7) (hs : -1 ≤ s ∧ s < 256) (w : World) :
    Calls Tryd.prog 28 #[.int .i64 mod, .int .i64 f, .int .i64 rm, .int .i64 s] w fun e w' => ∃ v, e = .returned v ∧ Below w.heap.size w w' ∧ RowV w' w.heap.size v (headB mod f rm s) := by
  have hb : isBytes (headB mod f rm s) := by
    intro z hz
    unfold headB at hz
    simp only [List.mem_cons] at hz
    rcases hz with rfl | hz
    · omega
    · split at hz
      · cases hz
      · simp at hz; omega
  by_cases h0 : 0 ≤ s
  · have HH := hid (show headB mod f rm s = [64 * mod + 8 * f + rm] ++ [s] by unfold headB; rw [if_neg (by omega)]; rfl)
    go_enter Tryd.func28, Tryd.ntmps28
    go_wp2_with (at_builtin; refine wpList_append_bytes rfl _ _ rfl w.heap.size _ 1 [64 * mod + 8 * f + rm] rfl ?c1 (some ⟨w.heap.size + 1, 0, none⟩) 1 1 (w.heap.size + 2) [s] rfl rfl ?c2 (by omega) ?c3 ?_)
    case c1 => exact (World.ownsRow_lit (base := w.heap.size) (e := 5) (size := 1) w #[.int .u8 (64 * mod + 8 * f + rm)] 1 (Nat.le_refl _) (by simp [maxLen]) rfl).alloc _
    case c2 =>
      have h1 : ByB ((w.alloc (.cells #[.int .u8 (64 * mod + 8 * f + rm)] 5)).alloc (.cells #[.int .u8 s] 5)) (w.heap.size + 1) 5 [s] := by
        have := heap_alloc_new (w.alloc (.cells #[.int .u8 (64 * mod + 8 * f + rm)] 5)) (.cells #[.int .u8 s] 5)
        rw [World.size_alloc] at this
        exact this
      exact h1.mem (by intro z hz; simp at hz; omega) (by omega)
    case c3 => simp; omega
    intro v w1 hown hgrow
    have HO := hid hown.out
    have HB := hid ((((Below.refl _ w).alloc (Nat.le_refl _) (.cells #[.int .u8 (64 * mod + 8 * f + rm)] 5)).alloc (by simp) (.cells #[.int .u8 s] 5)).grown hgrow (by simp; omega) (fun k hk => by simp [Value.ownBlock] at hk; omega))
    clear hown hgrow
    go_wp2
    go_ret
    refine ⟨v, rfl, HB.out, hb, ?_⟩
    rw [HH.out]
    exact HO.out
  · have HH := hid (show headB mod f rm s = [64 * mod + 8 * f + rm] by unfold headB; rw [if_pos (by omega)])
    go_enter Tryd.func28, Tryd.ntmps28
    go_wp2
    go_ret
    refine ⟨_, rfl, by go_grown, hb, ?_⟩
    rw [HH.out]
    exact World.ownsRow_lit (base := w.heap.size) (e := 5) (size := 1) w #[.int .u8 (64 * mod + 8 * f + rm)] 1 (Nat.le_refl _) (by simp [maxLen]) rfl
end Go.Proofs.YtiiepdgpnnjpiaaDoor
