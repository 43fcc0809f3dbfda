/-
  Law 9: ModrmKnown.
-/
import Derived.Test.YtiiepdgpnnjpiaaDoorMrBase
import Derived.Test.YtiiepdgpnnjpiaaDoorMrAt
namespace Go.Proofs.YtiiepdgpnnjpiaaDoor
open Go.RowKit
set_option maxRecDepth 100000

theorem lplace_any (bc bn ic ix s d z : Int) (w : World) :
    Calls Tryd.prog 17 #[.agg #[.int .i64 bc, .int .i64 bn, .int .i64 ic, .int .i64 ix, .int .i64 s, .int .i64 d, .int .i64 z]] w fun e w' => e = .returned (.agg #[.int .i64 2, .int .i64 0, .int .i64 0, .int .i64 bc, .int .i64 bn, .int .i64 ic, .int .i64 ix, .int .i64 s, .int .i64 d, .int .i64 z, .int .i64 0]) ∧ Below w.heap.size w w' := by
  go_enter Tryd.func17, Tryd.ntmps17
  go_wp2
  refine bodyPost_ret (v := .agg #[.int .i64 2, .int .i64 0, .int .i64 0, .int .i64 bc, .int .i64 bn, .int .i64 ic, .int .i64 ix, .int .i64 s, .int .i64 d, .int .i64 z, .int .i64 0]) (by simp [results, Tryd.results17, go_sem, *]) rfl ⟨rfl, ?_⟩
  go_grown
/-- The seven lists that the chapter names. -/
def wantL : List (List Int) := [[0], [64, 0], [128, 0, 0, 0, 0], [4, 32], [68, 32, 0], [132, 32, 0, 0, 0, 0], [4, 5, 0, 0, 0, 0]]
def wantW : List Way := wantL.map fun l => ⟨l, 0, 0⟩
theorem want_all : allE 0 ⟨2, 0, 0, ⟨5, 0, 0, 0, 0, 0, 0⟩, 0⟩ = 0 ∧ allF 0 ⟨2, 0, 0, ⟨5, 0, 0, 0, 0, 0, 0⟩, 0⟩ = wantW := ⟨by kernel_rfl, by kernel_rfl⟩
/-- Slices of bytes that a row of cells holds. -/
def Wants (w : World) (B g : Nat) (L : List (List Int)) : Prop := ∀ k l, L[k]? = some l → ∃ q, w.cell? ⟨g, k, none⟩ = some (.slice (some ⟨q, 0, none⟩) l.length l.length) ∧ Mem w B (some ⟨q, 0, none⟩) l
theorem Wants.below {w w' : World} {B g : Nat} {L : List (List Int)} (h : Wants w B g L) (hb : Below B w w') (hg : g < B) : Wants w' B g L := fun k l hk => by
  obtain ⟨q, h1, h2⟩ := h k l hk
  exact ⟨q, (hb.cell (p := ⟨g, k, none⟩) hg).trans h1, h2.below hb⟩
theorem wants_new (w : World) : Wants ((((((((w.alloc (.cells #[.int .u8 0] 5)).alloc (.cells #[.int .u8 64, .int .u8 0] 5)).alloc (.cells #[.int .u8 128, .int .u8 0, .int .u8 0, .int .u8 0, .int .u8 0] 5)).alloc (.cells #[.int .u8 4, .int .u8 32] 5)).alloc (.cells #[.int .u8 68, .int .u8 32, .int .u8 0] 5)).alloc (.cells #[.int .u8 132, .int .u8 32, .int .u8 0, .int .u8 0, .int .u8 0, .int .u8 0] 5)).alloc (.cells #[.int .u8 4, .int .u8 5, .int .u8 0, .int .u8 0, .int .u8 0, .int .u8 0] 5)).alloc (.cells #[.slice (some ⟨w.heap.size, 0, none⟩) 1 1, .slice (some ⟨w.heap.size + 1, 0, none⟩) 2 2, .slice (some ⟨w.heap.size + 1 + 1, 0, none⟩) 5 5, .slice (some ⟨w.heap.size + 1 + 1 + 1, 0, none⟩) 2 2, .slice (some ⟨w.heap.size + 1 + 1 + 1 + 1, 0, none⟩) 3 3, .slice (some ⟨w.heap.size + 1 + 1 + 1 + 1 + 1, 0, none⟩) 6 6, .slice (some ⟨w.heap.size + 1 + 1 + 1 + 1 + 1 + 1, 0, none⟩) 6 6] 32)) (w.heap.size + 1 + 1 + 1 + 1 + 1 + 1 + 1 + 1) (w.heap.size + 1 + 1 + 1 + 1 + 1 + 1 + 1) wantL ∧ Below w.heap.size w ((((((((w.alloc (.cells #[.int .u8 0] 5)).alloc (.cells #[.int .u8 64, .int .u8 0] 5)).alloc (.cells #[.int .u8 128, .int .u8 0, .int .u8 0, .int .u8 0, .int .u8 0] 5)).alloc (.cells #[.int .u8 4, .int .u8 32] 5)).alloc (.cells #[.int .u8 68, .int .u8 32, .int .u8 0] 5)).alloc (.cells #[.int .u8 132, .int .u8 32, .int .u8 0, .int .u8 0, .int .u8 0, .int .u8 0] 5)).alloc (.cells #[.int .u8 4, .int .u8 5, .int .u8 0, .int .u8 0, .int .u8 0, .int .u8 0] 5)).alloc (.cells #[.slice (some ⟨w.heap.size, 0, none⟩) 1 1, .slice (some ⟨w.heap.size + 1, 0, none⟩) 2 2, .slice (some ⟨w.heap.size + 1 + 1, 0, none⟩) 5 5, .slice (some ⟨w.heap.size + 1 + 1 + 1, 0, none⟩) 2 2, .slice (some ⟨w.heap.size + 1 + 1 + 1 + 1, 0, none⟩) 3 3, .slice (some ⟨w.heap.size + 1 + 1 + 1 + 1 + 1, 0, none⟩) 6 6, .slice (some ⟨w.heap.size + 1 + 1 + 1 + 1 + 1 + 1, 0, none⟩) 6 6] 32)) ∧ ((((((((w.alloc (.cells #[.int .u8 0] 5)).alloc (.cells #[.int .u8 64, .int .u8 0] 5)).alloc (.cells #[.int .u8 128, .int .u8 0, .int .u8 0, .int .u8 0, .int .u8 0] 5)).alloc (.cells #[.int .u8 4, .int .u8 32] 5)).alloc (.cells #[.int .u8 68, .int .u8 32, .int .u8 0] 5)).alloc (.cells #[.int .u8 132, .int .u8 32, .int .u8 0, .int .u8 0, .int .u8 0, .int .u8 0] 5)).alloc (.cells #[.int .u8 4, .int .u8 5, .int .u8 0, .int .u8 0, .int .u8 0, .int .u8 0] 5)).alloc (.cells #[.slice (some ⟨w.heap.size, 0, none⟩) 1 1, .slice (some ⟨w.heap.size + 1, 0, none⟩) 2 2, .slice (some ⟨w.heap.size + 1 + 1, 0, none⟩) 5 5, .slice (some ⟨w.heap.size + 1 + 1 + 1, 0, none⟩) 2 2, .slice (some ⟨w.heap.size + 1 + 1 + 1 + 1, 0, none⟩) 3 3, .slice (some ⟨w.heap.size + 1 + 1 + 1 + 1 + 1, 0, none⟩) 6 6, .slice (some ⟨w.heap.size + 1 + 1 + 1 + 1 + 1 + 1, 0, none⟩) 6 6] 32)).heap.size = w.heap.size + 1 + 1 + 1 + 1 + 1 + 1 + 1 + 1 := by
  have hs : ((((((((w.alloc (.cells #[.int .u8 0] 5)).alloc (.cells #[.int .u8 64, .int .u8 0] 5)).alloc (.cells #[.int .u8 128, .int .u8 0, .int .u8 0, .int .u8 0, .int .u8 0] 5)).alloc (.cells #[.int .u8 4, .int .u8 32] 5)).alloc (.cells #[.int .u8 68, .int .u8 32, .int .u8 0] 5)).alloc (.cells #[.int .u8 132, .int .u8 32, .int .u8 0, .int .u8 0, .int .u8 0, .int .u8 0] 5)).alloc (.cells #[.int .u8 4, .int .u8 5, .int .u8 0, .int .u8 0, .int .u8 0, .int .u8 0] 5)).alloc (.cells #[.slice (some ⟨w.heap.size, 0, none⟩) 1 1, .slice (some ⟨w.heap.size + 1, 0, none⟩) 2 2, .slice (some ⟨w.heap.size + 1 + 1, 0, none⟩) 5 5, .slice (some ⟨w.heap.size + 1 + 1 + 1, 0, none⟩) 2 2, .slice (some ⟨w.heap.size + 1 + 1 + 1 + 1, 0, none⟩) 3 3, .slice (some ⟨w.heap.size + 1 + 1 + 1 + 1 + 1, 0, none⟩) 6 6, .slice (some ⟨w.heap.size + 1 + 1 + 1 + 1 + 1 + 1, 0, none⟩) 6 6] 32)).heap.size = w.heap.size + 1 + 1 + 1 + 1 + 1 + 1 + 1 + 1 := by simp
  refine ⟨fun k l hk => ?_, by go_grown, hs⟩
  have o0 := (Own.nil w).alloc w.heap.size #[.int .u8 0] 5 rfl
  have o1 := o0.alloc (w.heap.size + 1) #[.int .u8 64, .int .u8 0] 5 (by simp)
  have o2 := o1.alloc (w.heap.size + 1 + 1) #[.int .u8 128, .int .u8 0, .int .u8 0, .int .u8 0, .int .u8 0] 5 (by simp)
  have o3 := o2.alloc (w.heap.size + 1 + 1 + 1) #[.int .u8 4, .int .u8 32] 5 (by simp)
  have o4 := o3.alloc (w.heap.size + 1 + 1 + 1 + 1) #[.int .u8 68, .int .u8 32, .int .u8 0] 5 (by simp)
  have o5 := o4.alloc (w.heap.size + 1 + 1 + 1 + 1 + 1) #[.int .u8 132, .int .u8 32, .int .u8 0, .int .u8 0, .int .u8 0, .int .u8 0] 5 (by simp)
  have o6 := o5.alloc (w.heap.size + 1 + 1 + 1 + 1 + 1 + 1) #[.int .u8 4, .int .u8 5, .int .u8 0, .int .u8 0, .int .u8 0, .int .u8 0] 5 (by simp)
  have o7 := o6.alloc (w.heap.size + 1 + 1 + 1 + 1 + 1 + 1 + 1) #[.slice (some ⟨w.heap.size, 0, none⟩) 1 1, .slice (some ⟨w.heap.size + 1, 0, none⟩) 2 2, .slice (some ⟨w.heap.size + 1 + 1, 0, none⟩) 5 5, .slice (some ⟨w.heap.size + 1 + 1 + 1, 0, none⟩) 2 2, .slice (some ⟨w.heap.size + 1 + 1 + 1 + 1, 0, none⟩) 3 3, .slice (some ⟨w.heap.size + 1 + 1 + 1 + 1 + 1, 0, none⟩) 6 6, .slice (some ⟨w.heap.size + 1 + 1 + 1 + 1 + 1 + 1, 0, none⟩) 6 6] 32 (by simp)
  clear o0 o1 o2 o3 o4 o5 o6
  generalize (((((((w.alloc (.cells #[.int .u8 0] 5)).alloc (.cells #[.int .u8 64, .int .u8 0] 5)).alloc (.cells #[.int .u8 128, .int .u8 0, .int .u8 0, .int .u8 0, .int .u8 0] 5)).alloc (.cells #[.int .u8 4, .int .u8 32] 5)).alloc (.cells #[.int .u8 68, .int .u8 32, .int .u8 0] 5)).alloc (.cells #[.int .u8 132, .int .u8 32, .int .u8 0, .int .u8 0, .int .u8 0, .int .u8 0] 5)).alloc (.cells #[.int .u8 4, .int .u8 5, .int .u8 0, .int .u8 0, .int .u8 0, .int .u8 0] 5)).alloc (.cells #[.slice (some ⟨w.heap.size, 0, none⟩) 1 1, .slice (some ⟨w.heap.size + 1, 0, none⟩) 2 2, .slice (some ⟨w.heap.size + 1 + 1, 0, none⟩) 5 5, .slice (some ⟨w.heap.size + 1 + 1 + 1, 0, none⟩) 2 2, .slice (some ⟨w.heap.size + 1 + 1 + 1 + 1, 0, none⟩) 3 3, .slice (some ⟨w.heap.size + 1 + 1 + 1 + 1 + 1, 0, none⟩) 6 6, .slice (some ⟨w.heap.size + 1 + 1 + 1 + 1 + 1 + 1, 0, none⟩) 6 6] 32) = W at *
  have h0 : ByB W (w.heap.size) 5 [0] := (o7.2.1 ⟨w.heap.size, #[.int .u8 0], 5⟩ (by simp)).2
  have h1 : ByB W (w.heap.size + 1) 5 [64, 0] := (o7.2.1 ⟨w.heap.size + 1, #[.int .u8 64, .int .u8 0], 5⟩ (by simp)).2
  have h2 : ByB W (w.heap.size + 1 + 1) 5 [128, 0, 0, 0, 0] := (o7.2.1 ⟨w.heap.size + 1 + 1, #[.int .u8 128, .int .u8 0, .int .u8 0, .int .u8 0, .int .u8 0], 5⟩ (by simp)).2
  have h3 : ByB W (w.heap.size + 1 + 1 + 1) 5 [4, 32] := (o7.2.1 ⟨w.heap.size + 1 + 1 + 1, #[.int .u8 4, .int .u8 32], 5⟩ (by simp)).2
  have h4 : ByB W (w.heap.size + 1 + 1 + 1 + 1) 5 [68, 32, 0] := (o7.2.1 ⟨w.heap.size + 1 + 1 + 1 + 1, #[.int .u8 68, .int .u8 32, .int .u8 0], 5⟩ (by simp)).2
  have h5 : ByB W (w.heap.size + 1 + 1 + 1 + 1 + 1) 5 [132, 32, 0, 0, 0, 0] := (o7.2.1 ⟨w.heap.size + 1 + 1 + 1 + 1 + 1, #[.int .u8 132, .int .u8 32, .int .u8 0, .int .u8 0, .int .u8 0, .int .u8 0], 5⟩ (by simp)).2
  have h6 : ByB W (w.heap.size + 1 + 1 + 1 + 1 + 1 + 1) 5 [4, 5, 0, 0, 0, 0] := (o7.2.1 ⟨w.heap.size + 1 + 1 + 1 + 1 + 1 + 1, #[.int .u8 4, .int .u8 5, .int .u8 0, .int .u8 0, .int .u8 0, .int .u8 0], 5⟩ (by simp)).2
  have hr := (o7.2.1 _ List.mem_cons_self).2
  have hc := fun q => cell_of_row W _ q _ _ (0, 0) hr
  have hk7 : k < 7 := (List.getElem?_eq_some_iff.1 hk).1
  have hkk : k = 0 ∨ k = 1 ∨ k = 2 ∨ k = 3 ∨ k = 4 ∨ k = 5 ∨ k = 6 := by omega
  rcases hkk with rfl | rfl | rfl | rfl | rfl | rfl | rfl
  · simp [wantL] at hk; subst hk; exact ⟨_, (hc 0).trans rfl, h0.mem (is_bytes (by decide)) (by omega)⟩
  · simp [wantL] at hk; subst hk; exact ⟨_, (hc 1).trans rfl, h1.mem (is_bytes (by decide)) (by omega)⟩
  · simp [wantL] at hk; subst hk; exact ⟨_, (hc 2).trans rfl, h2.mem (is_bytes (by decide)) (by omega)⟩
  · simp [wantL] at hk; subst hk; exact ⟨_, (hc 3).trans rfl, h3.mem (is_bytes (by decide)) (by omega)⟩
  · simp [wantL] at hk; subst hk; exact ⟨_, (hc 4).trans rfl, h4.mem (is_bytes (by decide)) (by omega)⟩
  · simp [wantL] at hk; subst hk; exact ⟨_, (hc 5).trans rfl, h5.mem (is_bytes (by decide)) (by omega)⟩
  · simp [wantL] at hk; subst hk; exact ⟨_, (hc 6).trans rfl, h6.mem (is_bytes (by decide)) (by omega)⟩
end Go.Proofs.YtiiepdgpnnjpiaaDoor
