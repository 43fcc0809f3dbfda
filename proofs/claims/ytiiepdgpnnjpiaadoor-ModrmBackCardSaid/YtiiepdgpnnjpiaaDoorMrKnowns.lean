/-
  Law 9: ModrmKnown.
  Law 9: ModrmKnown, the walk.
-/
import Derived.Test.YtiiepdgpnnjpiaaDoorMrBase
import Derived.Test.YtiiepdgpnnjpiaaDoorMrAt
section
namespace Go.Proofs.YtiiepdgpnnjpiaaDoor
open Go.RowKit
set_option maxRecDepth 100000

theorem lplace_any (bc bn ic ix s d z : Int) (w : World) :
    Calls Tryd.prog 17 #[.agg #[.int .i64 bc, .int .i64 bn, .int .i64 ic, .int .i64 ix, .int .i64 s, .int .i64 d, .int .i64 z]] w fun e w' => e = .returned (.agg #[.int .i64 2, .int .i64 0, .int .i64 0, .int .i64 bc, .int .i64 bn, .int .i64 ic, .int .i64 ix, .int .i64 s, .int .i64 d, .int .i64 z, .int .i64 0]) ∧ Below w.heap.size w w' := by
  go_enter Tryd.func17, Tryd.ntmps17
  go_wp2
  refine bodyPost_ret (v := .agg #[.int .i64 2, .int .i64 0, .int .i64 0, .int .i64 bc, .int .i64 bn, .int .i64 ic, .int .i64 ix, .int .i64 s, .int .i64 d, .int .i64 z, .int .i64 0]) (by simp [results, Tryd.results17, go_sem, *]) rfl ⟨rfl, ?_⟩
  go_grown
/-- The seven lists that the chapter names. -/
def wantL : List (List Int) := [[0], [64, 0], [128, 0, 0, 0, 0], [4, 32], [68, 32, 0], [132, 32, 0, 0, 0, 0], [4, 5, 0, 0, 0, 0]]
def wantW : List Way := wantL.map fun l => ⟨l, 0, 0⟩
theorem want_all : allE 0 ⟨2, 0, 0, ⟨5, 0, 0, 0, 0, 0, 0⟩, 0⟩ = 0 ∧ allF 0 ⟨2, 0, 0, ⟨5, 0, 0, 0, 0, 0, 0⟩, 0⟩ = wantW := ⟨by kernel_rfl, by kernel_rfl⟩
/-- Slices of bytes that a row of cells holds. -/
def Wants (w : World) (B g : Nat) (L : List (List Int)) : Prop := ∀ k l, L[k]? = some l → ∃ q, w.cell? ⟨g, k, none⟩ = some (.slice (some ⟨q, 0, none⟩) l.length l.length) ∧ Mem w B (some ⟨q, 0, none⟩) l
theorem Wants.below {w w' : World} {B g : Nat} {L : List (List Int)} (h : Wants w B g L) (hb : Below B w w') (hg : g < B) : Wants w' B g L := fun k l hk => by
  obtain ⟨q, h1, h2⟩ := h k l hk
  exact ⟨q, (hb.cell (p := ⟨g, k, none⟩) hg).trans h1, h2.below hb⟩
theorem wants_new (w : World) : Wants ((((((((w.alloc (.cells #[.int .u8 0] 5)).alloc (.cells #[.int .u8 64, .int .u8 0] 5)).alloc (.cells #[.int .u8 128, .int .u8 0, .int .u8 0, .int .u8 0, .int .u8 0] 5)).alloc (.cells #[.int .u8 4, .int .u8 32] 5)).alloc (.cells #[.int .u8 68, .int .u8 32, .int .u8 0] 5)).alloc (.cells #[.int .u8 132, .int .u8 32, .int .u8 0, .int .u8 0, .int .u8 0, .int .u8 0] 5)).alloc (.cells #[.int .u8 4, .int .u8 5, .int .u8 0, .int .u8 0, .int .u8 0, .int .u8 0] 5)).alloc (.cells #[.slice (some ⟨w.heap.size, 0, none⟩) 1 1, .slice (some ⟨w.heap.size + 1, 0, none⟩) 2 2, .slice (some ⟨w.heap.size + 1 + 1, 0, none⟩) 5 5, .slice (some ⟨w.heap.size + 1 + 1 + 1, 0, none⟩) 2 2, .slice (some ⟨w.heap.size + 1 + 1 + 1 + 1, 0, none⟩) 3 3, .slice (some ⟨w.heap.size + 1 + 1 + 1 + 1 + 1, 0, none⟩) 6 6, .slice (some ⟨w.heap.size + 1 + 1 + 1 + 1 + 1 + 1, 0, none⟩) 6 6] 32)) (w.heap.size + 1 + 1 + 1 + 1 + 1 + 1 + 1 + 1) (w.heap.size + 1 + 1 + 1 + 1 + 1 + 1 + 1) wantL ∧ Below w.heap.size w ((((((((w.alloc (.cells #[.int .u8 0] 5)).alloc (.cells #[.int .u8 64, .int .u8 0] 5)).alloc (.cells #[.int .u8 128, .int .u8 0, .int .u8 0, .int .u8 0, .int .u8 0] 5)).alloc (.cells #[.int .u8 4, .int .u8 32] 5)).alloc (.cells #[.int .u8 68, .int .u8 32, .int .u8 0] 5)).alloc (.cells #[.int .u8 132, .int .u8 32, .int .u8 0, .int .u8 0, .int .u8 0, .int .u8 0] 5)).alloc (.cells #[.int .u8 4, .int .u8 5, .int .u8 0, .int .u8 0, .int .u8 0, .int .u8 0] 5)).alloc (.cells #[.slice (some ⟨w.heap.size, 0, none⟩) 1 1, .slice (some ⟨w.heap.size + 1, 0, none⟩) 2 2, .slice (some ⟨w.heap.size + 1 + 1, 0, none⟩) 5 5, .slice (some ⟨w.heap.size + 1 + 1 + 1, 0, none⟩) 2 2, .slice (some ⟨w.heap.size + 1 + 1 + 1 + 1, 0, none⟩) 3 3, .slice (some ⟨w.heap.size + 1 + 1 + 1 + 1 + 1, 0, none⟩) 6 6, .slice (some ⟨w.heap.size + 1 + 1 + 1 + 1 + 1 + 1, 0, none⟩) 6 6] 32)) ∧ ((((((((w.alloc (.cells #[.int .u8 0] 5)).alloc (.cells #[.int .u8 64, .int .u8 0] 5)).alloc (.cells #[.int .u8 128, .int .u8 0, .int .u8 0, .int .u8 0, .int .u8 0] 5)).alloc (.cells #[.int .u8 4, .int .u8 32] 5)).alloc (.cells #[.int .u8 68, .int .u8 32, .int .u8 0] 5)).alloc (.cells #[.int .u8 132, .int .u8 32, .int .u8 0, .int .u8 0, .int .u8 0, .int .u8 0] 5)).alloc (.cells #[.int .u8 4, .int .u8 5, .int .u8 0, .int .u8 0, .int .u8 0, .int .u8 0] 5)).alloc (.cells #[.slice (some ⟨w.heap.size, 0, none⟩) 1 1, .slice (some ⟨w.heap.size + 1, 0, none⟩) 2 2, .slice (some ⟨w.heap.size + 1 + 1, 0, none⟩) 5 5, .slice (some ⟨w.heap.size + 1 + 1 + 1, 0, none⟩) 2 2, .slice (some ⟨w.heap.size + 1 + 1 + 1 + 1, 0, none⟩) 3 3, .slice (some ⟨w.heap.size + 1 + 1 + 1 + 1 + 1, 0, none⟩) 6 6, .slice (some ⟨w.heap.size + 1 + 1 + 1 + 1 + 1 + 1, 0, none⟩) 6 6] 32)).heap.size = w.heap.size + 1 + 1 + 1 + 1 + 1 + 1 + 1 + 1 := by
  have hs : ((((((((w.alloc (.cells #[.int .u8 0] 5)).alloc (.cells #[.int .u8 64, .int .u8 0] 5)).alloc (.cells #[.int .u8 128, .int .u8 0, .int .u8 0, .int .u8 0, .int .u8 0] 5)).alloc (.cells #[.int .u8 4, .int .u8 32] 5)).alloc (.cells #[.int .u8 68, .int .u8 32, .int .u8 0] 5)).alloc (.cells #[.int .u8 132, .int .u8 32, .int .u8 0, .int .u8 0, .int .u8 0, .int .u8 0] 5)).alloc (.cells #[.int .u8 4, .int .u8 5, .int .u8 0, .int .u8 0, .int .u8 0, .int .u8 0] 5)).alloc (.cells #[.slice (some ⟨w.heap.size, 0, none⟩) 1 1, .slice (some ⟨w.heap.size + 1, 0, none⟩) 2 2, .slice (some ⟨w.heap.size + 1 + 1, 0, none⟩) 5 5, .slice (some ⟨w.heap.size + 1 + 1 + 1, 0, none⟩) 2 2, .slice (some ⟨w.heap.size + 1 + 1 + 1 + 1, 0, none⟩) 3 3, .slice (some ⟨w.heap.size + 1 + 1 + 1 + 1 + 1, 0, none⟩) 6 6, .slice (some ⟨w.heap.size + 1 + 1 + 1 + 1 + 1 + 1, 0, none⟩) 6 6] 32)).heap.size = w.heap.size + 1 + 1 + 1 + 1 + 1 + 1 + 1 + 1 := by simp
  refine ⟨fun k l hk => ?_, by go_grown, hs⟩
  have o0 := (Own.nil w).alloc w.heap.size #[.int .u8 0] 5 rfl
  have o1 := o0.alloc (w.heap.size + 1) #[.int .u8 64, .int .u8 0] 5 (by simp)
  have o2 := o1.alloc (w.heap.size + 1 + 1) #[.int .u8 128, .int .u8 0, .int .u8 0, .int .u8 0, .int .u8 0] 5 (by simp)
  have o3 := o2.alloc (w.heap.size + 1 + 1 + 1) #[.int .u8 4, .int .u8 32] 5 (by simp)
  have o4 := o3.alloc (w.heap.size + 1 + 1 + 1 + 1) #[.int .u8 68, .int .u8 32, .int .u8 0] 5 (by simp)
  have o5 := o4.alloc (w.heap.size + 1 + 1 + 1 + 1 + 1) #[.int .u8 132, .int .u8 32, .int .u8 0, .int .u8 0, .int .u8 0, .int .u8 0] 5 (by simp)
  have o6 := o5.alloc (w.heap.size + 1 + 1 + 1 + 1 + 1 + 1) #[.int .u8 4, .int .u8 5, .int .u8 0, .int .u8 0, .int .u8 0, .int .u8 0] 5 (by simp)
  have o7 := o6.alloc (w.heap.size + 1 + 1 + 1 + 1 + 1 + 1 + 1) #[.slice (some ⟨w.heap.size, 0, none⟩) 1 1, .slice (some ⟨w.heap.size + 1, 0, none⟩) 2 2, .slice (some ⟨w.heap.size + 1 + 1, 0, none⟩) 5 5, .slice (some ⟨w.heap.size + 1 + 1 + 1, 0, none⟩) 2 2, .slice (some ⟨w.heap.size + 1 + 1 + 1 + 1, 0, none⟩) 3 3, .slice (some ⟨w.heap.size + 1 + 1 + 1 + 1 + 1, 0, none⟩) 6 6, .slice (some ⟨w.heap.size + 1 + 1 + 1 + 1 + 1 + 1, 0, none⟩) 6 6] 32 (by simp)
  clear o0 o1 o2 o3 o4 o5 o6
  generalize (((((((w.alloc (.cells #[.int .u8 0] 5)).alloc (.cells #[.int .u8 64, .int .u8 0] 5)).alloc (.cells #[.int .u8 128, .int .u8 0, .int .u8 0, .int .u8 0, .int .u8 0] 5)).alloc (.cells #[.int .u8 4, .int .u8 32] 5)).alloc (.cells #[.int .u8 68, .int .u8 32, .int .u8 0] 5)).alloc (.cells #[.int .u8 132, .int .u8 32, .int .u8 0, .int .u8 0, .int .u8 0, .int .u8 0] 5)).alloc (.cells #[.int .u8 4, .int .u8 5, .int .u8 0, .int .u8 0, .int .u8 0, .int .u8 0] 5)).alloc (.cells #[.slice (some ⟨w.heap.size, 0, none⟩) 1 1, .slice (some ⟨w.heap.size + 1, 0, none⟩) 2 2, .slice (some ⟨w.heap.size + 1 + 1, 0, none⟩) 5 5, .slice (some ⟨w.heap.size + 1 + 1 + 1, 0, none⟩) 2 2, .slice (some ⟨w.heap.size + 1 + 1 + 1 + 1, 0, none⟩) 3 3, .slice (some ⟨w.heap.size + 1 + 1 + 1 + 1 + 1, 0, none⟩) 6 6, .slice (some ⟨w.heap.size + 1 + 1 + 1 + 1 + 1 + 1, 0, none⟩) 6 6] 32) = W at *
  have h0 : ByB W (w.heap.size) 5 [0] := (o7.2.1 ⟨w.heap.size, #[.int .u8 0], 5⟩ (by simp)).2
  have h1 : ByB W (w.heap.size + 1) 5 [64, 0] := (o7.2.1 ⟨w.heap.size + 1, #[.int .u8 64, .int .u8 0], 5⟩ (by simp)).2
  have h2 : ByB W (w.heap.size + 1 + 1) 5 [128, 0, 0, 0, 0] := (o7.2.1 ⟨w.heap.size + 1 + 1, #[.int .u8 128, .int .u8 0, .int .u8 0, .int .u8 0, .int .u8 0], 5⟩ (by simp)).2
  have h3 : ByB W (w.heap.size + 1 + 1 + 1) 5 [4, 32] := (o7.2.1 ⟨w.heap.size + 1 + 1 + 1, #[.int .u8 4, .int .u8 32], 5⟩ (by simp)).2
  have h4 : ByB W (w.heap.size + 1 + 1 + 1 + 1) 5 [68, 32, 0] := (o7.2.1 ⟨w.heap.size + 1 + 1 + 1 + 1, #[.int .u8 68, .int .u8 32, .int .u8 0], 5⟩ (by simp)).2
  have h5 : ByB W (w.heap.size + 1 + 1 + 1 + 1 + 1) 5 [132, 32, 0, 0, 0, 0] := (o7.2.1 ⟨w.heap.size + 1 + 1 + 1 + 1 + 1, #[.int .u8 132, .int .u8 32, .int .u8 0, .int .u8 0, .int .u8 0, .int .u8 0], 5⟩ (by simp)).2
  have h6 : ByB W (w.heap.size + 1 + 1 + 1 + 1 + 1 + 1) 5 [4, 5, 0, 0, 0, 0] := (o7.2.1 ⟨w.heap.size + 1 + 1 + 1 + 1 + 1 + 1, #[.int .u8 4, .int .u8 5, .int .u8 0, .int .u8 0, .int .u8 0, .int .u8 0], 5⟩ (by simp)).2
  have hr := (o7.2.1 _ List.mem_cons_self).2
  have hc := fun q => cell_of_row W _ q _ _ (0, 0) hr
  have hk7 : k < 7 := (List.getElem?_eq_some_iff.1 hk).1
  have hkk : k = 0 ∨ k = 1 ∨ k = 2 ∨ k = 3 ∨ k = 4 ∨ k = 5 ∨ k = 6 := by omega
  rcases hkk with rfl | rfl | rfl | rfl | rfl | rfl | rfl
  · simp [wantL] at hk; subst hk; exact ⟨_, (hc 0).trans rfl, h0.mem (is_bytes (by decide)) (by omega)⟩
  · simp [wantL] at hk; subst hk; exact ⟨_, (hc 1).trans rfl, h1.mem (is_bytes (by decide)) (by omega)⟩
  · simp [wantL] at hk; subst hk; exact ⟨_, (hc 2).trans rfl, h2.mem (is_bytes (by decide)) (by omega)⟩
  · simp [wantL] at hk; subst hk; exact ⟨_, (hc 3).trans rfl, h3.mem (is_bytes (by decide)) (by omega)⟩
  · simp [wantL] at hk; subst hk; exact ⟨_, (hc 4).trans rfl, h4.mem (is_bytes (by decide)) (by omega)⟩
  · simp [wantL] at hk; subst hk; exact ⟨_, (hc 5).trans rfl, h5.mem (is_bytes (by decide)) (by omega)⟩
  · simp [wantL] at hk; subst hk; exact ⟨_, (hc 6).trans rfl, h6.mem (is_bytes (by decide)) (by omega)⟩
end Go.Proofs.YtiiepdgpnnjpiaaDoor
end
section
namespace Go.Proofs.YtiiepdgpnnjpiaaDoor
open Go.RowKit
set_option maxRecDepth 100000

theorem want_at {k : Nat} (hk : k < 7) : ∃ l, wantL[k]? = some l ∧ wantW[k]? = some ⟨l, 0, 0⟩ ∧ l.length ≤ 10 := by
  have hkk : k = 0 ∨ k = 1 ∨ k = 2 ∨ k = 3 ∨ k = 4 ∨ k = 5 ∨ k = 6 := by omega
  rcases hkk with rfl | rfl | rfl | rfl | rfl | rfl | rfl <;> exact ⟨_, rfl, rfl, by decide⟩
set_option maxHeartbeats 1000000 in
theorem known_any (w : World) (ht : Tz w) : Calls Tryd.prog 5 #[] w fun e w' => e = .returned (.bool true) ∧ Below w.heap.size w w' := by
  have HT := hid ht
  have HA := hid want_all
  have H0 := hid (show allE 1 ⟨2, 0, 0, ⟨5, 12, 0, 0, 0, 1, 0⟩, 0⟩ = 0 ∧ allF 1 ⟨2, 0, 0, ⟨5, 12, 0, 0, 0, 1, 0⟩, 0⟩ = ⟨[76, 36, 1], 0, 1⟩ :: (allF 1 ⟨2, 0, 0, ⟨5, 12, 0, 0, 0, 1, 0⟩, 0⟩).tail from ⟨by kernel_rfl, by kernel_rfl⟩)
  have H1 := hid (show allE 0 ⟨2, 0, 0, ⟨5, 5, 0, 0, 0, 0, 0⟩, 0⟩ = 0 ∧ allF 0 ⟨2, 0, 0, ⟨5, 5, 0, 0, 0, 0, 0⟩, 0⟩ = ⟨[69, 0], 0, 0⟩ :: (allF 0 ⟨2, 0, 0, ⟨5, 5, 0, 0, 0, 0, 0⟩, 0⟩).tail from ⟨by kernel_rfl, by kernel_rfl⟩)
  have H2 := hid (show allE 0 ⟨2, 0, 0, ⟨8, 0, 0, 0, 0, 2, 0⟩, 0⟩ = 0 ∧ allF 0 ⟨2, 0, 0, ⟨8, 0, 0, 0, 0, 2, 0⟩, 0⟩ = ⟨[5, 2, 0, 0, 0], 0, 0⟩ :: (allF 0 ⟨2, 0, 0, ⟨8, 0, 0, 0, 0, 2, 0⟩, 0⟩).tail from ⟨by kernel_rfl, by kernel_rfl⟩)
  have H3 := hid (show allE 0 ⟨2, 0, 0, ⟨0, 0, 5, 1, 4, 0, 0⟩, 0⟩ = 0 ∧ allF 0 ⟨2, 0, 0, ⟨0, 0, 5, 1, 4, 0, 0⟩, 0⟩ = ⟨[4, 141, 0, 0, 0, 0], 0, 0⟩ :: (allF 0 ⟨2, 0, 0, ⟨0, 0, 5, 1, 4, 0, 0⟩, 0⟩).tail from ⟨by kernel_rfl, by kernel_rfl⟩)
  have H4 := hid (show readA [68, 96, 5] 0 0 0 = (4, zeroS, 0) by kernel_rfl)
  have H5 := hid (show readA [0] 0 1 0 = (4, zeroS, 0) by kernel_rfl)
  clear ht
  go_enter Tryd.func5, Tryd.ntmps5
  go_wp2_with (first | (go_at_call 18; refine (lr_any 0 _).mono ?_; rintro e w1 ⟨rfl, hb1⟩; have HB1 := hid hb1; clear hb1) | (go_at_call 17; refine (lplace_any 5 0 0 0 0 0 0 _).mono ?_; rintro e w2 ⟨rfl, hb2⟩; have HB2 := hid (HB1.out.trans (hb2.mono HB1.out.size)); clear hb2))
  have H3 := mall_any 0 2 0 0 5 0 0 0 0 0 0 0 (by unfold I64; omega) w2 (HT.out.below HB2.out)
  unfold AV MAll at H3
  rw [HA.out.1, HA.out.2] at H3
  refine H3.mono ?_
  clear H3
  rintro e w3 ⟨v, rfl, hb3, Z, hZ1, hZ2, hZ3, -⟩
  have hl : Z.length = 7 := by have := congrArg List.length hZ1; simpa [wantW, wantL] using this
  obtain ⟨g, c, rfl, hle, hg, cs, hcs⟩ := row_form hZ2 (by omega)
  have hgl : g < w3.heap.size := (Array.getElem?_eq_some_iff.1 hcs).1
  have HB3 := hid (HB2.out.trans (hb3.mono HB2.out.size))
  rw [hl] at hle hZ2 ⊢
  have HZ := hid (And.intro hZ1 (And.intro hl (And.intro hZ2 hZ3)))
  clear hZ1 hl hZ2 hZ3 hcs hg hb3
  go_wp2
  obtain ⟨hw1, hw2, hw3⟩ := wants_new w3
  generalize (((((((w3.alloc (.cells #[.int .u8 0] 5)).alloc (.cells #[.int .u8 64, .int .u8 0] 5)).alloc (.cells #[.int .u8 128, .int .u8 0, .int .u8 0, .int .u8 0, .int .u8 0] 5)).alloc (.cells #[.int .u8 4, .int .u8 32] 5)).alloc (.cells #[.int .u8 68, .int .u8 32, .int .u8 0] 5)).alloc (.cells #[.int .u8 132, .int .u8 32, .int .u8 0, .int .u8 0, .int .u8 0, .int .u8 0] 5)).alloc (.cells #[.int .u8 4, .int .u8 5, .int .u8 0, .int .u8 0, .int .u8 0, .int .u8 0] 5)).alloc (.cells #[.slice (some ⟨w3.heap.size, 0, none⟩) 1 1, .slice (some ⟨w3.heap.size + 1, 0, none⟩) 2 2, .slice (some ⟨w3.heap.size + 1 + 1, 0, none⟩) 5 5, .slice (some ⟨w3.heap.size + 1 + 1 + 1, 0, none⟩) 2 2, .slice (some ⟨w3.heap.size + 1 + 1 + 1 + 1, 0, none⟩) 3 3, .slice (some ⟨w3.heap.size + 1 + 1 + 1 + 1 + 1, 0, none⟩) 6 6, .slice (some ⟨w3.heap.size + 1 + 1 + 1 + 1 + 1 + 1, 0, none⟩) 6 6] 32) = W at *
  have hgw : w3.heap.size + 1 + 1 + 1 + 1 + 1 + 1 + 1 < w3.heap.size + 1 + 1 + 1 + 1 + 1 + 1 + 1 + 1 := Nat.lt_succ_self _
  rw [← hw3] at hw1 hgw
  have hgl' : g < W.heap.size := by omega
  generalize w3.heap.size + 1 + 1 + 1 + 1 + 1 + 1 + 1 = gw at *
  have HW := hid (And.intro hw1 (And.intro hw2 hw3))
  clear hw1 hw2 hw3
  have HB4 := hid (HB3.out.trans (HW.out.2.1.mono HB3.out.size))
  go_loopw [4] (fun i wr => ∃ k : Nat, k ≤ 7 ∧ i = .int .i64 k ∧ Below W.heap.size W wr) (fun i _ => 7 - (intOf i).toNat)
  case atStart => exact ⟨0, by omega, rfl, Below.refl _ _⟩
  case round =>
    obtain ⟨k, hk, rfl, hbr⟩ := hrel
    have HR := hid hbr
    clear hbr
    by_cases hk7 : k < 7
    · obtain ⟨l, hl1, hl2, hl3⟩ := want_at hk7
      have hkz : k < Z.length := by rw [HZ.out.2.1]; exact hk7
      have hz : Z[k]? = some Z[k] := List.getElem?_eq_getElem hkz
      generalize Z[k] = z at hz
      have hzy : z.y = ⟨l, 0, 0⟩ := by have h1 := congrArg (fun L => L[k]?) HZ.out.1; simp only [List.getElem?_map, hz, hl2] at h1; simpa using h1
      obtain ⟨q, kk, y⟩ := z
      simp only at hzy
      subst hzy
      have hcell := row_at HZ.out.2.2.1 HZ.out.2.1 hz
      have hwh := (HZ.out.2.2.2 _ (List.mem_of_getElem? hz)).2
      obtain ⟨q', hq1, hq2⟩ := HW.out.1 k l hl1
      simp only at hcell
      have hbw := HW.out.2.1
      have c0 := (HR.out.cell (p := ⟨g, k * 3, none⟩) hgl').trans ((hbw.cell (p := ⟨g, k * 3, none⟩) hgl).trans hcell.1)
      have c1 := (HR.out.cell (p := ⟨g, k * 3 + 1, none⟩) hgl').trans ((hbw.cell (p := ⟨g, k * 3 + 1, none⟩) hgl).trans hcell.2.1)
      have c2 := (HR.out.cell (p := ⟨g, k * 3 + 2, none⟩) hgl').trans ((hbw.cell (p := ⟨g, k * 3 + 2, none⟩) hgl).trans hcell.2.2)
      have c3 := (HR.out.cell (p := ⟨gw, k, none⟩) hgw).trans hq1
      have hM1 : Mem wr wr.heap.size (some ⟨q, 0, none⟩) l := hwh.below hq2.1 (hbw.trans (HR.out.mono hbw.size)) (Nat.le_trans hbw.size HR.out.size)
      have hM2 : Mem wr wr.heap.size (some ⟨q', 0, none⟩) l := (hq2.below HR.out).mono HR.out.size
      have z1 : g < wr.heap.size := Nat.lt_of_lt_of_le hgl' HR.out.size
      have z2 : gw < wr.heap.size := Nat.lt_of_lt_of_le hgw HR.out.size
      have HM1 := hid hM1
      have HM2 := hid hM2
      have i0 : (0 : Int) ≤ (k : Int) := by omega
      have i1 : (k : Int) < 7 := by omega
      clear hcell hwh hq1 hq2 hbw hM1 hM2 hz hl1 hl2 hkz
      go_wp2
      go_region_held3 (fun w' => Below wr.heap.size wr w' ∧ ∀ b o, b < wr.heap.size → w'.cell? ⟨b, o, none⟩ = wr.cell? ⟨b, o, none⟩) (first | with_reducible assumption | exact old_drew (Old.of (Below.refl wr.heap.size wr)) | exact Old.of (Below.refl wr.heap.size wr)) ((go_at_call 10; refine (same_yes (HM1.out.below (And.left ‹Below wr.heap.size wr _ ∧ _›)) (HM2.out.below (And.left ‹Below wr.heap.size wr _ ∧ _›)) rfl rfl).mono ?_; rintro e w5 ⟨rfl, rfl⟩))
      go_wp2
      go_roundw
      case rel => exact ⟨k + 1, by omega, by go_num, HR.out.drew⟩
      case measure => simp [intOf]; omega
    · have hk' : k = 7 := by omega
      subst hk'
      have HBx := hid (HB4.out.trans (HR.out.mono HB4.out.size))
      clear HW HZ HB3 HB4 HR HB2 HB1
      obtain ⟨v0, rfl⟩ : ∃ v0 : World, v0 = wr := ⟨_, rfl⟩
      go_wp2_with fail
      refine (lr_any 12 _).mono ?_
      rintro e v1 ⟨rfl, hb⟩
      have HBx := hid (HBx.out.trans (hb.mono HBx.out.size))
      clear hb
      go_wp2_with fail
      refine (lplace_any 5 12 0 0 0 1 0 _).mono ?_
      rintro e v2 ⟨rfl, hb⟩
      have HBx := hid (HBx.out.trans (hb.mono HBx.out.size))
      clear hb
      go_wp2_with fail
      refine (first_yes (f := 1) (k := 2) (rc := 0) (rn := 0) (bc := 5) (bn := 12) (ic := 0) (ix := 0) (s := 0) (d := 1) (z := 0) (n := 0) (want := [76, 36, 1]) (L := (allF 1 ⟨2, 0, 0, ⟨5, 12, 0, 0, 0, 1, 0⟩, 0⟩).tail) H0.out.1 H0.out.2 (by unfold I64; omega) rfl _ (HT.out.below (HBx.out.alloc HBx.out.size _)) (by exact mem_new (W := v2) (zs := [76, 36, 1]) (is_bytes (by decide)) (by simp))).mono ?_
      rintro e v3 ⟨rfl, hb⟩
      have HBx := hid ((HBx.out.alloc HBx.out.size _).trans (hb.mono (HBx.out.alloc HBx.out.size _).size))
      clear hb
      go_wp2_with fail
      refine (lr_any 5 _).mono ?_
      rintro e v4 ⟨rfl, hb⟩
      have HBx := hid (HBx.out.trans (hb.mono HBx.out.size))
      clear hb
      go_wp2_with fail
      refine (lplace_any 5 5 0 0 0 0 0 _).mono ?_
      rintro e v5 ⟨rfl, hb⟩
      have HBx := hid (HBx.out.trans (hb.mono HBx.out.size))
      clear hb
      go_wp2_with fail
      refine (first_yes (f := 0) (k := 2) (rc := 0) (rn := 0) (bc := 5) (bn := 5) (ic := 0) (ix := 0) (s := 0) (d := 0) (z := 0) (n := 0) (want := [69, 0]) (L := (allF 0 ⟨2, 0, 0, ⟨5, 5, 0, 0, 0, 0, 0⟩, 0⟩).tail) H1.out.1 H1.out.2 (by unfold I64; omega) rfl _ (HT.out.below (HBx.out.alloc HBx.out.size _)) (by exact mem_new (W := v5) (zs := [69, 0]) (is_bytes (by decide)) (by simp))).mono ?_
      rintro e v6 ⟨rfl, hb⟩
      have HBx := hid ((HBx.out.alloc HBx.out.size _).trans (hb.mono (HBx.out.alloc HBx.out.size _).size))
      clear hb
      go_wp2_with fail
      refine (lplace_any 8 0 0 0 0 2 0 _).mono ?_
      rintro e v7 ⟨rfl, hb⟩
      have HBx := hid (HBx.out.trans (hb.mono HBx.out.size))
      clear hb
      go_wp2_with fail
      refine (first_yes (f := 0) (k := 2) (rc := 0) (rn := 0) (bc := 8) (bn := 0) (ic := 0) (ix := 0) (s := 0) (d := 2) (z := 0) (n := 0) (want := [5, 2, 0, 0, 0]) (L := (allF 0 ⟨2, 0, 0, ⟨8, 0, 0, 0, 0, 2, 0⟩, 0⟩).tail) H2.out.1 H2.out.2 (by unfold I64; omega) rfl _ (HT.out.below (HBx.out.alloc HBx.out.size _)) (by exact mem_new (W := v7) (zs := [5, 2, 0, 0, 0]) (is_bytes (by decide)) (by simp))).mono ?_
      rintro e v8 ⟨rfl, hb⟩
      have HBx := hid ((HBx.out.alloc HBx.out.size _).trans (hb.mono (HBx.out.alloc HBx.out.size _).size))
      clear hb
      go_wp2_with fail
      refine (lawake_any _ (HT.out.below HBx.out)).mono ?_
      rintro e v9 ⟨rfl, hb⟩
      have HBx := hid (HBx.out.trans (hb.mono HBx.out.size))
      clear hb
      go_wp2_with fail
      refine (lr_any 1 _).mono ?_
      rintro e v10 ⟨rfl, hb⟩
      have HBx := hid (HBx.out.trans (hb.mono HBx.out.size))
      clear hb
      go_wp2_with fail
      refine (lplace_any 0 0 5 1 4 0 0 _).mono ?_
      rintro e v11 ⟨rfl, hb⟩
      have HBx := hid (HBx.out.trans (hb.mono HBx.out.size))
      clear hb
      go_wp2_with fail
      refine (first_yes (f := 0) (k := 2) (rc := 0) (rn := 0) (bc := 0) (bn := 0) (ic := 5) (ix := 1) (s := 4) (d := 0) (z := 0) (n := 0) (want := [4, 141, 0, 0, 0, 0]) (L := (allF 0 ⟨2, 0, 0, ⟨0, 0, 5, 1, 4, 0, 0⟩, 0⟩).tail) H3.out.1 H3.out.2 (by unfold I64; omega) rfl _ (HT.out.below (HBx.out.alloc HBx.out.size _)) (by exact mem_new (W := v11) (zs := [4, 141, 0, 0, 0, 0]) (is_bytes (by decide)) (by simp))).mono ?_
      rintro e v12 ⟨rfl, hb⟩
      have HBx := hid ((HBx.out.alloc HBx.out.size _).trans (hb.mono (HBx.out.alloc HBx.out.size _).size))
      clear hb
      go_wp2_with fail
      refine (fails_yes (xs := [68, 96, 5]) H4.out rfl (by decide) (by decide) _ (by exact mem_new (W := v12) (zs := [68, 96, 5]) (is_bytes (by decide)) (by simp))).mono ?_
      rintro e v13 ⟨rfl, hb⟩
      have HBx := hid ((HBx.out.alloc HBx.out.size _).trans (hb.mono (HBx.out.alloc HBx.out.size _).size))
      clear hb
      go_wp2_with fail
      refine (fails_yes (xs := [0]) H5.out rfl (by decide) (by decide) _ (by exact mem_new (W := v13) (zs := [0]) (is_bytes (by decide)) (by simp))).mono ?_
      rintro e v14 ⟨rfl, hb⟩
      have HBx := hid ((HBx.out.alloc HBx.out.size _).trans (hb.mono (HBx.out.alloc HBx.out.size _).size))
      clear hb
      go_wp2
      go_ret
      exact ⟨rfl, HBx.out⟩
end Go.Proofs.YtiiepdgpnnjpiaaDoor
end
