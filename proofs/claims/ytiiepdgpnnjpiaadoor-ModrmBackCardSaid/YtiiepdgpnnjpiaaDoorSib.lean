/-
  SIB, and the heads of a place's ways: the program's.
-/
import Derived.Test.YtiiepdgpnnjpiaaDoorJoin
import Derived.Test.YtiiepdgpnnjpiaaDoorFBase
import Derived.Test.YtiiepdgpnnjpiaaDoorOwns
import Derived.Deep.RegionHeld3
namespace Go.Proofs.YtiiepdgpnnjpiaaDoor
open Go.RowKit
set_option maxRecDepth 100000

theorem ByB.own {w : World} {b : Nat} {zs : List Int} {t : TypeId} (h : w.heap[b]? = some (.cells (zs.map (Value.int .u8)).toArray t (0, 0))) : ByB w b t zs := h
theorem msib_none (s base : Int) (hb : 0 ≤ base ∧ base ≤ 7) (w : World) :
    Calls Tryd.prog 81 #[.agg #[.int .i64 0, .int .i64 0], .int .i64 s, .int .i64 base] w fun e w' => e = .returned (.slice (some ⟨w.heap.size + 1, 0, none⟩) 1 1) ∧ Below w.heap.size w w' ∧ ByB w' (w.heap.size + 1) 5 [32 + base] := by
  go_enter Tryd.func81, Tryd.ntmps81
  go_wp2_with (go_at_call 43; refine (join_any 0 4 base (by omega) (by omega) hb _).mono ?_; rintro e w1 ⟨rfl, rfl⟩)
  go_ret
  refine ⟨rfl, by go_grown, ?_⟩
  have := heap_alloc_new (w.alloc (.cells #[.int .i64 0, .int .i64 0] 23)) (.cells #[.int .u8 (64 * 0 + 8 * 4 + base)] 5)
  rw [show (w.alloc (.cells #[.int .i64 0, .int .i64 0] 23)).heap.size = w.heap.size + 1 by simp] at this
  rw [show (64 * 0 + 8 * 4 + base : Int) = 32 + base by omega] at this
  exact this
set_option maxHeartbeats 1000000 in
theorem msib_some (ix s base : Int) (hs : s = 1 ∨ s = 2 ∨ s = 4 ∨ s = 8) (hb : 0 ≤ base ∧ base ≤ 7) (w : World) (ht : Tz w) :
    Calls Tryd.prog 81 #[.agg #[.int .i64 5, .int .i64 ix], .int .i64 s, .int .i64 base] w fun e w' => ∃ g : Nat, w.heap.size ≤ g ∧ e = .returned (.slice (some ⟨g, 0, none⟩) 1 1) ∧ Below w.heap.size w w' ∧ ByB w' g 5 [64 * shiftF s + 8 * lowF 5 ix + base] := by
  have hl := low_range 5 ix
  have hsh := shiftF_range s
  have HT := hid (ht.below ((Below.refl _ _).alloc (Nat.le_refl _) (.cells #[.int .i64 5, .int .i64 ix] 23)))
  have HS0 := hid hs
  have hsw : IntKind.u64.wrap s = s := by rcases hs with rfl | rfl | rfl | rfl <;> rfl
  have HO := hid ((Own.nil w).alloc w.heap.size #[.int .i64 5, .int .i64 ix] 23 rfl)
  clear ht hs
  go_enter Tryd.func81, Tryd.ntmps81
  go_wp2_with fail
  generalize w.alloc (.cells #[.int .i64 5, .int .i64 ix] 23) = W at *
  have c0 := HO.out.c
  have z0 := HO.out.z
  have hS := Old.of (Below.refl W.heap.size W)
  go_region_held3 (fun w' => Below W.heap.size W w' ∧ ∀ b o, b < W.heap.size → w'.cell? ⟨b, o, none⟩ = W.cell? ⟨b, o, none⟩) (first | assumption | exact old_drew ‹_› | exact old_alloc ‹_› _ | (refine old_kept ?_ (by assumption); assumption)) (first | (go_at_call 92; refine (tz_any s HS0.out _ (HT.out.below (And.left ‹Below W.heap.size W _ ∧ _›))).mono ?_; rintro e w1 ⟨rfl, rfl⟩) | (go_at_call 44; refine (low_reg 5 ix _).mono ?_; rintro e w2 ⟨rfl, hbel⟩) | (go_at_call 43; refine (join_any (shiftF s) (lowF 5 ix) base hsh hl hb _).mono ?_; rintro e w3 ⟨rfl, rfl⟩))
  go_wp2
  go_ret
  have hB : Below W.heap.size W (w2.alloc (.cells #[.int .u8 (64 * shiftF s + 8 * lowF 5 ix + base)] 5)) := by apply And.left; assumption
  have h2 := hbel.size
  have h1 := HO.out.below.size
  refine ⟨w2.heap.size, by simp at h2; omega, rfl, HO.out.below.trans (hB.mono HO.out.below.size), ?_⟩
  exact heap_alloc_new w2 _
theorem msib_any (ix s base : Int) (hs : s = 1 ∨ s = 2 ∨ s = 4 ∨ s = 8) (hb : 0 ≤ base ∧ base ≤ 7) (w : World) (ht : Tz w) :
    Calls Tryd.prog 81 #[.agg #[.int .i64 5, .int .i64 ix], .int .i64 s, .int .i64 base] w fun e w' => ∃ g : Nat, w.heap.size ≤ g ∧ e = .returned (.slice (some ⟨g, 0, none⟩) 1 1) ∧ Below w.heap.size w w' ∧ ByB w' g 5 (sibF 5 ix s base) :=
  msib_some ix s base hs hb w ht
theorem msib_zero (s base : Int) (hb : 0 ≤ base ∧ base ≤ 7) (w : World) :
    Calls Tryd.prog 81 #[.agg #[.int .i64 0, .int .i64 0], .int .i64 s, .int .i64 base] w fun e w' => ∃ g : Nat, w.heap.size ≤ g ∧ e = .returned (.slice (some ⟨g, 0, none⟩) 1 1) ∧ Below w.heap.size w w' ∧ ByB w' g 5 (sibF 0 0 s base) :=
  (msib_none s base hb w).mono fun e w' ⟨he, hb, hk⟩ => ⟨_, by omega, he, hb, hk⟩

/-- The index of a place, or none, with its scale. -/
def IxOk (ic ix s : Int) : Prop := (ic = 0 ∧ ix = 0) ∨ (ic = 5 ∧ (s = 1 ∨ s = 2 ∨ s = 4 ∨ s = 8))
theorem msib_at (ic ix s base : Int) (hi : IxOk ic ix s) (hb : 0 ≤ base ∧ base ≤ 7) (w : World) (ht : Tz w) :
    Calls Tryd.prog 81 #[.agg #[.int .i64 ic, .int .i64 ix], .int .i64 s, .int .i64 base] w fun e w' => ∃ g : Nat, w.heap.size ≤ g ∧ e = .returned (.slice (some ⟨g, 0, none⟩) 1 1) ∧ Below w.heap.size w w' ∧ ByB w' g 5 (sibF ic ix s base) := by
  rcases hi with ⟨rfl, rfl⟩ | ⟨rfl, hs⟩
  · exact msib_zero s base hb w
  · exact msib_any ix s base hs hb w ht
/-- A head's six cells; its SIB stands in block g. -/
abbrev HV (h : Hd) (g : Nat) : Array Value := #[.int .i64 h.rm, if h.sib = [] then .slice none 0 0 else .slice (some ⟨g, 0, none⟩) 1 1, .int .i64 h.x, .int .i64 h.b, .int .i64 h.base, .bool h.alone]
theorem bel_cells {A w1 : World} (hb : Below A.heap.size A w1) (h : Nat) (hh : h < A.heap.size) :
    (∀ j, w1.cell? ⟨h, j, none⟩ = A.cell? ⟨h, j, none⟩) ∧ (∀ j, w1.frozen? ⟨h, j, none⟩ = A.frozen? ⟨h, j, none⟩) ∧ h < w1.heap.size :=
  ⟨fun j => hb.cell (p := ⟨h, j, none⟩) hh, fun j => hb.frozen (p := ⟨h, j, none⟩) hh, by have := hb.size; omega⟩
theorem ByB.far {w : World} {g b i : Nat} {t : TypeId} {zs : List Int} (h : ByB w g t zs) (hne : g ≠ b) (v : Value) : ByB (w.setCell ⟨b, i, none⟩ v) g t zs := (Below.heap_setCell _ _ _ _ hne).trans h
set_option maxHeartbeats 400000 in
theorem mindexed_any (ic ix s : Int) (hi : IxOk ic ix s) (w : World) (ht : Tz w) :
    Calls Tryd.prog 68 #[.agg #[.int .i64 ic, .int .i64 ix], .int .i64 s] w fun e w' => ∃ g : Nat, w.heap.size ≤ g ∧ e = .returned (.agg #[.int .i64 4, .slice (some ⟨g, 0, none⟩) 1 1, .int .i64 (highF ic ix), .int .i64 0, .int .i64 0, .bool true]) ∧ Below w.heap.size w w' ∧ ByB w' g 5 (sibF ic ix s 5) := by
  have HI := hid hi
  have HT := hid (ht.below ((Below.refl _ _).alloc (Nat.le_refl _) (.cells #[.int .i64 ic, .int .i64 ix] 23)))
  have HO := hid ((Own.nil w).alloc w.heap.size #[.int .i64 ic, .int .i64 ix] 23 rfl)
  have hsz : (w.alloc (.cells #[.int .i64 ic, .int .i64 ix] 23)).heap.size = w.heap.size + 1 := by simp
  clear ht hi
  go_enter Tryd.func68, Tryd.ntmps68
  go_wp2_with fail
  generalize w.alloc (.cells #[.int .i64 ic, .int .i64 ix] 23) = W at *
  have c0 := HO.out.c
  have z0 := HO.out.z
  rw [← hsz]
  have HZ := hid hsz
  clear hsz
  have hS := old_drew (old_alloc (Old.of (Below.refl W.heap.size W)) (.cells #[.int .i64 0, .slice none 0 0, .int .i64 0, .int .i64 0, .int .i64 0, .bool false] 82))
  go_region_held3 (fun w' => Below W.heap.size W w' ∧ ∀ b o, b < W.heap.size → w'.cell? ⟨b, o, none⟩ = W.cell? ⟨b, o, none⟩) (first | with_reducible assumption | (with_reducible refine old_kept ?_ (by assumption); with_reducible assumption) | ((repeat with_reducible refine old_set ?_ _ _ (by simp)); with_reducible assumption)) (first | (go_at_call 81; refine (msib_at ic ix s 5 HI.out (by omega) _ (HT.out.below (And.left ‹Below W.heap.size W _ ∧ _›))).mono ?_; rintro e w1 ⟨g, hg, rfl, hbel, hk⟩; obtain ⟨hx1, hy1, hz1⟩ := bel_cells hbel W.heap.size (by first | assumption | (simp; done)); have HK := hid hk; clear hk) | (go_at_call 45; refine (high_reg ic ix _).mono ?_; rintro e w2 ⟨rfl, hbel⟩; obtain ⟨hx2, hy2, hz2⟩ := bel_cells hbel W.heap.size (by first | assumption | (simp; done))))
  go_wp2
  have hB : Below W.heap.size W ((((((w2.setCell ⟨W.heap.size, 0, none⟩ (.int .i64 4)).setCell ⟨W.heap.size, 1, none⟩ (.slice (some ⟨g, 0, none⟩) 1 1)).setCell ⟨W.heap.size, 2, none⟩ (.int .i64 (highF ic ix))).setCell ⟨W.heap.size, 3, none⟩ (.int .i64 0)).setCell ⟨W.heap.size, 4, none⟩ (.int .i64 0)).setCell ⟨W.heap.size, 5, none⟩ (.bool true)) := by apply And.left; assumption
  have hgW : W.heap.size < g := by simp at hg; omega
  have hk2 : ByB w2 g 5 (sibF ic ix s 5) := HK.out.below hbel HK.out.lt
  refine bodyPost_ret (v := .agg #[.int .i64 4, .slice (some ⟨g, 0, none⟩) 1 1, .int .i64 (highF ic ix), .int .i64 0, .int .i64 0, .bool true]) (by simp [results, Tryd.results68, go_sem, *]) rfl ⟨g, by have := HZ.out; omega, rfl, HO.out.below.trans (hB.mono HO.out.below.size), ?_⟩
  exact (((((hk2.far (by omega) _).far (by omega) _).far (by omega) _).far (by omega) _).far (by omega) _).far (by omega) _
/-- Two registers boxed, a block behind them. -/
abbrev SB (w : World) (bc bn ic ix : Int) (w' : World) : Prop := Below w.heap.size w w' ∧ w'.cell? ⟨w.heap.size, 0, none⟩ = some (.int .i64 bc) ∧ w'.cell? ⟨w.heap.size, 1, none⟩ = some (.int .i64 bn) ∧ w'.cell? ⟨w.heap.size + 1, 0, none⟩ = some (.int .i64 ic) ∧ w'.cell? ⟨w.heap.size + 1, 1, none⟩ = some (.int .i64 ix) ∧ w.heap.size + 1 + 1 < w'.heap.size ∧ Tz w'
theorem sb_call {w w1 w2 : World} {bc bn ic ix : Int} (h : SB w bc bn ic ix w1) (hb : Below w1.heap.size w1 w2) : SB w bc bn ic ix w2 := by
  obtain ⟨h1, h2, h3, h4, h5, h6, h7⟩ := h
  have e0 : w.heap.size < w1.heap.size := by omega
  have e1 : w.heap.size + 1 < w1.heap.size := by omega
  exact ⟨h1.trans (hb.mono h1.size), (hb.cell (p := ⟨w.heap.size, 0, none⟩) e0).trans h2, (hb.cell (p := ⟨w.heap.size, 1, none⟩) e0).trans h3, (hb.cell (p := ⟨w.heap.size + 1, 0, none⟩) e1).trans h4, (hb.cell (p := ⟨w.heap.size + 1, 1, none⟩) e1).trans h5, by have := hb.size; omega, h7.below hb⟩
theorem sb_set {w w1 : World} {bc bn ic ix : Int} (hg : (1 : Nat) < w.heap.size) (h : SB w bc bn ic ix w1) (i : Nat) (v : Value) : SB w bc bn ic ix (w1.setCell ⟨w.heap.size + 1 + 1, i, none⟩ v) := by
  obtain ⟨h1, h2, h3, h4, h5, h6, h7⟩ := h
  have hc := fun b j (hne : b ≠ w.heap.size + 1 + 1) => World.cell?_of_block (a := ⟨b, j, none⟩) (Below.heap_setCell w1 ⟨w.heap.size + 1 + 1, i, none⟩ v b hne)
  exact ⟨h1.setCell (p := ⟨w.heap.size + 1 + 1, i, none⟩) (show w.heap.size ≤ w.heap.size + 1 + 1 by omega) v, (hc _ _ (by omega)).trans h2, (hc _ _ (by omega)).trans h3, (hc _ _ (by omega)).trans h4, (hc _ _ (by omega)).trans h5, by simpa [World.setCell] using h6, h7.turn (Below.heap_setCell _ _ _ _ (show (1 : Nat) ≠ w.heap.size + 1 + 1 by omega))⟩
set_option maxHeartbeats 400000 in
theorem mbased_any (bc bn ic ix s : Int) (hi : IxOk ic ix s) (w : World) (ht : Tz w) :
    Calls Tryd.prog 69 #[.agg #[.int .i64 bc, .int .i64 bn], .agg #[.int .i64 ic, .int .i64 ix], .int .i64 s] w fun e w' => ∃ g : Nat, w.heap.size ≤ g ∧ e = .returned (.agg #[.int .i64 4, .slice (some ⟨g, 0, none⟩) 1 1, .int .i64 (highF ic ix), .int .i64 (highF bc bn), .int .i64 (lowF bc bn), .bool false]) ∧ Below w.heap.size w w' ∧ ByB w' g 5 (sibF ic ix s (lowF bc bn)) := by
  have HI := hid hi
  have HT := hid ht
  have HT0 := hid ht
  have hl := low_range bc bn
  clear ht hi
  go_enter Tryd.func69, Tryd.ntmps69
  go_wp2_with (go_at_call 44; refine (low_reg bc bn _).mono ?_; rintro e w0 ⟨rfl, hb0⟩; have HO := hid ((((((Own.nil w).alloc w.heap.size #[.int .i64 bc, .int .i64 bn] 23 rfl).alloc (w.heap.size + 1) #[.int .i64 ic, .int .i64 ix] 23 (by simp)).alloc (w.heap.size + 2) #[.int .i64 0, .slice none 0 0, .int .i64 0, .int .i64 0, .int .i64 0, .bool false] 82 (by simp))).call hb0); clear hb0; have c0 := HO.out.tl.tl.c; have c1 := HO.out.tl.c; have c2 := HO.out.c; have f2 := HO.out.f; have z0 := HO.out.tl.tl.z; have z1 := HO.out.tl.z; have z2 := HO.out.z; have HT := hid (HT.out.below HO.out.below))
  have hS : SB w bc bn ic ix w0.drew := ⟨HO.out.below.drew, c0 0, c0 1, c1 0, c1 1, z2, HT.out⟩
  have hG : (1 : Nat) < w.heap.size := HT0.out.lt
  go_region_held3 (fun w' => SB w bc bn ic ix w') (first | with_reducible assumption | (with_reducible refine sb_call ?_ (by assumption); with_reducible assumption) | ((repeat with_reducible refine sb_set hG ?_ _ _); with_reducible assumption)) (first | (go_at_call 81; refine (msib_at ic ix s (lowF bc bn) HI.out hl _ (‹SB w bc bn ic ix _›).2.2.2.2.2.2).mono ?_; rintro e w1 ⟨g, hg, rfl, hbel, hk⟩; obtain ⟨hx1, hy1, hz1⟩ := bel_cells hbel (w.heap.size + 1 + 1) (by first | assumption | (simp; done)); have HK := hid hk; clear hk) | (go_at_call 45; (with_reducible refine (high_reg ic ix _).mono ?_); rintro e w2 ⟨rfl, hbel⟩; obtain ⟨hx2, hy2, hz2⟩ := bel_cells hbel (w.heap.size + 1 + 1) (by first | assumption | (simp; done))) | (go_at_call 45; (with_reducible refine (high_reg bc bn _).mono ?_); rintro e w3 ⟨rfl, hbel⟩; obtain ⟨hx3, hy3, hz3⟩ := bel_cells hbel (w.heap.size + 1 + 1) (by first | assumption | (simp; done))))
  go_wp2
  have hB : SB w bc bn ic ix ((((((w3.setCell ⟨w.heap.size + 1 + 1, 0, none⟩ (.int .i64 4)).setCell ⟨w.heap.size + 1 + 1, 1, none⟩ (.slice (some ⟨g, 0, none⟩) 1 1)).setCell ⟨w.heap.size + 1 + 1, 2, none⟩ (.int .i64 (highF ic ix))).setCell ⟨w.heap.size + 1 + 1, 3, none⟩ (.int .i64 (highF bc bn))).setCell ⟨w.heap.size + 1 + 1, 4, none⟩ (.int .i64 (lowF bc bn))).setCell ⟨w.heap.size + 1 + 1, 5, none⟩ (.bool false)) := by assumption
  have hgW : w.heap.size + 1 + 1 < g := by simp at hg; omega
  have hk2 : ByB w3 g 5 (sibF ic ix s (lowF bc bn)) := (HK.out.below ‹Below w1.heap.size w1 w2› HK.out.lt).below hbel (by have := (‹Below w1.heap.size w1 w2›).size; have := HK.out.lt; omega)
  refine bodyPost_ret (v := .agg #[.int .i64 4, .slice (some ⟨g, 0, none⟩) 1 1, .int .i64 (highF ic ix), .int .i64 (highF bc bn), .int .i64 (lowF bc bn), .bool false]) (by simp [results, Tryd.results69, go_sem, *]) rfl ⟨g, by omega, rfl, hB.1, ?_⟩
  exact (((((hk2.far (by omega) _).far (by omega) _).far (by omega) _).far (by omega) _).far (by omega) _).far (by omega) _
end Go.Proofs.YtiiepdgpnnjpiaaDoor
