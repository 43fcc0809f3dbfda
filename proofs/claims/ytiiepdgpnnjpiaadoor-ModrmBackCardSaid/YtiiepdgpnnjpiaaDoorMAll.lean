/-
  All of package modrm: the error, and the ways in new memory.
-/
import Derived.Test.YtiiepdgpnnjpiaaDoorCollect
namespace Go.Proofs.YtiiepdgpnnjpiaaDoor
open Go.RowKit
set_option maxRecDepth 100000

theorem collect_any (bm bf : Nat) (f : Int) (p : Pl) (hf : 0 ≤ f ∧ f ≤ 7) (hp : Shape p) (hd : D32 p.d) (W : World)
    (hcap : W.cell? ⟨bf, 0, none⟩ = some (.int .i64 f) ∧ (W.cell? ⟨bm, 0, none⟩ = some (.int .i64 p.bc) ∧ W.cell? ⟨bm, 1, none⟩ = some (.int .i64 p.bn) ∧ W.cell? ⟨bm, 2, none⟩ = some (.int .i64 p.ic) ∧ W.cell? ⟨bm, 3, none⟩ = some (.int .i64 p.ix) ∧ W.cell? ⟨bm, 4, none⟩ = some (.int .i64 p.s) ∧ W.cell? ⟨bm, 5, none⟩ = some (.int .i64 p.d) ∧ W.cell? ⟨bm, 6, none⟩ = some (.int .i64 p.z)) ∧ Tz W) :
    Calls Tryd.prog 25 #[.func (.func 47) #[] #[.pointer (some ⟨bm, 0, none⟩), .pointer (some ⟨bf, 0, none⟩)]] W fun e C => ∃ v, e = .returned v ∧ Below W.heap.size W C ∧ LaysP C W.heap.size v (waysF f p) := by
  have HC := hid (appendSeq_any bm bf f p hf hp hd W hcap)
  clear hcap
  go_enter Tryd.func25, Tryd.ntmps25
  go_wp2_with (go_at_call 46; refine HC.out.mono ?_; rintro e w1 ⟨v, rfl, hb, hl⟩; have HB := hid hb; have HL := hid hl; clear hb hl)
  go_ret
  exact ⟨v, rfl, HB.out, HL.out⟩
set_option maxHeartbeats 400000 in
theorem register_any (f c n : Int) (hf : 0 ≤ f ∧ f ≤ 7) (w : World) :
    Calls Tryd.prog 24 #[.int .i64 f, .agg #[.int .i64 c, .int .i64 n]] w fun e w' => ∃ g : Nat, w.heap.size ≤ g ∧ e = .returned (.agg #[.slice (some ⟨g, 0, none⟩) 1 1, .int .i64 0, .int .i64 (highF c n)]) ∧ Below w.heap.size w w' ∧ ByB w' g 5 [192 + 8 * f + lowF c n] := by
  have hl := low_range c n
  have HO := hid ((Own.nil w).alloc w.heap.size #[.int .i64 c, .int .i64 n] 23 rfl)
  have hsz : (w.alloc (.cells #[.int .i64 c, .int .i64 n] 23)).heap.size = w.heap.size + 1 := by simp
  go_enter Tryd.func24, Tryd.ntmps24
  go_wp2_with fail
  generalize w.alloc (.cells #[.int .i64 c, .int .i64 n] 23) = W at *
  have c0 := HO.out.c
  have z0 := HO.out.z
  rw [← hsz]
  have HZ := hid hsz
  clear hsz
  have hS := old_drew (old_alloc (Old.of (Below.refl W.heap.size W)) (.cells #[.slice none 0 0, .int .i64 0, .int .i64 0] 34))
  go_region_held3 (fun w' => Below W.heap.size W w' ∧ ∀ b o, b < W.heap.size → w'.cell? ⟨b, o, none⟩ = W.cell? ⟨b, o, none⟩) (first | with_reducible assumption | (with_reducible refine old_kept ?_ (by assumption); with_reducible assumption) | (with_reducible refine old_alloc ?_ _; with_reducible assumption) | ((repeat with_reducible refine old_set ?_ _ _ (by simp)); with_reducible assumption) | (with_reducible refine old_alloc ?_ _; (repeat with_reducible refine old_set ?_ _ _ (by simp)); with_reducible assumption))
    (first | (go_at_call 44; refine (low_reg c n _).mono ?_; rintro e w1 ⟨rfl, hb1⟩; obtain ⟨hx1, hy1, hz1⟩ := bel_cells hb1 W.heap.size (by first | assumption | (simp; done))) | (go_at_call 43; refine (join_any 3 f (lowF c n) (by omega) hf hl _).mono ?_; rintro e w3 ⟨rfl, rfl⟩) | (go_at_call 45; refine (high_reg c n _).mono ?_; rintro e w2 ⟨rfl, hb2⟩; obtain ⟨hx2, hy2, hz2⟩ := bel_cells hb2 W.heap.size (by first | assumption | (simp; omega)); have hQ2 : Below W.heap.size W w2 ∧ ∀ b o, b < W.heap.size → w2.cell? ⟨b, o, none⟩ = W.cell? ⟨b, o, none⟩ := (by refine old_kept ?_ hb2; assumption)))
  all_goals go_wp2
  · have hB : Below W.heap.size W (((w2.setCell ⟨W.heap.size, 0, none⟩ (.slice (some ⟨w1.heap.size, 0, none⟩) 1 1)).setCell ⟨W.heap.size, 1, none⟩ (.int .i64 0)).setCell ⟨W.heap.size, 2, none⟩ (.int .i64 (highF c n))) := by apply And.left; assumption
    have hs1 := hb1.size
    have hs2 := hb2.size
    simp only [World.size_drew, World.size_alloc] at hs1 hs2
    have hk : ByB w2 w1.heap.size 5 [192 + 8 * f + lowF c n] := (hb2.block _ (by simp)).trans (heap_alloc_new w1 _)
    refine bodyPost_ret (v := .agg #[.slice (some ⟨w1.heap.size, 0, none⟩) 1 1, .int .i64 0, .int .i64 (highF c n)]) (by simp [results, Tryd.results24, go_sem, *]) rfl ⟨w1.heap.size, by omega, rfl, HO.out.below.trans (hB.mono (by omega)), ?_⟩
    exact ((hk.far (by omega) _).far (by omega) _).far (by omega) _
  · have hB : Below W.heap.size W ((((w2.setCell ⟨W.heap.size, 0, none⟩ (.slice (some ⟨w2.heap.size, 0, none⟩) 1 1)).setCell ⟨W.heap.size, 1, none⟩ (.int .i64 0)).setCell ⟨W.heap.size, 2, none⟩ (.int .i64 (highF c n))).alloc (.cells #[.int .u8 (192 + 8 * f + lowF c n)] 5)) := by apply And.left; assumption
    have hs1 := hb1.size
    have hs2 := hb2.size
    simp only [World.size_drew, World.size_alloc] at hs1
    refine bodyPost_ret (v := .agg #[.slice (some ⟨w2.heap.size, 0, none⟩) 1 1, .int .i64 0, .int .i64 (highF c n)]) (by simp [results, Tryd.results24, go_sem, *]) rfl ⟨w2.heap.size, by omega, rfl, HO.out.below.trans (hB.mono (by omega)), ?_⟩
    have := heap_alloc_new (((w2.setCell ⟨W.heap.size, 0, none⟩ (.slice (some ⟨w2.heap.size, 0, none⟩) 1 1)).setCell ⟨W.heap.size, 1, none⟩ (.int .i64 0)).setCell ⟨W.heap.size, 2, none⟩ (.int .i64 (highF c n))) (.cells #[.int .u8 (192 + 8 * f + lowF c n)] 5)
    have hh : (((w2.setCell ⟨W.heap.size, 0, none⟩ (.slice (some ⟨w2.heap.size, 0, none⟩) 1 1)).setCell ⟨W.heap.size, 1, none⟩ (.int .i64 0)).setCell ⟨W.heap.size, 2, none⟩ (.int .i64 (highF c n))).heap.size = w2.heap.size := by simp [World.setCell]
    rw [hh] at this
    exact this
/-- What the program's All answers. -/
def MAll (f : Int) (a : Ar) (w : World) (e : Ending) (w' : World) : Prop :=
  ∃ v, e = .returned (.tuple #[v, .int .i64 (allE f a)]) ∧ Below w.heap.size w w' ∧ LaysP w' w.heap.size v (allF f a)
theorem all_out (f : Int) (h : f < 0 ∨ 7 < f) (k rc rn bc bn ic ix s d z n : Int) (w : World) :
    Calls Tryd.prog 8 #[.int .i64 f, AV ⟨k, rc, rn, ⟨bc, bn, ic, ix, s, d, z⟩, n⟩] w (MAll f ⟨k, rc, rn, ⟨bc, bn, ic, ix, s, d, z⟩, n⟩ w) := by
  have HE := hid (show allE f ⟨k, rc, rn, ⟨bc, bn, ic, ix, s, d, z⟩, n⟩ = 5 by unfold allE; rw [if_pos h])
  have HF := hid (show allF f ⟨k, rc, rn, ⟨bc, bn, ic, ix, s, d, z⟩, n⟩ = [] by unfold allF; rw [HE.out]; rfl)
  by_cases h0 : f < 0
  · clear h
    go_enter Tryd.func8, Tryd.ntmps8
    go_wp2
    go_ret2
    exact ⟨_, by rw [HE.out]; rfl, by go_grown, by rw [HF.out]; exact LaysP.nil _ _⟩
  · have h7 : 7 < f := by omega
    clear h
    go_enter Tryd.func8, Tryd.ntmps8
    go_wp2
    go_ret2
    exact ⟨_, by rw [HE.out]; rfl, by go_grown, by rw [HF.out]; exact LaysP.nil _ _⟩
set_option maxHeartbeats 400000 in
theorem all_not (f : Int) (hf : 0 ≤ f ∧ f ≤ 7) (k rc rn bc bn ic ix s d z n e' : Int) (h : (e' != 0) = true) (HX : Hid (aoutF ⟨k, rc, rn, ⟨bc, bn, ic, ix, s, d, z⟩, n⟩ = ⟨0, 0, 0, ⟨0, 0, 0, 0, 0, 0, 0⟩, 0⟩)) (HK : Hid (argF ⟨k, rc, rn, ⟨bc, bn, ic, ix, s, d, z⟩, n⟩ = e')) (HS : Hid (I64 s)) (w : World) :
    Calls Tryd.prog 8 #[.int .i64 f, .agg #[.int .i64 k, .int .i64 rc, .int .i64 rn, .int .i64 bc, .int .i64 bn, .int .i64 ic, .int .i64 ix, .int .i64 s, .int .i64 d, .int .i64 z, .int .i64 n]] w fun e w' => e = .returned (.tuple #[.slice none 0 0, .int .i64 e']) ∧ Below w.heap.size w w' := by
  go_enter Tryd.func8, Tryd.ntmps8
  go_wp2_with (go_at_call 21; refine (acanon_of HX.out HK.out HS.out _).mono ?_; rintro e w1 ⟨rfl, hb1⟩; have HO := hid (((Own.nil w).alloc w.heap.size #[.int .i64 k, .int .i64 rc, .int .i64 rn, .int .i64 bc, .int .i64 bn, .int .i64 ic, .int .i64 ix, .int .i64 s, .int .i64 d, .int .i64 z, .int .i64 n] 27 rfl).call hb1); clear hb1; have z0 := HO.out.z)
  go_ret2
  exact ⟨rfl, HO.out.below.alloc HO.out.below.size _⟩
set_option maxHeartbeats 400000 in
theorem all_rest (f : Int) (hf : 0 ≤ f ∧ f ≤ 7) (k rc rn bc bn ic ix s d z n : Int) (h1 : ¬ k = 1) (h2 : ¬ k = 2) (q : Int) (HX : Hid (aoutF ⟨k, rc, rn, ⟨bc, bn, ic, ix, s, d, z⟩, n⟩ = ⟨k, 0, 0, ⟨0, 0, 0, 0, 0, 0, 0⟩, q⟩)) (HK : Hid (argF ⟨k, rc, rn, ⟨bc, bn, ic, ix, s, d, z⟩, n⟩ = 0)) (HS : Hid (I64 s)) (w : World) :
    Calls Tryd.prog 8 #[.int .i64 f, .agg #[.int .i64 k, .int .i64 rc, .int .i64 rn, .int .i64 bc, .int .i64 bn, .int .i64 ic, .int .i64 ix, .int .i64 s, .int .i64 d, .int .i64 z, .int .i64 n]] w fun e w' => e = .returned (.tuple #[.slice none 0 0, .int .i64 2]) ∧ Below w.heap.size w w' := by
  go_enter Tryd.func8, Tryd.ntmps8
  go_wp2_with (go_at_call 21; refine (acanon_of HX.out HK.out HS.out _).mono ?_; rintro e w1 ⟨rfl, hb1⟩; have HO := hid (((Own.nil w).alloc w.heap.size #[.int .i64 k, .int .i64 rc, .int .i64 rn, .int .i64 bc, .int .i64 bn, .int .i64 ic, .int .i64 ix, .int .i64 s, .int .i64 d, .int .i64 z, .int .i64 n] 27 rfl).call hb1); clear hb1; have z0 := HO.out.z)
  go_ret2
  exact ⟨rfl, HO.out.below.alloc HO.out.below.size _⟩
set_option maxHeartbeats 400000 in
theorem all_reg (f : Int) (hf : 0 ≤ f ∧ f ≤ 7) (rc rn k bc bn ic ix s d z n : Int) (HX : Hid (aoutF ⟨k, rc, rn, ⟨bc, bn, ic, ix, s, d, z⟩, n⟩ = ⟨1, rc, rn, ⟨0, 0, 0, 0, 0, 0, 0⟩, 0⟩)) (HK : Hid (argF ⟨k, rc, rn, ⟨bc, bn, ic, ix, s, d, z⟩, n⟩ = 0)) (HS : Hid (I64 s)) (w : World) :
    Calls Tryd.prog 8 #[.int .i64 f, .agg #[.int .i64 k, .int .i64 rc, .int .i64 rn, .int .i64 bc, .int .i64 bn, .int .i64 ic, .int .i64 ix, .int .i64 s, .int .i64 d, .int .i64 z, .int .i64 n]] w fun e w' => ∃ v, e = .returned (.tuple #[v, .int .i64 0]) ∧ Below w.heap.size w w' ∧ LaysP w' w.heap.size v [regWay f rc rn] := by
  go_enter Tryd.func8, Tryd.ntmps8
  go_wp2_with (first | (go_at_call 21; refine (acanon_of HX.out HK.out HS.out _).mono ?_; rintro e w1 ⟨rfl, hb1⟩; have HO := hid (((Own.nil w).alloc w.heap.size #[.int .i64 k, .int .i64 rc, .int .i64 rn, .int .i64 bc, .int .i64 bn, .int .i64 ic, .int .i64 ix, .int .i64 s, .int .i64 d, .int .i64 z, .int .i64 n] 27 rfl).call hb1); clear hb1; have z0 := HO.out.z) | (go_at_call 24; refine (register_any f rc rn hf _).mono ?_; rintro e w2 ⟨g, hg, rfl, hb2, hk⟩; have HB2 := hid hb2; have HK2 := hid (And.intro hg hk); clear hb2 hg hk))
  go_ret2
  have hb1 : Below w.heap.size w w2 := (HO.out.below.alloc HO.out.below.size _).trans (HB2.out.mono (by have := HO.out.below.size; simp; omega))
  refine ⟨_, rfl, hb1.alloc hb1.size _, ?_⟩
  have hgw : w.heap.size ≤ g := by have h1 := HK2.out.1; rw [World.size_alloc] at h1; have := HO.out.below.size; omega
  refine ⟨[⟨g, 1, regWay f rc rn⟩], rfl, ?_, fun x hx => ?_, by simp⟩
  · exact World.ownsRow_lit (base := w.heap.size) (e := 34) (size := 3) w2 #[.slice (some ⟨g, 0, none⟩) 1 1, .int .i64 0, .int .i64 (highF rc rn)] 1 hb1.size (by simp [maxLen]) rfl
  · simp at hx; subst hx
    exact ⟨hgw, [192 + 8 * f + lowF rc rn], (Below.heap_alloc _ _ _ HK2.out.2.lt).trans HK2.out.2, rfl, rfl, by simp [regWay]⟩
set_option maxHeartbeats 400000 in
theorem all_mem (f : Int) (hf : 0 ≤ f ∧ f ≤ 7) (k rc rn bc bn ic ix s d z n : Int) (pc pn qc qn t e' y : Int) (hp : Shape ⟨pc, pn, qc, qn, t, e', y⟩) (hd : D32 e') (HX : Hid (aoutF ⟨k, rc, rn, ⟨bc, bn, ic, ix, s, d, z⟩, n⟩ = ⟨2, 0, 0, ⟨pc, pn, qc, qn, t, e', y⟩, 0⟩)) (HK : Hid (argF ⟨k, rc, rn, ⟨bc, bn, ic, ix, s, d, z⟩, n⟩ = 0)) (HS : Hid (I64 s)) (w : World) (ht : Tz w) :
    Calls Tryd.prog 8 #[.int .i64 f, .agg #[.int .i64 k, .int .i64 rc, .int .i64 rn, .int .i64 bc, .int .i64 bn, .int .i64 ic, .int .i64 ix, .int .i64 s, .int .i64 d, .int .i64 z, .int .i64 n]] w fun e w' => ∃ v, e = .returned (.tuple #[v, .int .i64 0]) ∧ Below w.heap.size w w' ∧ LaysP w' w.heap.size v (waysF f ⟨pc, pn, qc, qn, t, e', y⟩) := by
  have HT := hid ht
  clear ht
  go_enter Tryd.func8, Tryd.ntmps8
  go_wp2_with (first | (go_at_call 21; refine (acanon_of HX.out HK.out HS.out _).mono ?_; rintro e w1 ⟨rfl, hb1⟩; have HO := hid (((Own.nil w).alloc w.heap.size #[.int .i64 k, .int .i64 rc, .int .i64 rn, .int .i64 bc, .int .i64 bn, .int .i64 ic, .int .i64 ix, .int .i64 s, .int .i64 d, .int .i64 z, .int .i64 n] 27 rfl).call hb1); clear hb1; have z0 := HO.out.z) | (go_at_call 26; refine (waysOf_any f pc pn qc qn t e' y _).mono ?_; rintro e w2 ⟨rfl, rfl⟩))
  obtain ⟨b0, e0, e1, e2, hb0⟩ := three_boxes w1 (.cells #[.int .i64 2, .int .i64 0, .int .i64 0, .int .i64 pc, .int .i64 pn, .int .i64 qc, .int .i64 qn, .int .i64 t, .int .i64 e', .int .i64 y, .int .i64 0] 27) (.cells #[.int .i64 f] 3) (.cells #[.int .i64 pc, .int .i64 pn, .int .i64 qc, .int .i64 qn, .int .i64 t, .int .i64 e', .int .i64 y] 25)
  generalize ((w1.alloc (.cells #[.int .i64 2, .int .i64 0, .int .i64 0, .int .i64 pc, .int .i64 pn, .int .i64 qc, .int .i64 qn, .int .i64 t, .int .i64 e', .int .i64 y, .int .i64 0] 27)).alloc (.cells #[.int .i64 f] 3)).alloc (.cells #[.int .i64 pc, .int .i64 pn, .int .i64 qc, .int .i64 qn, .int .i64 t, .int .i64 e', .int .i64 y] 25) = W3 at b0 e0 e1 e2 hb0 ⊢
  have k1 := fun q => cell_of_row W3 _ q _ _ (0, 0) e1
  have k2 := fun q => cell_of_row W3 _ q _ _ (0, 0) e2
  have hwz := HO.out.below.size
  have hBW : Below w.heap.size w W3 := HO.out.below.trans (hb0.mono hwz)
  refine (collect_any (w1.heap.size + 1 + 1) (w1.heap.size + 1) f ⟨pc, pn, qc, qn, t, e', y⟩ hf hp hd W3 ⟨k1 0, ⟨k2 0, k2 1, k2 2, k2 3, k2 4, k2 5, k2 6⟩, HT.out.below hBW⟩).mono ?_
  rintro e C ⟨v, rfl, hb, hl⟩
  have hBC : Below w.heap.size w C := hBW.trans (hb.mono hBW.size)
  have HB := hid (And.intro hBC (hl.mono hBW.size))
  clear b0 e0 e1 e2 hb0 k1 k2 hwz hBW hb hl hBC
  go_wp2
  go_ret2
  exact ⟨v, rfl, HB.out.1, HB.out.2⟩
theorem mall_any (f : Int) (k rc rn bc bn ic ix s d z n : Int) (hs : I64 s) (w : World) (ht : Tz w) :
    Calls Tryd.prog 8 #[.int .i64 f, AV ⟨k, rc, rn, ⟨bc, bn, ic, ix, s, d, z⟩, n⟩] w (MAll f ⟨k, rc, rn, ⟨bc, bn, ic, ix, s, d, z⟩, n⟩ w) := by
  by_cases hf : f < 0 ∨ 7 < f
  · exact all_out f hf _ _ _ _ _ _ _ _ _ _ _ w
  have hf' : 0 ≤ f ∧ f ≤ 7 := by omega
  obtain ⟨e', he⟩ : ∃ e', argF ⟨k, rc, rn, ⟨bc, bn, ic, ix, s, d, z⟩, n⟩ = e' := ⟨_, rfl⟩
  by_cases h0 : e' = 0
  · subst h0
    by_cases h1 : k = 1
    · subst h1
      have hE : allE f ⟨1, rc, rn, ⟨bc, bn, ic, ix, s, d, z⟩, n⟩ = 0 := by unfold allE; rw [if_neg hf, if_pos he]; simp
      have hF : allF f ⟨1, rc, rn, ⟨bc, bn, ic, ix, s, d, z⟩, n⟩ = [regWay f rc rn] := by unfold allF; rw [if_pos hE]; simp
      unfold MAll
      rw [hE, hF]
      exact all_reg f hf' rc rn 1 bc bn ic ix s d z n (hid (by unfold aoutF; rw [if_pos he]; simp)) (hid he) (hid hs) w
    · by_cases h2 : k = 2
      · subst h2
        have hc : checkF ⟨bc, bn, ic, ix, s, d, z⟩ = 0 := by simpa [argF] using he
        have hE : allE f ⟨2, rc, rn, ⟨bc, bn, ic, ix, s, d, z⟩, n⟩ = 0 := by unfold allE; rw [if_neg hf, if_pos he]; simp
        have hF : allF f ⟨2, rc, rn, ⟨bc, bn, ic, ix, s, d, z⟩, n⟩ = waysF f (canonF ⟨bc, bn, ic, ix, s, d, z⟩) := by unfold allF; rw [if_pos hE]; simp
        unfold MAll
        rw [hE, hF]
        obtain ⟨hsh, hd, _, _⟩ := canon_shape hc
        have ho : aoutF ⟨2, rc, rn, ⟨bc, bn, ic, ix, s, d, z⟩, n⟩ = ⟨2, 0, 0, canonF ⟨bc, bn, ic, ix, s, d, z⟩, 0⟩ := by unfold aoutF; rw [if_pos he]; simp [outF, hc]
        generalize canonF ⟨bc, bn, ic, ix, s, d, z⟩ = q at hsh hd ho ⊢
        obtain ⟨pc, pn, qc, qn, t, e', y⟩ := q
        exact all_mem f hf' 2 rc rn bc bn ic ix s d z n pc pn qc qn t e' y hsh hd (hid ho) (hid he) (hid hs) w ht
      · have hE : allE f ⟨k, rc, rn, ⟨bc, bn, ic, ix, s, d, z⟩, n⟩ = 2 := by unfold allE; rw [if_neg hf, if_pos he, if_neg (by simp [h1, h2])]
        have hF : allF f ⟨k, rc, rn, ⟨bc, bn, ic, ix, s, d, z⟩, n⟩ = [] := by unfold allF; rw [hE]; rfl
        refine (all_rest f hf' k rc rn bc bn ic ix s d z n h1 h2 n (hid ?_) (hid he) (hid hs) w).mono fun e w' ⟨h3, h4⟩ => ⟨.slice none 0 0, by rw [h3, hE], h4, by rw [hF]; exact LaysP.nil _ _⟩
        unfold aoutF; rw [if_pos he]; simp [h1, h2]
  · have hE : allE f ⟨k, rc, rn, ⟨bc, bn, ic, ix, s, d, z⟩, n⟩ = e' := by unfold allE; rw [if_neg hf, if_neg (by rw [he]; exact h0), he]
    have hF : allF f ⟨k, rc, rn, ⟨bc, bn, ic, ix, s, d, z⟩, n⟩ = [] := by unfold allF; rw [hE, if_neg h0]
    refine (all_not f hf' k rc rn bc bn ic ix s d z n e' (by simp [h0]) (hid ?_) (hid he) (hid hs) w).mono fun e w' ⟨h3, h4⟩ => ⟨.slice none 0 0, by rw [h3, hE], h4, by rw [hF]; exact LaysP.nil _ _⟩
    unfold aoutF; rw [if_neg (by rw [he]; exact h0)]
end Go.Proofs.YtiiepdgpnnjpiaaDoor
