/-
  The fields of contents; the encoding with two bytes, and that with three: the program's.
-/
import Derived.Test.YtllnjmpakkodnaaVxFields
import Derived.Test.YtllnjmpakkodnaaVxCheck
namespace Go.Proofs.Ytllnjmpakkodnaa
open Go.RowKit
set_option maxRecDepth 100000

set_option maxHeartbeats 1000000 in
theorem pp_any (r x b m n v l p : Int) (w : World) :
    Calls Try.prog 38 #[.agg (VC r x b m n v l p)] w fun e w' => e = .returned (.int .i64 (idxF p)) ∧ Below w.heap.size w w' := by
  have HO := hid ((Own.nil w).alloc w.heap.size (VC r x b m n v l p) 23 rfl)
  have c0 := HO.out.c
  have z0 := HO.out.z
  go_enter Try.func38, Try.ntmps38
  go_wp2_with fail
  generalize w.alloc (.cells (VC r x b m n v l p) 23) = W at *
  have hS := Old.of (Below.refl W.heap.size W)
  go_region_held3 (fun w' => Below W.heap.size W w' ∧ ∀ b o, b < W.heap.size → w'.cell? ⟨b, o, none⟩ = W.cell? ⟨b, o, none⟩) (first | with_reducible assumption | exact old_drew ‹_› | exact old_drew (Old.of (Below.refl W.heap.size W)) | (with_reducible refine old_kept ?_ (by assumption); with_reducible assumption)) (first | (go_at_call 28; refine (prefixes_new _).mono ?_; rintro e w2 ⟨rfl, hb2, hf2, hz2⟩) | (go_at_call 36; refine (index_any _ p _ (by first | exact hf2 | exact hf2.drew)).mono ?_; rintro e w3 ⟨rfl, rfl⟩))
  all_goals go_wp2
  all_goals go_ret
  all_goals exact ⟨rfl, HO.out.below.trans ((‹Below W.heap.size W _ ∧ _›).1.mono HO.out.below.size)⟩
theorem pp_of {r x b m n v l p z : Int} (h : idxF p = z) (w : World) :
    Calls Try.prog 38 #[.agg (VC r x b m n v l p)] w fun e w' => e = .returned (.int .i64 z) ∧ Below w.heap.size w w' := by rw [← h]; exact pp_any r x b m n v l p w
abbrev twoC (r v l z : Int) : Array Value := #[.int .i64 r, .int .i64 1, .int .i64 v, .int .i64 4, .int .i64 l, .int .i64 1, .int .i64 z, .int .i64 2]
abbrev threeC (r x b m n v l z : Int) : Array Value := #[.int .i64 r, .int .i64 1, .int .i64 x, .int .i64 1, .int .i64 b, .int .i64 1, .int .i64 m, .int .i64 5, .int .i64 n, .int .i64 1, .int .i64 v, .int .i64 4, .int .i64 l, .int .i64 1, .int .i64 z, .int .i64 2]
abbrev twoFs (r v l z : Int) : List (Int × Int) := [(r, 1), (v, 4), (l, 1), (z, 2)]
abbrev threeFs (r x b m n v l z : Int) : List (Int × Int) := [(r, 1), (x, 1), (b, 1), (m, 5), (n, 1), (v, 4), (l, 1), (z, 2)]
theorem two_cells (r v l z : Int) : twoC r v l z = (fcells (twoFs r v l z)).toArray := rfl
theorem three_cells (r x b m n v l z : Int) : threeC r x b m n v l z = (fcells (threeFs r x b m n v l z)).toArray := rfl
set_option maxHeartbeats 1000000 in
theorem twofields_any (r x b m n v l p z : Int) (h : idxF p = z) (w : World) :
    Calls Try.prog 34 #[.agg (VC r x b m n v l p)] w fun e w' => ∃ g : Nat, w.heap.size ≤ g ∧ e = .returned (SL g 4) ∧ Hid (Own w [⟨g, (fcells (twoFs r v l z)).toArray, 57⟩] w') := by
  have H := hid h
  clear h
  have HO := hid ((Own.nil w).alloc w.heap.size (VC r x b m n v l p) 23 rfl)
  have c0 := HO.out.c
  have z0 := HO.out.z
  go_enter Try.func34, Try.ntmps34
  go_wp2_with fail
  generalize w.alloc (.cells (VC r x b m n v l p) 23) = W at *
  have hS := Old.of (Below.refl W.heap.size W)
  go_region_held3 (fun w' => Below W.heap.size W w' ∧ ∀ b o, b < W.heap.size → w'.cell? ⟨b, o, none⟩ = W.cell? ⟨b, o, none⟩) (first | with_reducible assumption | exact old_drew ‹_› | exact old_drew (Old.of (Below.refl W.heap.size W)) | (with_reducible refine old_kept ?_ (by assumption); with_reducible assumption) | (with_reducible refine old_alloc ?_ _; with_reducible assumption)) ((go_at_call 38; refine (pp_of H.out _).mono ?_; rintro e w2 ⟨rfl, hb2⟩))
  all_goals go_wp2
  all_goals go_ret
  have HB := hid (show Below w.heap.size w w2 from HO.out.below.drew.trans (hb2.mono HO.out.below.size))
  exact ⟨w2.heap.size, HB.out.size, rfl, hid (((Own.nil w).call HB.out).alloc w2.heap.size (twoC r v l z) 57 rfl)⟩
set_option maxHeartbeats 1000000 in
theorem threefields_any (r x b m n v l p z : Int) (h : idxF p = z) (w : World) :
    Calls Try.prog 35 #[.agg (VC r x b m n v l p)] w fun e w' => ∃ g : Nat, w.heap.size ≤ g ∧ e = .returned (SL g 8) ∧ Hid (Own w [⟨g, (fcells (threeFs r x b m n v l z)).toArray, 57⟩] w') := by
  have H := hid h
  clear h
  have HO := hid ((Own.nil w).alloc w.heap.size (VC r x b m n v l p) 23 rfl)
  have c0 := HO.out.c
  have z0 := HO.out.z
  go_enter Try.func35, Try.ntmps35
  go_wp2_with fail
  generalize w.alloc (.cells (VC r x b m n v l p) 23) = W at *
  have hS := Old.of (Below.refl W.heap.size W)
  go_region_held3 (fun w' => Below W.heap.size W w' ∧ ∀ b o, b < W.heap.size → w'.cell? ⟨b, o, none⟩ = W.cell? ⟨b, o, none⟩) (first | with_reducible assumption | exact old_drew ‹_› | exact old_drew (Old.of (Below.refl W.heap.size W)) | (with_reducible refine old_kept ?_ (by assumption); with_reducible assumption) | (with_reducible refine old_alloc ?_ _; with_reducible assumption)) ((go_at_call 38; refine (pp_of H.out _).mono ?_; rintro e w2 ⟨rfl, hb2⟩))
  all_goals go_wp2
  all_goals go_ret
  have HB := hid (show Below w.heap.size w w2 from HO.out.below.drew.trans (hb2.mono HO.out.below.size))
  exact ⟨w2.heap.size, HB.out.size, rfl, hid (((Own.nil w).call HB.out).alloc w2.heap.size (threeC r x b m n v l z) 57 rfl)⟩
/-- The number of contents with two bytes, and with three. -/
theorem two_num {r v l z : Int} (hr : r = 0 ∨ r = 1) (hv : 0 ≤ v ∧ v ≤ 15) (hl : l = 0 ∨ l = 1) (hz : 0 ≤ z ∧ z ≤ 3) :
    Fit (twoFs r v l z) ∧ layN (twoFs r v l z) 0 = 128 * r + 8 * v + 4 * l + z ∧ bits .xor .i64 (128 * r + 8 * v + 4 * l + z) 248 = 128 * (1 - r) + 8 * (15 - v) + 4 * l + z := by
  refine ⟨?_, ?_, ?_⟩
  · intro k hk
    have hk4 : k = 0 ∨ k = 1 ∨ k = 2 ∨ k = 3 := by simp at hk; omega
    rcases hk4 with rfl | rfl | rfl | rfl <;> simp [Wd, layN] <;> omega
  · simp [layN]; omega
  · rw [xor_two _ (by omega)]; omega
theorem three_num {r x b m n v l z : Int} (hr : r = 0 ∨ r = 1) (hx : x = 0 ∨ x = 1) (hb : b = 0 ∨ b = 1) (hm : 1 ≤ m ∧ m ≤ 3) (hn : n = 0 ∨ n = 1) (hv : 0 ≤ v ∧ v ≤ 15) (hl : l = 0 ∨ l = 1) (hz : 0 ≤ z ∧ z ≤ 3) :
    Fit (threeFs r x b m n v l z) ∧ layN (threeFs r x b m n v l z) 0 = (128 * r + 64 * x + 32 * b + m) * 256 + (128 * n + 8 * v + 4 * l + z) ∧
    bits .xor .i64 ((128 * r + 64 * x + 32 * b + m) * 256 + (128 * n + 8 * v + 4 * l + z)) 57464 = (128 * (1 - r) + 64 * (1 - x) + 32 * (1 - b) + m) * 256 + (128 * n + 8 * (15 - v) + 4 * l + z) := by
  refine ⟨?_, ?_, ?_⟩
  · intro k hk
    have hk4 : k = 0 ∨ k = 1 ∨ k = 2 ∨ k = 3 ∨ k = 4 ∨ k = 5 ∨ k = 6 ∨ k = 7 := by simp at hk; omega
    rcases hk4 with rfl | rfl | rfl | rfl | rfl | rfl | rfl | rfl <;> simp [Wd, layN] <;> omega
  · simp [layN]; omega
  · rw [xor_three _ (by omega)]; omega
theorem lay_of {fs : List (Int × Int)} {n g : Nat} {z : Int} (hn : fs.length = n) (h8 : n ≤ 8) (hf : Fit fs) (hz : layN fs 0 = z) (w : World) (h : Flds w g fs) :
    Calls Try.prog 33 #[SL g n] w fun e w' => e = .returned (.int .i64 z) ∧ Below w.heap.size w w' := by rw [← hz]; exact lay_any fs n g hn h8 hf w h
theorem flds_own {w w' : World} {g : Nat} {fs : List (Int × Int)} {t : TypeId} {l : List Blk} (h : Own w (⟨g, (fcells fs).toArray, t⟩ :: l) w') : Flds w' g fs := ⟨h.z, fun j => (h.c j).trans (by simp)⟩
set_option maxHeartbeats 1000000 in
theorem two_any (r x b m n v l p : Int) (hq : okF ⟨r, x, b, m, n, v, l, p⟩ = true) (w : World) :
    Calls Try.prog 22 #[.agg (VC r x b m n v l p)] w fun e w' => ∃ g : Nat, w.heap.size ≤ g ∧ e = .returned (SL g 2) ∧ Below w.heap.size w w' ∧ ByB w' g 5 (twoB ⟨r, x, b, m, n, v, l, p⟩) := by
  obtain ⟨hr, -, -, -, hl, -, hv, hp⟩ := ok_parts hq
  simp only at hr hl hv hp
  have hz := ppF_range p
  have hi := idx_pp hp
  obtain ⟨q1, q2, q3⟩ := two_num hr hv hl hz
  have HT : twoB ⟨r, x, b, m, n, v, l, p⟩ = [197, 128 * (1 - r) + 8 * (15 - v) + 4 * l + ppF p] := rfl
  generalize ppF p = z at *
  obtain ⟨s, hs⟩ : ∃ s, 128 * r + 8 * v + 4 * l + z = s := ⟨_, rfl⟩
  obtain ⟨y, hy⟩ : ∃ y, 128 * (1 - r) + 8 * (15 - v) + 4 * l + z = y := ⟨_, rfl⟩
  rw [hy] at q3 HT
  rw [hs] at q2 q3
  have y0 : 0 ≤ y ∧ y < 256 := by omega
  have HQ := hid (And.intro q1 q2)
  have HI := hid hi
  have HTW := hid HT
  clear hr hl hv hp hz hi q1 q2 hs hy HT hq
  obtain ⟨y0, y1⟩ := y0
  have HO := hid ((Own.nil w).alloc w.heap.size (VC r x b m n v l p) 23 rfl)
  go_enter Try.func22, Try.ntmps22
  go_wp2_with (first | (go_at_call 34; refine (twofields_any r x b m n v l p z HI.out _).mono ?_; rintro e w1 ⟨g, hg, rfl, hO1⟩) | (go_at_call 33; refine (lay_of (n := 4) (fs := twoFs r v l z) rfl (by omega) HQ.out.1 HQ.out.2 _ (flds_own hO1.out)).mono ?_; rintro e w2 ⟨rfl, hb2⟩; have HB2 := hid (HO.out.below.trans ((hO1.out.below.trans (hb2.mono hO1.out.below.size)).mono HO.out.below.size)); clear hb2))
  go_ret
  refine ⟨w2.heap.size, HB2.out.size, rfl, HB2.out.alloc HB2.out.size _, ?_⟩
  rw [HTW.out]
  exact heap_alloc_new _ _
set_option maxHeartbeats 1000000 in
theorem three_any (r x b m n v l p : Int) (hq : okF ⟨r, x, b, m, n, v, l, p⟩ = true) (w : World) :
    Calls Try.prog 23 #[.agg (VC r x b m n v l p)] w fun e w' => ∃ g : Nat, w.heap.size ≤ g ∧ e = .returned (SL g 3) ∧ Below w.heap.size w w' ∧ ByB w' g 5 (threeB ⟨r, x, b, m, n, v, l, p⟩ n) := by
  obtain ⟨hr, hx, hb, hn, hl, hm, hv, hp⟩ := ok_parts hq
  simp only at hr hx hb hn hl hm hv hp
  have hz := ppF_range p
  have hi := idx_pp hp
  obtain ⟨q1, q2, q3⟩ := three_num hr hx hb hm hn hv hl hz
  have HT : threeB ⟨r, x, b, m, n, v, l, p⟩ n = [196, 128 * (1 - r) + 64 * (1 - x) + 32 * (1 - b) + m, 128 * n + 8 * (15 - v) + 4 * l + ppF p] := rfl
  generalize ppF p = z at *
  obtain ⟨s, hs⟩ : ∃ s, (128 * r + 64 * x + 32 * b + m) * 256 + (128 * n + 8 * v + 4 * l + z) = s := ⟨_, rfl⟩
  obtain ⟨y, hy⟩ : ∃ y, 128 * (1 - r) + 64 * (1 - x) + 32 * (1 - b) + m = y := ⟨_, rfl⟩
  obtain ⟨u, hu⟩ : ∃ u, 128 * n + 8 * (15 - v) + 4 * l + z = u := ⟨_, rfl⟩
  obtain ⟨t, ht⟩ : ∃ t, (128 * (1 - r) + 64 * (1 - x) + 32 * (1 - b) + m) * 256 + (128 * n + 8 * (15 - v) + 4 * l + z) = t := ⟨_, rfl⟩
  rw [ht] at q3
  rw [hy, hu] at HT
  rw [hs] at q2 q3
  rw [hy, hu] at ht
  have y0 : 0 ≤ y ∧ y < 256 := by omega
  have u0 : 0 ≤ u ∧ u < 256 := by omega
  have t1 : t / 256 = y := by omega
  have t2 : IntKind.u8.wrap t = u := by rw [IntKind.wrap_u8]; omega
  have t3 : t % 256 = u := by omega
  have HQ := hid (And.intro q1 q2)
  have HI := hid hi
  have HTW := hid HT
  clear hr hx hb hn hl hm hv hp hz hi q1 q2 hs hy hu ht HT hq
  obtain ⟨y0, y1⟩ := y0
  obtain ⟨u0, u1⟩ := u0
  have HO := hid ((Own.nil w).alloc w.heap.size (VC r x b m n v l p) 23 rfl)
  go_enter Try.func23, Try.ntmps23
  go_wp2_with (first | (go_at_call 35; refine (threefields_any r x b m n v l p z HI.out _).mono ?_; rintro e w1 ⟨g, hg, rfl, hO1⟩) | (go_at_call 33; refine (lay_of (n := 8) (fs := threeFs r x b m n v l z) rfl (by omega) HQ.out.1 HQ.out.2 _ (flds_own hO1.out)).mono ?_; rintro e w2 ⟨rfl, hb2⟩; have HB2 := hid (HO.out.below.trans ((hO1.out.below.trans (hb2.mono hO1.out.below.size)).mono HO.out.below.size)); clear hb2))
  go_ret
  refine ⟨w2.heap.size, HB2.out.size, rfl, HB2.out.alloc HB2.out.size _, ?_⟩
  rw [HTW.out]
  exact heap_alloc_new _ _
end Go.Proofs.Ytllnjmpakkodnaa
