/-
  Check: the program's.
-/
import Derived.Test.YtllnjmpakkodnaaVxSmall
import Derived.Test.YtllnjmpakkodnaaOld
import Derived.Deep.RegionHeld3
namespace Go.Proofs.Ytllnjmpakkodnaa
open Go.RowKit
set_option maxRecDepth 100000

theorem index_5 (a b c d e : Value) (w : World) :
    (Instr.index 45 (.agg #[a, b, c, d, e]) (.int .i64 0)).run Try.prog w = .ok a w ∧
    (Instr.index 45 (.agg #[a, b, c, d, e]) (.int .i64 1)).run Try.prog w = .ok b w ∧
    (Instr.index 45 (.agg #[a, b, c, d, e]) (.int .i64 2)).run Try.prog w = .ok c w ∧
    (Instr.index 45 (.agg #[a, b, c, d, e]) (.int .i64 3)).run Try.prog w = .ok d w ∧
    (Instr.index 45 (.agg #[a, b, c, d, e]) (.int .i64 4)).run Try.prog w = .ok e w := by
  refine ⟨?_, ?_, ?_, ?_, ?_⟩ <;> simp [Instr.index, run_underlying Try.underlying45, asIntOf, go_sem, part]
theorem same_back {P : Program} {f : FuncId} {vs : Array Value} {w : World} {e0 : Ending} (h : Calls P f vs w fun e w' => e = e0 ∧ w = w') : Calls P f vs w fun e w' => e = e0 ∧ w' = w := h.mono fun _ _ h => ⟨h.1, h.2.symm⟩
abbrev VC (r x b m n v l p : Int) : Array Value := #[.int .i64 r, .int .i64 x, .int .i64 b, .int .i64 m, .int .i64 n, .int .i64 v, .int .i64 l, .int .i64 p]
theorem Four.drew {w : World} {g : Nat} (h : Four w g) : Four w.drew g := h
theorem prefixes_new (w : World) :
    Calls Try.prog 28 #[] w fun e w' => e = .returned (SL w.heap.size 4) ∧ Below w.heap.size w w' ∧ Four w' w.heap.size ∧ w.heap.size < w'.heap.size :=
  (prefixes_any w).mono fun e w' h => by
    obtain ⟨rfl, rfl⟩ := h
    have HO := (Own.nil w).alloc w.heap.size #[.int .i64 0, .int .i64 1, .int .i64 4, .int .i64 2] 3 rfl
    exact ⟨rfl, HO.below, ⟨HO.c 0, HO.c 1, HO.c 2, HO.c 3⟩, HO.z⟩
/-- One of the five is no bit. -/
theorem check_bits (r x b m n v l p : Int) (h : (bitF r && bitF x && bitF b && bitF n && bitF l) = false) (w : World) :
    Calls Try.prog 9 #[.agg (VC r x b m n v l p)] w fun e w' => e = .returned (.int .i64 2) ∧ Below w.heap.size w w' := by
  have HO := hid ((Own.nil w).alloc w.heap.size (VC r x b m n v l p) 23 rfl)
  have H := hid h
  clear h
  obtain ⟨i0, i1, i2, i3, i4⟩ := index_5 (.int .i64 r) (.int .i64 x) (.int .i64 b) (.int .i64 n) (.int .i64 l) (w.alloc (.cells (VC r x b m n v l p) 23))
  go_enter Try.func9, Try.ntmps9
  go_wp2
  go_loop [16] (fun i => i = .int .i64 0 ∨ (i = .int .i64 1 ∧ Hid (bitF r = true)) ∨ (i = .int .i64 2 ∧ Hid (bitF r = true ∧ bitF x = true)) ∨ (i = .int .i64 3 ∧ Hid (bitF r = true ∧ bitF x = true ∧ bitF b = true)) ∨ (i = .int .i64 4 ∧ Hid (bitF r = true ∧ bitF x = true ∧ bitF b = true ∧ bitF n = true))) (fun i => 5 - (intOf i).toNat)
  case atStart => exact .inl rfl
  case round =>
    obtain rfl | ⟨rfl, hp⟩ | ⟨rfl, hp⟩ | ⟨rfl, hp⟩ | ⟨rfl, hp⟩ := hrel
    · cases hb : bitF r
      · have h0 : (r != 0) = true ∧ (r != 1) = true := by simpa [bitF] using hb
        clear hb
        obtain ⟨h0, h1⟩ := h0
        go_wp2
        go_ret
        exact ⟨rfl, HO.out.below⟩
      · have HB := hid hb
        rcases bitF_iff.1 hb with rfl | rfl
        all_goals
          clear hb
          go_wp2
          go_round
          case rel => exact .inr (.inl ⟨by go_num, hid (by have h2 := HB.out; simp_all)⟩)
          case measure => simp [intOf]
    · cases hb : bitF x
      · have h0 : (x != 0) = true ∧ (x != 1) = true := by simpa [bitF] using hb
        clear hb
        obtain ⟨h0, h1⟩ := h0
        go_wp2
        go_ret
        exact ⟨rfl, HO.out.below⟩
      · have HB := hid hb
        rcases bitF_iff.1 hb with rfl | rfl
        all_goals
          clear hb
          go_wp2
          go_round
          case rel => exact .inr (.inr (.inl ⟨by go_num, hid (by have h := hp.out; have h2 := HB.out; simp_all)⟩))
          case measure => simp [intOf]
    · cases hb : bitF b
      · have h0 : (b != 0) = true ∧ (b != 1) = true := by simpa [bitF] using hb
        clear hb
        obtain ⟨h0, h1⟩ := h0
        go_wp2
        go_ret
        exact ⟨rfl, HO.out.below⟩
      · have HB := hid hb
        rcases bitF_iff.1 hb with rfl | rfl
        all_goals
          clear hb
          go_wp2
          go_round
          case rel => exact .inr (.inr (.inr (.inl ⟨by go_num, hid (by have h := hp.out; have h2 := HB.out; simp_all)⟩)))
          case measure => simp [intOf]
    · cases hb : bitF n
      · have h0 : (n != 0) = true ∧ (n != 1) = true := by simpa [bitF] using hb
        clear hb
        obtain ⟨h0, h1⟩ := h0
        go_wp2
        go_ret
        exact ⟨rfl, HO.out.below⟩
      · have HB := hid hb
        rcases bitF_iff.1 hb with rfl | rfl
        all_goals
          clear hb
          go_wp2
          go_round
          case rel => exact .inr (.inr (.inr (.inr ⟨by go_num, hid (by have h := hp.out; have h2 := HB.out; simp_all)⟩)))
          case measure => simp [intOf]
    · have hb : bitF l = false := by
        have h1 := H.out
        obtain ⟨e1, e2, e3, e4⟩ := hp.out
        rw [e1, e2, e3, e4] at h1
        simpa using h1
      have h0 : (l != 0) = true ∧ (l != 1) = true := by simpa [bitF] using hb
      clear hb
      obtain ⟨h0, h1⟩ := h0
      go_wp2
      go_ret
      exact ⟨rfl, HO.out.below⟩
/-- The rest of it, where all five are bits. -/
def restF (m v p : Int) : Int := if mapF m && (decide (0 ≤ v) && decide (v ≤ 15)) && preOk p then 0 else 2
set_option maxHeartbeats 1000000 in
theorem check_rest (r x b m n v l p : Int) (hr : r = 0 ∨ r = 1) (hx : x = 0 ∨ x = 1) (hb : b = 0 ∨ b = 1) (hn : n = 0 ∨ n = 1) (hl : l = 0 ∨ l = 1) (w : World) :
    Calls Try.prog 9 #[.agg (VC r x b m n v l p)] w fun e w' => e = .returned (.int .i64 (restF m v p)) ∧ Below w.heap.size w w' := by
  have HO := hid ((Own.nil w).alloc w.heap.size (VC r x b m n v l p) 23 rfl)
  have HR := hid hr
  have HX := hid hx
  have HB := hid hb
  have HN := hid hn
  have HL := hid hl
  clear hr hx hb hn hl
  have c0 := HO.out.c
  have z0 := HO.out.z
  go_enter Try.func9, Try.ntmps9
  go_wp2_with fail
  generalize w.alloc (.cells (VC r x b m n v l p) 23) = W at *
  obtain ⟨i0, i1, i2, i3, i4⟩ := index_5 (.int .i64 r) (.int .i64 x) (.int .i64 b) (.int .i64 n) (.int .i64 l) W
  go_wp2
  go_loop [16] (fun i => i = .int .i64 0 ∨ i = .int .i64 1 ∨ i = .int .i64 2 ∨ i = .int .i64 3 ∨ i = .int .i64 4 ∨ i = .int .i64 5) (fun i => 5 - (intOf i).toNat)
  case atStart => exact .inl rfl
  case round =>
    obtain rfl | rfl | rfl | rfl | rfl | rfl := hrel
    · rcases HR.out with rfl | rfl
      all_goals
        go_wp2
        go_round
        case rel => exact .inr (.inl (by go_num))
        case measure => simp [intOf]
    · rcases HX.out with rfl | rfl
      all_goals
        go_wp2
        go_round
        case rel => exact .inr (.inr (.inl (by go_num)))
        case measure => simp [intOf]
    · rcases HB.out with rfl | rfl
      all_goals
        go_wp2
        go_round
        case rel => exact .inr (.inr (.inr (.inl (by go_num))))
        case measure => simp [intOf]
    · rcases HN.out with rfl | rfl
      all_goals
        go_wp2
        go_round
        case rel => exact .inr (.inr (.inr (.inr (.inl (by go_num)))))
        case measure => simp [intOf]
    · rcases HL.out with rfl | rfl
      all_goals
        go_wp2
        go_round
        case rel => exact .inr (.inr (.inr (.inr (.inr (by go_num)))))
        case measure => simp [intOf]
    · clear i0 i1 i2 i3 i4
      cases hm : mapF m
      · have HM := hid hm
        have HE := hid (show restF m v p = 2 by simp [restF, hm])
        clear hm
        go_wp2
        go_quiet ((go_at_call 26; exact Calls.quiet_of_same (same_back (ismap_of HM.out _))))
        all_goals go_wp2
        all_goals go_ret
        all_goals exact ⟨ret_i HE.out.symm, bdrewN HO.out.below _⟩
      have HM := hid hm
      by_cases h0 : v < 0
      · have g0 : decide (v < 0) = true := by simpa using h0
        have g1 : decide (0 ≤ v) = false := by simpa using h0
        have HE := hid (show restF m v p = 2 by simp [restF, g1])
        clear hm h0 g1
        go_wp2
        go_quiet ((go_at_call 26; exact Calls.quiet_of_same (same_back (ismap_of HM.out _))))
        all_goals go_wp2
        all_goals go_ret
        all_goals exact ⟨ret_i HE.out.symm, bdrewN HO.out.below _⟩
      have g0 : decide (v < 0) = false := by simpa using h0
      by_cases h1 : 15 < v
      · have g1 : decide (15 < v) = true := by simpa using h1
        have g2 : decide (v ≤ 15) = false := by simpa using h1
        have HE := hid (show restF m v p = 2 by simp [restF, g2])
        clear hm h0 h1 g2
        go_wp2
        go_quiet ((go_at_call 26; exact Calls.quiet_of_same (same_back (ismap_of HM.out _))))
        all_goals go_wp2
        all_goals go_ret
        all_goals exact ⟨ret_i HE.out.symm, bdrewN HO.out.below _⟩
      have g1 : decide (15 < v) = false := by simpa using h1
      have g2 : decide (v ≤ 15) = true := by simp; omega
      have g3 : decide (0 ≤ v) = true := by simp; omega
      have HE := hid (show restF m v p = if preOk p then 0 else 2 by simp only [restF, hm, g2, g3, Bool.true_and])
      clear hm h0 h1 g2 g3
      cases hp : preOk p
      · rw [hp] at HE
        have HP := hid hp
        clear hp
        go_wp2
        go_region_held3 (fun w' => Below W.heap.size W w' ∧ ∀ b o, b < W.heap.size → w'.cell? ⟨b, o, none⟩ = W.cell? ⟨b, o, none⟩) (first | with_reducible assumption | exact old_drew ‹_› | exact old_drew (Old.of (Below.refl W.heap.size W)) | (with_reducible refine old_kept ?_ (by assumption); with_reducible assumption)) (first | (go_at_call 26; refine (ismap_of HM.out _).mono ?_; rintro e w1 ⟨rfl, rfl⟩) | (go_at_call 28; refine (prefixes_new _).mono ?_; rintro e w2 ⟨rfl, hb2, hf2, hz2⟩) | (go_at_call 27; have h3 := contains_any _ p _ (by first | exact hf2 | exact hf2.drew); rw [HP.out] at h3; refine h3.mono ?_; clear h3; rintro e w3 ⟨rfl, rfl⟩))
        all_goals go_wp2
        all_goals go_ret
        all_goals exact ⟨ret_i HE.out.symm, HO.out.below.trans ((‹Below W.heap.size W _ ∧ _›).1.mono HO.out.below.size)⟩
      · rw [hp] at HE
        have HP := hid hp
        clear hp
        go_wp2
        go_region_held3 (fun w' => Below W.heap.size W w' ∧ ∀ b o, b < W.heap.size → w'.cell? ⟨b, o, none⟩ = W.cell? ⟨b, o, none⟩) (first | with_reducible assumption | exact old_drew ‹_› | exact old_drew (Old.of (Below.refl W.heap.size W)) | (with_reducible refine old_kept ?_ (by assumption); with_reducible assumption)) (first | (go_at_call 26; refine (ismap_of HM.out _).mono ?_; rintro e w1 ⟨rfl, rfl⟩) | (go_at_call 28; refine (prefixes_new _).mono ?_; rintro e w2 ⟨rfl, hb2, hf2, hz2⟩) | (go_at_call 27; have h3 := contains_any _ p _ (by first | exact hf2 | exact hf2.drew); rw [HP.out] at h3; refine h3.mono ?_; clear h3; rintro e w3 ⟨rfl, rfl⟩))
        all_goals go_wp2
        all_goals go_ret
        all_goals exact ⟨ret_i HE.out.symm, HO.out.below.trans ((‹Below W.heap.size W _ ∧ _›).1.mono HO.out.below.size)⟩
theorem check_any (r x b m n v l p : Int) (w : World) :
    Calls Try.prog 9 #[.agg (VC r x b m n v l p)] w fun e w' => e = .returned (.int .i64 (errF ⟨r, x, b, m, n, v, l, p⟩)) ∧ Below w.heap.size w w' := by
  cases h : bitF r && bitF x && bitF b && bitF n && bitF l
  · have e : errF ⟨r, x, b, m, n, v, l, p⟩ = 2 := by simp only [errF, okF, h, Bool.false_and]; rfl
    rw [e]
    exact check_bits r x b m n v l p h w
  · have e : errF ⟨r, x, b, m, n, v, l, p⟩ = restF m v p := by simp only [errF, okF, h, Bool.true_and, restF]
    rw [e]
    simp only [Bool.and_eq_true, bitF_iff] at h
    exact check_rest r x b m n v l p h.1.1.1.1 h.1.1.1.2 h.1.1.2 h.1.2 h.2 w
theorem check_of {r x b m n v l p z : Int} (h : errF ⟨r, x, b, m, n, v, l, p⟩ = z) (w : World) :
    Calls Try.prog 9 #[.agg (VC r x b m n v l p)] w fun e w' => e = .returned (.int .i64 z) ∧ Below w.heap.size w w' := by rw [← h]; exact check_any r x b m n v l p w
end Go.Proofs.Ytllnjmpakkodnaa
