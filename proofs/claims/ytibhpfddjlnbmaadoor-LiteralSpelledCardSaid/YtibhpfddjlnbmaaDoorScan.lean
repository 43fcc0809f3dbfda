/-
  Scan of package literal: what stands at a place.
-/
import Derived.Test.YtibhpfddjlnbmaaDoorNote
import Derived.Test.YtibhpfddjlnbmaaDoorDigits
namespace Go.Proofs.YtibhpfddjlnbmaaDoor
open Go.RowKit

theorem note_facts (w : List Int) (_h : 1 ≤ w.length) : (2 ≤ (note w).1 ∧ (note w).1 ≤ 16) ∧ (note w).2.1 ≤ (note w).2.2 ∧ (note w).2.2 ≤ w.length ∧ (note w).2.1 ≤ 2 := by
  unfold note
  simp only []
  (repeat' split) <;> simp_all <;> omega
theorem dig_wrong (b : Int) : ∀ (l : List Int) (p n : Int) (ab : Bool) (k : Nat), (dig b p n ab k l).2.2 = -1 ∨ ((k : Int) ≤ (dig b p n ab k l).2.2 ∧ (dig b p n ab k l).2.2 < k + l.length) := by
  intro l
  induction l with
  | nil => intro p n ab k; left; rfl
  | cons c r ih =>
    intro p n ab k
    rw [dig]
    simp only [List.length_cons]
    split
    · have := ih c n ab (k + 1); omega
    · split
      · right; simp; omega
      · have := ih c ((n * b + dval c) % 18446744073709551616) (ab || decide ((18446744073709551615 - dval c) / b < n)) (k + 1); omega
theorem note_of {s : ByteArray} {b : Int} {f t : Nat} (hn : note (nums s) = (b, f, t)) (w : World) (hs : s.size ≤ 9223372036854775807) (h1 : 1 ≤ s.size) (hw : ∀ z ∈ nums s, z < 128) :
    Calls Tryd.prog 30 #[.string s] w fun e w' => e = .returned (.tuple #[.int .u64 b, .int .i64 f, .int .i64 t]) ∧ Below w.heap.size w w' := by
  have := note_any s w hs h1 hw
  rw [hn] at this
  exact this
theorem digits_of {s : ByteArray} {b n wr : Int} {ab : Bool} (hd : dig b 95 0 false 0 (nums s) = (n, ab, wr)) (w : World) (hs : s.size ≤ 9223372036854775807) (hb2 : 2 ≤ b) (hb16 : b ≤ 16) :
    Calls Tryd.prog 31 #[.string s, .int .u64 b] w fun e w' => e = .returned (.tuple #[.int .u64 n, .bool ab, .int .i64 wr]) ∧ w = w' := by
  have := digits_any s b w hs hb2 hb16
  rw [hd] at this
  exact this
theorem wordEnd_of {s : ByteArray} {a E : Nat} (hE : a + run ((nums s).drop a) = E) (w : World) (hs : s.size ≤ 9223372036854775807) (ha : a ≤ s.size) :
    Calls Tryd.prog 29 #[.string s, .int .i64 a] w fun e w' => e = .returned (.int .i64 E) ∧ w = w' := by
  have := wordEnd_any s a w hs ha
  rw [hE] at this
  exact this
theorem size_extract (s : ByteArray) (a b : Nat) (h : b ≤ s.size) : (s.extract a b).size = b - a := by
  rw [← nums_length, nums_extract, List.length_drop, List.length_take, nums_length]; omega
theorem isW_low {c : Int} (h : isW c = true) : c < 128 := by rw [isW_iff] at h; omega
theorem dval_isW {c : Int} (h : dval c < 10) : isW c = true := by
  rw [isW_iff]; revert h; unfold dval; (repeat' split) <;> omega
/-- What scanWord needs to know of a word that begins at a place. -/
theorem word_at (s : ByteArray) (a : Nat) (ha : a < s.size) (hd : dval (ch s a) < 10) :
    ∃ (E f t : Nat) (b n wr : Int) (ab : Bool), a + run ((nums s).drop a) = E ∧ a < E ∧ E ≤ s.size ∧ (∀ z ∈ nums (s.extract a E), z < 128) ∧ note (nums (s.extract a E)) = (b, f, t) ∧ 2 ≤ b ∧ b ≤ 16 ∧ f ≤ t ∧ a + t ≤ E ∧
      dig b 95 0 false 0 (nums (s.extract (a + f) (a + t))) = (n, ab, wr) ∧ (wr = -1 ∨ (0 ≤ wr ∧ wr < (t : Int) - f)) ∧
      scanW (nums s) a = if 0 ≤ wr then fault 4 (a + f + wr) else if ab then fault 5 a else (wrap64 n, E, 0, 0) := by
  have hr : 1 ≤ run ((nums s).drop a) := by
    rw [drop_ch s a ha, run, if_pos (dval_isW hd)]; omega
  have hl := run_le ((nums s).drop a)
  rw [List.length_drop, nums_length] at hl
  obtain ⟨m, hm⟩ : ∃ m, run ((nums s).drop a) = m := ⟨_, rfl⟩
  rw [hm] at hr hl
  have hw : nums (s.extract a (a + m)) = ((nums s).drop a).take m := by
    rw [nums_extract, List.drop_take, Nat.add_sub_cancel_left]
  have hsz : (nums (s.extract a (a + m))).length = m := by
    rw [hw, List.length_take, List.length_drop, nums_length]; omega
  have nf := note_facts (nums (s.extract a (a + m))) (by omega)
  rw [hsz] at nf
  rcases hn : note (nums (s.extract a (a + m))) with ⟨b, f, t⟩
  rw [hn] at nf
  obtain ⟨⟨n1, n2⟩, n3, n4, n5⟩ := nf
  rcases hdg : dig b 95 0 false 0 (nums (s.extract (a + f) (a + t))) with ⟨n, ab, wr⟩
  refine ⟨a + m, f, t, b, n, wr, ab, by rw [hm], by omega, by omega, ?_, hn, n1, n2, n3, by simp only [] at n4; omega, hdg, ?_, ?_⟩
  · intro z hz
    rw [hw, ← hm] at hz
    exact isW_low (run_take _ z hz)
  · have := dig_wrong b (nums (s.extract (a + f) (a + t))) 95 0 false 0
    simp only [] at n4 n3
    rw [nums_length, size_extract _ _ _ (by omega), hdg] at this
    simp only [] at this
    omega
  · simp only [] at n4 n3
    have e : ((nums (s.extract a (a + m))).take t).drop f = nums (s.extract (a + f) (a + t)) := by
      rw [nums_extract s (a + f), hw, List.take_take, Nat.min_eq_left n4, List.drop_take, List.drop_take, List.drop_drop, show a + t - (a + f) = t - f by omega]
    unfold scanW
    simp only [hm]
    rw [← nums_extract, hn]
    simp only []
    rw [e, hdg]
theorem bcell {W w1 : World} (hb : Below W.heap.size W w1) : (∀ b o, b < W.heap.size → w1.cell? ⟨b, o, none⟩ = W.cell? ⟨b, o, none⟩) ∧ (∀ b o, b < W.heap.size → w1.frozen? ⟨b, o, none⟩ = W.frozen? ⟨b, o, none⟩) :=
  ⟨fun b o h => hb.cell (p := ⟨b, o, none⟩) h, fun b o h => hb.frozen (p := ⟨b, o, none⟩) h⟩
theorem slice_str (s : ByteArray) (a b : Nat) (h1 : a ≤ b) (h2 : b ≤ s.size) : ∀ w, (Instr.slice 9 (.string s) (some (.int .i64 a)) (some (.int .i64 b)) none).run Tryd.prog w = .ok (.string (s.extract a b)) w := fun w => by
  rw [run_slice_string w 9 s .i64 .i64 _ _ Tryd.underlying9 (by omega) (by omega) (by omega)]
  rfl
set_option maxHeartbeats 2000000 in
set_option maxRecDepth 100000 in
theorem scanWord_any (s : ByteArray) (a : Nat) (w : World) (hs : s.size ≤ 9223372036854775807) (ha : a < s.size) (hd : dval (ch s a) < 10) :
    Calls Tryd.prog 22 #[.string s, .int .i64 a] w fun e w' => e = .returned (R.val (scanW (nums s) a)) ∧ Below w.heap.size w w' := by
  obtain ⟨E, f, t, b, n, wr, ab, hE, h1, h2, h3, h4, h5, h6, h7, h8, h9, h10, h11⟩ := word_at s a ha hd
  have HE := hid hE; have H3 := hid h3; have H4 := hid h4; have H9 := hid h9; have H11 := hid h11
  clear hE h3 h4 h9 h11 hd
  have z1 : (s.extract a E).size ≤ 9223372036854775807 := by rw [size_extract _ _ _ h2]; omega
  have z2 : 1 ≤ (s.extract a E).size := by rw [size_extract _ _ _ h2]; omega
  have z3 : (s.extract (a + f) (a + t)).size ≤ 9223372036854775807 := by rw [size_extract _ _ _ (by omega)]; omega
  have y1 := slice_str s a E (by omega) h2
  have y2 : ∀ w, (Instr.slice 9 (.string s) (some (.int .i64 ((a : Int) + f))) (some (.int .i64 ((a : Int) + t))) none).run Tryd.prog w = .ok (.string (s.extract (a + f) (a + t))) w := fun w => by
    rw [← Int.natCast_add, ← Int.natCast_add]; exact slice_str s (a + f) (a + t) (by omega) (by omega) w
  by_cases hw : 0 ≤ wr
  · have HR := hid (show scanW (nums s) a = fault 4 (a + f + wr) by rw [H11.out, if_pos hw])
    go_enter Tryd.func22, Tryd.ntmps22
    go_wp2_with (first | (go_at_call 29; refine (wordEnd_of HE.out _ hs (by omega)).mono ?_; rintro e w' ⟨rfl, rfl⟩) | (go_at_call 30; refine (note_of H4.out _ z1 z2 H3.out).mono ?_; rintro e w1 ⟨rfl, hb1⟩; obtain ⟨hc1, hf1⟩ := bcell hb1; have hz1 : w.heap.size < w1.heap.size := by have := hb1.size; simp at this; omega) | (go_at_call 31; refine (digits_of H9.out _ z3 h5 h6).mono ?_; rintro e w' ⟨rfl, rfl⟩) | (go_at_call 19; refine (fails_any _ _ _).mono ?_; rintro e w2 ⟨rfl, hb2⟩; obtain ⟨hc2, hf2⟩ := bcell hb2; have hz2 : w.heap.size < w2.heap.size := by have := hb2.size; omega))
    refine bodyPost_ret (v := R.val (fault 4 (a + f + wr))) (by simp [results, Tryd.results22, go_sem, hc1, hc2, hz1]) rfl ⟨by rw [HR.out], ?_⟩
    exact (((Below.refl _ _).alloc (Nat.le_refl _) _).trans (hb1.mono (by simp))).trans (hb2.mono (Nat.le_of_lt hz1)) |>.setCell (Nat.le_refl _) _ |>.setCell (Nat.le_refl _) _
  · have hwf : (decide (0 ≤ wr)) = false := by simp; omega
    cases ab
    · have HR := hid (show scanW (nums s) a = (wrap64 n, (E : Int), 0, 0) by rw [H11.out, if_neg hw]; rfl)
      go_enter Tryd.func22, Tryd.ntmps22
      go_wp2_with (first | (go_at_call 29; refine (wordEnd_of HE.out _ hs (by omega)).mono ?_; rintro e w' ⟨rfl, rfl⟩) | (go_at_call 30; refine (note_of H4.out _ z1 z2 H3.out).mono ?_; rintro e w1 ⟨rfl, hb1⟩; obtain ⟨hc1, hf1⟩ := bcell hb1; have hz1 : w.heap.size < w1.heap.size := by have := hb1.size; simp at this; omega) | (go_at_call 31; refine (digits_of H9.out _ z3 h5 h6).mono ?_; rintro e w' ⟨rfl, rfl⟩) | (go_at_call 19; refine (fails_any _ _ _).mono ?_; rintro e w2 ⟨rfl, hb2⟩; obtain ⟨hc2, hf2⟩ := bcell hb2; have hz2 : w.heap.size < w2.heap.size := by have := hb2.size; omega))
      refine bodyPost_ret (v := R.val (wrap64 n, (E : Int), 0, 0)) (by simp [results, Tryd.results22, go_sem, hc1]) rfl ⟨by rw [HR.out], ?_⟩
      exact ((((Below.refl _ _).alloc (Nat.le_refl _) _).trans (hb1.mono (by simp))).setCell (by simp) _).setCell (by simp) _
    · have HR := hid (show scanW (nums s) a = fault 5 a by rw [H11.out, if_neg hw]; rfl)
      go_enter Tryd.func22, Tryd.ntmps22
      go_wp2_with (first | (go_at_call 29; refine (wordEnd_of HE.out _ hs (by omega)).mono ?_; rintro e w' ⟨rfl, rfl⟩) | (go_at_call 30; refine (note_of H4.out _ z1 z2 H3.out).mono ?_; rintro e w1 ⟨rfl, hb1⟩; obtain ⟨hc1, hf1⟩ := bcell hb1; have hz1 : w.heap.size < w1.heap.size := by have := hb1.size; simp at this; omega) | (go_at_call 31; refine (digits_of H9.out _ z3 h5 h6).mono ?_; rintro e w' ⟨rfl, rfl⟩) | (go_at_call 19; refine (fails_any _ _ _).mono ?_; rintro e w2 ⟨rfl, hb2⟩; obtain ⟨hc2, hf2⟩ := bcell hb2; have hz2 : w.heap.size < w2.heap.size := by have := hb2.size; omega))
      refine bodyPost_ret (v := R.val (fault 5 a)) (by simp [results, Tryd.results22, go_sem, hc1, hc2, hz1]) rfl ⟨by rw [HR.out], ?_⟩
      exact (((Below.refl _ _).alloc (Nat.le_refl _) _).trans (hb1.mono (by simp))).trans (hb2.mono (Nat.le_of_lt hz1)) |>.setCell (Nat.le_refl _) _ |>.setCell (Nat.le_refl _) _
end Go.Proofs.YtibhpfddjlnbmaaDoor
