/-
  strings.SplitSeq at a separator of one space: what it hands on, piece by piece, to whatever loop ranges over it.
-/
import Derived.Test.YtinbgkflbphknaaDoorRf
import Derived.Test.YtinbgkflbphknaaDoorShelf
namespace Go.Proofs.YtinbgkflbphknaaDoor
open Go.RowKit

/-- Pieces joined by a space. -/
def joinS : List (List Int) → List Int
  | [] => []
  | [p] => p
  | p :: q :: r => p ++ 32 :: joinS (q :: r)
theorem idx_none (l : List UInt8) (h : (32 : Int) ∉ l.map fun b => (b.toNat : Int)) : Lib.indexByte l 32 = -1 := by
  induction l with
  | nil => rfl
  | cons b l ih =>
    simp only [List.map_cons, List.mem_cons, not_or] at h
    have hb : (b == 32) = false := by
      rw [beq_eq_false_iff_ne]
      rintro rfl
      exact h.1 rfl
    simp [Lib.indexByte, hb, ih h.2]
theorem idx_some (p : List Int) : ∀ (l : List UInt8) (r : List Int), (l.map fun b => (b.toNat : Int)) = p ++ 32 :: r → (32 : Int) ∉ p → Lib.indexByte l 32 = p.length := by
  induction p with
  | nil =>
    intro l r h _
    cases l with
    | nil => simp at h
    | cons b l =>
      simp only [List.map_cons, List.nil_append, List.cons.injEq] at h
      have hb : b = 32 := by
        apply UInt8.toNat_inj.1
        have := h.1
        simp; omega
      simp [Lib.indexByte, hb]
  | cons c p ih =>
    intro l r h hp
    simp only [List.mem_cons, not_or] at hp
    cases l with
    | nil => simp at h
    | cons b l =>
      simp only [List.map_cons, List.cons_append, List.cons.injEq] at h
      have hb : (b == 32) = false := by
        rw [beq_eq_false_iff_ne]
        rintro rfl
        exact hp.1 (by rw [← h.1]; rfl)
      have hi := ih l r h.2 hp.2
      have hn : (Lib.indexByte l 32 == -1) = false := by rw [hi, beq_eq_false_iff_ne]; omega
      rw [Lib.indexByte, hb, hn, hi]
      simp

/-- What the iterator keeps: the text that is left, what divides it. -/
def Left (bs bp bv : Nat) (T : ByteArray) (W : World) : Prop :=
  (W.cell? ⟨bs, 0, none⟩ = some (.string T) ∧ W.frozen? ⟨bs, 0, none⟩ = false) ∧ W.cell? ⟨bp, 0, none⟩ = some (.string ⟨#[32]⟩) ∧ W.cell? ⟨bv, 0, none⟩ = some (.int .i64 0) ∧ bp ≠ bs ∧ bv ≠ bs
theorem Left.set {bs bp bv : Nat} {T : ByteArray} {W : World} (h : Left bs bp bv T W) (U : ByteArray) : Left bs bp bv U (W.setCell ⟨bs, 0, none⟩ (.string U)) := by
  obtain ⟨⟨h1, h2⟩, h3, h4, h5, h6⟩ := h
  refine ⟨⟨World.cell?_setCell_same' _ _ _ (by rw [h1]; rfl), by rw [World.frozen?_setCell]; exact h2⟩, ?_, ?_, h5, h6⟩
  · rw [← h3]; exact World.cell?_of_block (Below.heap_setCell _ _ _ _ h5)
  · rw [← h4]; exact World.cell?_of_block (Below.heap_setCell _ _ _ _ h6)
/-- How long the text is that is left (the walk's measure). -/
def leftN : Option Value → Nat
  | some (.string t) => t.size
  | _ => 0
theorem grown_set (W : World) (b : Nat) (v : Value) : W.grownBy (W.setCell ⟨b, 0, none⟩ v) (some b) :=
  ⟨rfl, rfl, rfl, by simp [World.setCell], fun k _ hk => Below.heap_setCell W _ _ k (fun e => hk (by rw [e]))⟩

theorem joinS_more {ps : List (List Int)} {k : Nat} {p : List Int} (h : ps[k]? = some p) (hk : k + 1 < ps.length) : joinS (ps.drop k) = p ++ 32 :: joinS (ps.drop (k + 1)) := by
  obtain ⟨hlt, rfl⟩ := List.getElem?_eq_some_iff.1 h
  rw [List.drop_eq_getElem_cons hlt, List.drop_eq_getElem_cons hk]
  rfl
theorem joinS_last {ps : List (List Int)} {k : Nat} {p : List Int} (h : ps[k]? = some p) (hk : ps.length ≤ k + 1) : joinS (ps.drop k) = p := by
  obtain ⟨hlt, rfl⟩ := List.getElem?_eq_some_iff.1 h
  rw [List.drop_eq_getElem_cons hlt, List.drop_of_length_le hk]
  rfl
/-- A text whose first piece is p: where it ends, it, what stands behind it. -/
theorem piece_of {U : ByteArray} {p r : List Int} (h : nums U = p ++ 32 :: r) (hp : (32 : Int) ∉ p) :
    Lib.indexByte U.data.toList 32 = (p.length : Int) ∧ p.length + 1 ≤ U.size ∧ nums (U.extract 0 p.length) = p ∧ nums (U.extract (p.length + 1) U.size) = r ∧ (U.extract (p.length + 1) U.size).size < U.size := by
  have hl : U.size = p.length + (r.length + 1) := by rw [← nums_length, h]; simp
  refine ⟨idx_some p _ r h hp, by omega, by rw [nums_extract, h]; simp, ?_, by rw [size_extract _ _ _ (Nat.le_refl _)]; omega⟩
  rw [nums_extract, h, List.take_of_length_le (by simp; omega), ← List.drop_drop, List.drop_left' rfl]
  rfl

set_option maxRecDepth 100000 in
set_option maxHeartbeats 1000000 in
theorem split_any (m l bs bp bv : Nat) (ps : List (List Int)) (J : Nat → World → Prop) (Jx : World → Prop) (hne : ∀ p ∈ ps, (32 : Int) ∉ p) (h1 : 1 ≤ ps.length)
    (hJ : ∀ k A B, J k A → A.grownBy B (some bs) → J k B)
    (hY : ∀ k (p T : ByteArray) (W : World), ps[k]? = some (nums p) → J k W → Left bs bp bv T W → YieldAt Fence.wide m Tryd.prog l #[.string p] W fun e W' =>
      (e = .returned (.bool true) ∧ J (k + 1) W' ∧ Left bs bp bv T W') ∨ (e = .returned (.bool false) ∧ Jx W'))
    (T : ByteArray) (hT : nums T = joinS ps) (hz : T.size ≤ 100000) (W : World) (hL : Left bs bp bv T W) (h0 : J 0 W) :
    Calls Tryd.prog 37 #[.func (.yield l) #[] #[], .pointer (some ⟨bp, 0, none⟩), .pointer (some ⟨bs, 0, none⟩), .pointer (some ⟨bv, 0, none⟩)] W fun e W' => (∃ v, e = .returned v) ∧ (J ps.length W' ∨ Jx W') := by
  refine (callsIn_wide (n := m + 1)).1 ?_
  refine callsIn_of_wp Tryd.func37 rfl trivial ?_ rfl
  simp only [Tryd.ntmps37, List.size_toArray, List.length_cons, List.length_nil, Nat.reduceAdd, Nat.reduceSub, Array.replicate_succ, Array.replicate_zero, List.push_toArray, List.append_toArray, List.nil_append, List.cons_append]
  have H0 := hid (And.intro hL h0)
  obtain ⟨⟨hs, hf⟩, hp, hv, _, _⟩ := hL
  gi_wp2
  gi_loopw [] (fun wr => ∃ (k : Nat) (U : ByteArray), k < ps.length ∧ nums U = joinS (ps.drop k) ∧ U.size ≤ 100000 ∧ Hid (Left bs bp bv U wr ∧ J k wr)) (fun wr => leftN (wr.cell? ⟨bs, 0, none⟩))
  case atStart => exact ⟨0, T, h1, hT, hz, H0⟩
  case round =>
    clear hs hf hp hv hz hT T H0
    obtain ⟨k, U, hk, hU, hz, H⟩ := hrel
    obtain ⟨hL, hj⟩ := H.out
    obtain ⟨p, hpk⟩ : ∃ p, ps[k]? = some p := ⟨_, List.getElem?_eq_getElem hk⟩
    have h32 := hne p (List.mem_of_getElem? hpk)
    obtain ⟨⟨hs, hf⟩, hp, hv, hbp, hbv⟩ := H.out.1
    by_cases hlast : k + 1 < ps.length
    · rw [joinS_more hpk hlast] at hU
      obtain ⟨hi, hle, hn1, hn2, hlt⟩ := piece_of hU h32
      have HI := hid hi
      have HU := hid hU
      clear hi hU h32 H
      obtain ⟨fn, tmps, assign, body, hy, hR⟩ := hY k (U.extract 0 p.length) U wr (by rw [hn1]; exact hpk) hj hL
      have HL := hid hL
      have HJ := hid hj
      clear hL hj hpk
      gi_wp2_with (refine ⟨trivial, ?_⟩; gi_at_call 39; refine (callsIn_wide.2 (Tryd.strings_Index_one U 32 _)).mono ?_; rw [HI.out]; rintro e w1 ⟨rfl, rfl⟩)
      refine hR.mono ?_
      rintro e W3 (⟨rfl, hj3, hL3⟩ | ⟨rfl, hx⟩)
      · have HJ3 := hid (And.intro hj3 hL3)
        obtain ⟨⟨hs3, hf3⟩, hp3, hv3, hbp3, hbv3⟩ := hL3
        have hm := hid hs
        clear hs hf hp hv hy hR hj3
        gi_wp2
        go_roundw
        case rel => exact ⟨k + 1, _, hlast, hn2, by omega, hid ⟨HJ3.out.2.set _, hJ _ _ _ HJ3.out.1 (grown_set _ _ _)⟩⟩
        case measure => rw [(HJ3.out.2.set _).1.1, hm.out]; exact hlt
      · gi_wp2
        refine bodyPost_ret (results_none rfl _ _ _) rfl ?_
        exact ⟨⟨_, rfl⟩, .inr hx⟩
    · rw [joinS_last hpk (by omega)] at hU
      have hi := idx_none U.data.toList (show (32 : Int) ∉ nums U by rw [hU]; exact h32)
      have HI := hid hi
      have hke := hid (show ps.length = k + 1 by omega)
      obtain ⟨fn, tmps, assign, body, hy, hR⟩ := hY k U U wr (by rw [hU]; exact hpk) hj hL
      clear hi hU h32 H hL hj hpk
      gi_wp2_with (refine ⟨trivial, ?_⟩; gi_at_call 39; refine (callsIn_wide.2 (Tryd.strings_Index_one U 32 _)).mono ?_; rw [HI.out]; rintro e w1 ⟨rfl, rfl⟩)
      refine hR.mono ?_
      rintro e W3 (⟨rfl, hj3, _⟩ | ⟨rfl, hx⟩)
      · gi_wp2
        go_end0
        exact ⟨⟨_, rfl⟩, .inl (by rw [hke.out]; exact hj3)⟩
      · gi_wp2
        go_end0
        exact ⟨⟨_, rfl⟩, .inr hx⟩
theorem seq_any (s p : ByteArray) (w : World) :
    Calls Tryd.prog 34 #[.string s, .string p, .int .i64 0] w fun e w' => e = .returned (.func (.func 37) #[] #[.pointer (some ⟨w.heap.size + 1, 0, none⟩), .pointer (some ⟨w.heap.size, 0, none⟩), .pointer (some ⟨w.heap.size + 1 + 1, 0, none⟩)]) ∧
      ((w.alloc (.cells #[.string s] 9)).alloc (.cells #[.string p] 9)).alloc (.cells #[.int .i64 0] 3) = w' := by
  go_enter Tryd.func34, Tryd.ntmps34
  go_wp2
  go_ret
  exact ⟨rfl, rfl⟩
theorem splitSeq_any (s p : ByteArray) (w : World) :
    Calls Tryd.prog 30 #[.string s, .string p] w fun e w' => e = .returned (.func (.func 37) #[] #[.pointer (some ⟨w.heap.size + 1, 0, none⟩), .pointer (some ⟨w.heap.size, 0, none⟩), .pointer (some ⟨w.heap.size + 1 + 1, 0, none⟩)]) ∧
      ((w.alloc (.cells #[.string s] 9)).alloc (.cells #[.string p] 9)).alloc (.cells #[.int .i64 0] 3) = w' := by
  go_enter Tryd.func30, Tryd.ntmps30
  go_wp2_with (go_at_call 34; refine (seq_any s p _).mono ?_; rintro e w' ⟨rfl, rfl⟩)
  go_ret
  exact ⟨rfl, rfl⟩
end Go.Proofs.YtinbgkflbphknaaDoor
