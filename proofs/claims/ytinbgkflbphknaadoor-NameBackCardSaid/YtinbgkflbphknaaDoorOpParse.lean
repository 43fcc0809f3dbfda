/-
  The mnemonic of a text.
-/
import Derived.Test.YtinbgkflbphknaaDoorOpName
import Derived.Test.YtinbgkflbphknaaDoorFam
namespace Go.Proofs.YtinbgkflbphknaaDoor
open Go.RowKit
attribute [local go_sem] Oper.semAt_some

/-- The place of a text among some, counted from a number on. -/
def findF (s : ByteArray) : List ByteArray → Nat → Option Nat
  | [], _ => none
  | b :: l, k => if b.toList == s.toList then some k else findF s l (k + 1)
theorem findF_drop {s : ByteArray} {l : List ByteArray} {k : Nat} {b : ByteArray} (h : l[k]? = some b) : findF s (l.drop k) k = if b.toList == s.toList then some k else findF s (l.drop (k + 1)) (k + 1) := by
  obtain ⟨hlt, rfl⟩ := List.getElem?_eq_some_iff.1 h
  rw [List.drop_eq_getElem_cons hlt, findF]
def mainF (s : ByteArray) : Option Nat := findF s NM 0
/-- The mnemonic of a text. -/
def opF (s : ByteArray) : Option Int := match mainF s with
  | some k => some ((k : Int) + 1)
  | none => otherF s
theorem main_end {s : ByteArray} (h : mainF s = findF s (NM.drop 322) 322) : opF s = otherF s := by
  rw [opF, h, List.drop_of_length_le (by rw [NM_length]; omega)]; rfl
theorem other_of {s : ByteArray} {o : Option Int} (h : otherF s = o) (w : World) :
    Calls Tryd.prog 23 #[.string s] w fun e w' => e = .returned (OV o) ∧ Below w.heap.size w w' := by
  have := other_any s w
  rw [h] at this
  exact this

set_option maxRecDepth 100000 in
set_option maxHeartbeats 1000000 in
theorem opparse_any (s : ByteArray) (W : World) :
    Calls Tryd.prog 7 #[.string s] W fun e C => e = .returned (OV (opF s)) ∧ Below W.heap.size W C := by
  refine (callsIn_wide (n := 3)).1 ?_
  refine callsIn_of_wp_marks Tryd.func7 rfl trivial ?_ rfl
  simp only [Tryd.ntmps7, List.size_toArray, List.length_cons, List.length_nil, Nat.reduceAdd, Nat.reduceSub, Array.replicate_succ, Array.replicate_zero, List.push_toArray, List.append_toArray, List.nil_append, List.cons_append]
  gi_wp2
  obtain ⟨w, hw⟩ : ∃ w, ((W.alloc (.cells #[.string s] 9)).alloc (.cells #[.int .i64 0] 3)).alloc (.cells #[.bool false] 4) = w := ⟨_, rfl⟩
  have hz : w.heap.size = W.heap.size + 3 := by rw [← hw]; simp
  have hb0 : Below W.heap.size W w := by rw [← hw]; exact (((Below.refl _ W).alloc (Nat.le_refl _) _).alloc (by simp) _).alloc (by simp; omega) _
  have ho0 : One W.heap.size (.string s) 9 w := by rw [← hw]; exact ((one_new W _ _ rfl).alloc _).alloc _
  have hr0 : One (W.heap.size + 1) (.int .i64 0) 3 w := by rw [← hw]; exact (one_new _ _ _ (by simp)).alloc _
  have hq0 : One (W.heap.size + 2) (.bool false) 4 w := by rw [← hw]; exact one_new _ _ _ (by simp)
  rw [hw]
  clear hw
  refine over_all (m := 1) rfl (fun k A => Below W.heap.size W A ∧ One W.heap.size (.string s) 9 A ∧ One (W.heap.size + 1) (.int .i64 0) 3 A ∧ One (W.heap.size + 2) (.bool false) 4 A ∧ mainF s = findF s (NM.drop k) k)
    (fun A => Below W.heap.size W A ∧ ∃ n, One (W.heap.size + 1) (.int .i64 n) 3 A ∧ One (W.heap.size + 2) (.bool true) 4 A ∧ opF s = some n) ?hI ?hIx ⟨hb0, ho0, hr0, hq0, rfl⟩ ?body ?done ?stop
  case hI =>
    rintro k A C ⟨h1, h2, h3, h4, h5⟩ hb
    rw [hz] at hb
    exact ⟨h1.trans (hb.mono (by omega)), h2.below hb (by omega), h3.below hb (by omega), h4.below hb (by omega), h5⟩
  case hIx =>
    rintro A C ⟨h1, n, h2, h3, h4⟩ hb
    rw [hz] at hb
    exact ⟨h1.trans (hb.mono (by omega)), n, h2.below hb (by omega), h3.below hb (by omega), h4⟩
  case body =>
    rintro l k b A A1 hs hk ⟨hb, hn, hr, hq, hf⟩
    rw [hz]
    have hcn := hn.cell
    have hcr := hr.cell
    have hfr := hr.frozen
    have hcq := hq.cell
    have hfq := hq.frozen
    have HB := hid hb
    have HN := hid hn
    have HR := hid hr
    have HQ := hid hq
    have HF := hid (hf.trans (findF_drop hs))
    clear hs hb hn hr hq hf hb0 ho0 hr0 hq0
    cases hx : b.toList == s.toList
    · have HX := hid hx
      gi_wp2
      refine ⟨trivial, ?_⟩
      gi_wp2
      exact ⟨⟨HB.out, HN.out, HR.out, HQ.out, by rw [HF.out, HX.out]; rfl⟩, Keeps.refl _ A1⟩
    · have HX := hid hx
      gi_wp2
      refine ⟨trivial, ?_⟩
      gi_wp2
      refine ⟨⟨(HB.out.setCell (p := ⟨W.heap.size + 1, 0, none⟩) (by simp) _).setCell (p := ⟨W.heap.size + 1 + 1, 0, none⟩) (by simp; omega) _, (k : Int) + 1, (HR.out.set _).same (Below.heap_setCell _ _ _ _ (by simp)), ?_, ?_⟩, ((Keeps.refl _ A1).set (by omega) _).set (by omega) _⟩
      · exact One.set (HQ.out.same (Below.heap_setCell _ _ _ _ (by simp))) _
      · rw [opF, HF.out, HX.out]; rfl
  case done =>
    rintro C ⟨hb, hn, hr, hq, hf⟩ hd
    rw [hz] at hd ⊢
    have hcn := hn.cell
    have HB := hid hb
    have HR := hid hr
    have HQ := hid hq
    have HF := hid (main_end hf)
    have hlt := hid hq.lt
    clear hb hr hq hn hf hb0 ho0 hr0 hq0
    cases ho : otherF s with
    | none =>
      have HO := hid ho
      clear ho
      gi_wp2_with (refine ⟨trivial, ?_⟩; gi_at_call 23; refine (callsIn_wide.2 (other_of HO.out _)).mono ?_; rintro e C1 ⟨rfl, hb1⟩; have HB1 := hid hb1; clear hb1; have HR1 := hid (HR.out.below HB1.out (by have := hlt.out; omega)); have HQ1 := hid (HQ.out.below HB1.out hlt.out); have hcr := HR1.out.cell; have hfr := HR1.out.frozen; have hcq := HQ1.out.cell; have hfq := HQ1.out.frozen)
      have hR := (HR1.out.set (.int .i64 0)).same (B := (C1.setCell ⟨W.heap.size + 1, 0, none⟩ (.int .i64 0)).setCell ⟨W.heap.size + 1 + 1, 0, none⟩ (.bool false)) (Below.heap_setCell _ _ _ _ (by simp))
      have hQ := One.set (HQ1.out.same (B := C1.setCell ⟨W.heap.size + 1, 0, none⟩ (.int .i64 0)) (Below.heap_setCell _ _ _ _ (by simp))) (.bool false)
      have hd1 : C1.heap[W.heap.size + 3]? = some (.deferred (some [])) := (HB1.out.block _ (Array.getElem?_eq_some_iff.1 hd).1).trans hd
      have hK : ((C1.setCell ⟨W.heap.size + 1, 0, none⟩ (.int .i64 0)).setCell ⟨W.heap.size + 1 + 1, 0, none⟩ (.bool false)).heap[W.heap.size + 3]? = some (.deferred (some [])) := ((Below.heap_setCell _ _ _ _ (by simp)).trans (Below.heap_setCell _ _ _ _ (by simp))).trans hd1
      refine ⟨by simp, .inl ⟨_, _, rfl, run_takeDeferred hK, ?_⟩⟩
      have hc5 := (hR.put (W.heap.size + 3) (.deferred none) (by omega)).cell
      have hc6 := (hQ.put (W.heap.size + 3) (.deferred none) (by omega)).cell
      refine ⟨.tuple #[.int .i64 0, .bool false], ?_, by rw [HF.out, HO.out], (((HB.out.trans (HB1.out.mono HB.out.size)).setCell (p := ⟨W.heap.size + 1, 0, none⟩) (by simp) _).setCell (p := ⟨W.heap.size + 1 + 1, 0, none⟩) (by simp; omega) _).trans (below_put _ _ _ _ (by omega))⟩
      simp [results, Tryd.f7, go_sem, hc5, hc6]
    | some n =>
      have HO := hid ho
      clear ho
      gi_wp2_with (refine ⟨trivial, ?_⟩; gi_at_call 23; refine (callsIn_wide.2 (other_of HO.out _)).mono ?_; rintro e C1 ⟨rfl, hb1⟩; have HB1 := hid hb1; clear hb1; have HR1 := hid (HR.out.below HB1.out (by have := hlt.out; omega)); have HQ1 := hid (HQ.out.below HB1.out hlt.out); have hcr := HR1.out.cell; have hfr := HR1.out.frozen; have hcq := HQ1.out.cell; have hfq := HQ1.out.frozen)
      have hR := (HR1.out.set (.int .i64 n)).same (B := (C1.setCell ⟨W.heap.size + 1, 0, none⟩ (.int .i64 n)).setCell ⟨W.heap.size + 1 + 1, 0, none⟩ (.bool true)) (Below.heap_setCell _ _ _ _ (by simp))
      have hQ := One.set (HQ1.out.same (B := C1.setCell ⟨W.heap.size + 1, 0, none⟩ (.int .i64 n)) (Below.heap_setCell _ _ _ _ (by simp))) (.bool true)
      have hd1 : C1.heap[W.heap.size + 3]? = some (.deferred (some [])) := (HB1.out.block _ (Array.getElem?_eq_some_iff.1 hd).1).trans hd
      have hK : ((C1.setCell ⟨W.heap.size + 1, 0, none⟩ (.int .i64 n)).setCell ⟨W.heap.size + 1 + 1, 0, none⟩ (.bool true)).heap[W.heap.size + 3]? = some (.deferred (some [])) := ((Below.heap_setCell _ _ _ _ (by simp)).trans (Below.heap_setCell _ _ _ _ (by simp))).trans hd1
      refine ⟨by simp, .inl ⟨_, _, rfl, run_takeDeferred hK, ?_⟩⟩
      have hc5 := (hR.put (W.heap.size + 3) (.deferred none) (by omega)).cell
      have hc6 := (hQ.put (W.heap.size + 3) (.deferred none) (by omega)).cell
      refine ⟨.tuple #[.int .i64 n, .bool true], ?_, by rw [HF.out, HO.out], (((HB.out.trans (HB1.out.mono HB.out.size)).setCell (p := ⟨W.heap.size + 1, 0, none⟩) (by simp) _).setCell (p := ⟨W.heap.size + 1 + 1, 0, none⟩) (by simp; omega) _).trans (below_put _ _ _ _ (by omega))⟩
      simp [results, Tryd.f7, go_sem, hc5, hc6]
  case stop =>
    rintro C ⟨hb, n, hr, hq, ho⟩ hd
    rw [hz] at hd ⊢
    have HB := hid hb
    have HR := hid hr
    have HQ := hid hq
    have HO := hid ho
    clear hb hr hq ho hb0 ho0 hr0 hq0
    gi_wp2
    refine ⟨by simp, .inl ⟨_, _, rfl, run_takeDeferred hd, ?_⟩⟩
    have hc5 := (HR.out.put (W.heap.size + 3) (.deferred none) (by omega)).cell
    have hc6 := (HQ.out.put (W.heap.size + 3) (.deferred none) (by omega)).cell
    refine ⟨.tuple #[.int .i64 n, .bool true], ?_, by rw [HO.out], HB.out.trans (below_put _ _ _ _ (by omega))⟩
    simp [results, Tryd.f7, go_sem, hc5, hc6]
end Go.Proofs.YtinbgkflbphknaaDoor
