/-
  A mnemonic's name.
-/
import Derived.Test.YtinbgkflbphknaaDoorOver
namespace Go.Proofs.YtinbgkflbphknaaDoor
open Go.RowKit
attribute [local go_sem] Oper.semAt_some

/-- The name of a number's mnemonic; none: no letters. -/
def nmF (n : Int) : ByteArray := if 1 ≤ n ∧ n ≤ 322 then NM[(n - 1).toNat]?.getD ⟨#[]⟩ else ⟨#[]⟩
theorem nmF_at {k : Nat} {s : ByteArray} (h : NM[k]? = some s) (hk : k < 322) : nmF (k + 1) = s := by
  rw [nmF, if_pos (by omega), show ((k : Int) + 1 - 1).toNat = k by omega, h]; rfl
theorem nmF_no {n : Int} (h : ∀ i : Nat, i < 322 → n ≠ i + 1) : nmF n = ⟨#[]⟩ := by
  rw [nmF, if_neg]
  rintro ⟨h1, h2⟩
  exact h (n - 1).toNat (by omega) (by omega)
theorem One.put {b : Nat} {v : Value} {t : TypeId} {W : World} (h : One b v t W) (l : Nat) (o : Obj) (hl : b ≠ l) : One b v t (W.putObj l o) := h.same (World.putObj_heap_other hl)
theorem One.below {b B : Nat} {v : Value} {t : TypeId} {A C : World} (h : One b v t A) (hb : Below B A C) (hl : b < B) : One b v t C := h.same (hb.block b hl)

set_option maxRecDepth 100000 in
set_option maxHeartbeats 1000000 in
theorem opname_any (n : Int) (W : World) :
    Calls Tryd.prog 15 #[.int .i64 n] W fun e C => e = .returned (.string (nmF n)) ∧ Below W.heap.size W C := by
  refine (callsIn_wide (n := 3)).1 ?_
  refine callsIn_of_wp_marks Tryd.func15 rfl trivial ?_ rfl
  simp only [Tryd.ntmps15, List.size_toArray, List.length_cons, List.length_nil, Nat.reduceAdd, Nat.reduceSub, Array.replicate_succ, Array.replicate_zero, List.push_toArray, List.append_toArray, List.nil_append, List.cons_append]
  gi_wp2
  obtain ⟨w, hw⟩ : ∃ w, (W.alloc (.cells #[.int .i64 n] 3)).alloc (.cells #[.string ⟨#[]⟩] 9) = w := ⟨_, rfl⟩
  have hz : w.heap.size = W.heap.size + 2 := by rw [← hw]; simp
  have hb0 : Below W.heap.size W w := by rw [← hw]; exact ((Below.refl _ W).alloc (Nat.le_refl _) _).alloc (by simp) _
  have ho0 : One W.heap.size (.int .i64 n) 3 w := by rw [← hw]; exact (one_new W _ _ rfl).alloc _
  have hr0 : One (W.heap.size + 1) (.string ⟨#[]⟩) 9 w := by rw [← hw]; exact one_new _ _ _ (by simp)
  rw [hw]
  clear hw
  refine over_all (m := 1) rfl (fun k A => Below W.heap.size W A ∧ One W.heap.size (.int .i64 n) 3 A ∧ One (W.heap.size + 1) (.string ⟨#[]⟩) 9 A ∧ ∀ i : Nat, i < k → n ≠ i + 1)
    (fun A => Below W.heap.size W A ∧ One (W.heap.size + 1) (.string (nmF n)) 9 A) ?hI ?hIx ⟨hb0, ho0, hr0, by omega⟩ ?body ?done ?stop
  case hI =>
    rintro k A C ⟨h1, h2, h3, h4⟩ hb
    rw [hz] at hb
    exact ⟨h1.trans (hb.mono (by omega)), h2.below hb (by omega), h3.below hb (by omega), h4⟩
  case hIx =>
    rintro A C ⟨h1, h2⟩ hb
    rw [hz] at hb
    exact ⟨h1.trans (hb.mono (by omega)), h2.below hb (by omega)⟩
  case body =>
    rintro l k s A A1 hs hk ⟨hb, hn, hr, hf⟩
    rw [hz]
    have hcn := hn.cell
    have hcr := hr.cell
    have hfr := hr.frozen
    have HB := hid hb
    have HN := hid hn
    have HR := hid hr
    have HF := hid hf
    have HS := hid (nmF_at hs hk)
    clear hs hb hn hr hf hb0 ho0 hr0
    by_cases hk1 : (k : Int) + 1 = n
    · have hx : ((k : Int) + 1 == n) = true := by rw [hk1]; simp
      have HK := hid hk1
      clear hk1
      gi_wp2
      refine ⟨trivial, ?_⟩
      gi_wp2
      exact ⟨⟨HB.out.setCell (p := ⟨W.heap.size + 1, 0, none⟩) (by simp) _, by rw [← HK.out, HS.out]; exact HR.out.set _⟩, (Keeps.refl _ A1).set (by omega) _⟩
    · have hx : ((k : Int) + 1 == n) = false := by simpa using hk1
      have HK := hid hk1
      clear hk1
      gi_wp2
      refine ⟨trivial, ?_⟩
      gi_wp2
      refine ⟨⟨HB.out, HN.out, HR.out, fun i hi e => ?_⟩, Keeps.refl _ A1⟩
      rcases Nat.lt_or_ge i k with h | h
      · exact HF.out i h e
      · exact HK.out (by rw [e, show i = k by omega])
  case done =>
    rintro C ⟨hb, _, hr, hf⟩ hd
    rw [hz] at hd ⊢
    have hcr := hr.cell
    have hfr := hr.frozen
    have HB := hid hb
    have HR := hid hr
    have HF := hid (nmF_no hf)
    clear hb hr hf hb0 ho0 hr0
    gi_wp2
    have hR := HR.out.set (.string ⟨#[]⟩)
    have hK : (C.setCell ⟨W.heap.size + 1, 0, none⟩ (.string ⟨#[]⟩)).heap[W.heap.size + 2]? = some (.deferred (some [])) := (Below.heap_setCell _ _ _ _ (by simp)).trans hd
    refine ⟨by simp, .inl ⟨_, _, rfl, run_takeDeferred hK, ?_⟩⟩
    have hc5 := (hR.put (W.heap.size + 2) (.deferred none) (by omega)).cell
    refine ⟨.string ⟨#[]⟩, ?_, by rw [HF.out], (HB.out.setCell (p := ⟨W.heap.size + 1, 0, none⟩) (by simp) _).trans (below_put _ _ _ _ (by omega))⟩
    simp [results, Tryd.f15, go_sem, hc5]
  case stop =>
    rintro C ⟨hb, hr⟩ hd
    rw [hz] at hd ⊢
    have HB := hid hb
    have HR := hid hr
    clear hb hr hb0 ho0 hr0
    gi_wp2
    refine ⟨by simp, .inl ⟨_, _, rfl, run_takeDeferred hd, ?_⟩⟩
    have hc5 := (HR.out.put (W.heap.size + 2) (.deferred none) (by omega)).cell
    refine ⟨.string (nmF n), ?_, rfl, HB.out.trans (below_put _ _ _ _ (by omega))⟩
    simp [results, Tryd.f15, go_sem, hc5]
end Go.Proofs.YtinbgkflbphknaaDoor
