/-
  The program's drafts: an instruction out of operands that are pointed to.
-/
import Derived.Test.YtmlmdbholakioaaInstOrder
import Derived.Deep.AppendLies
import Derived.Deep.RegionLaw
namespace Go.Proofs.Ytmlmdbholakioaa
open Go.RowKit

set_option maxHeartbeats 2000000 in
set_option maxRecDepth 100000 in
theorem with_any {op : Int} (P0 P : Option Addr) (n0 c0' c : Nat) (l : List Ar) (hl : l.length ≤ 4) (w : World) (hP : To w w.heap.size P l) :
    Calls Try.prog 29 #[.agg #[.int .i64 op, .slice P0 n0 c0'], .slice P l.length c] w fun e w' => ∃ A' c', e = .returned (.agg #[.int .i64 op, .slice A' l.length c']) ∧ Below w.heap.size w w' ∧ OwnA w.heap.size w' A' l := by
  have HP := hid hP
  clear hP
  obtain ⟨i0, hi, hz0, hz1, hz2⟩ := info_parts infoArg
  have I0 := hid hz0; have I1 := hid hz1; have I2 := hid hz2; have I3 := hid hi
  clear hi hz0 hz1 hz2
  have HO := hid ((((Own.nil w).alloc w.heap.size #[.int .i64 op, .slice P0 n0 c0'] 51 rfl).alloc (w.heap.size + 1) #[.int .i64 0, .slice none 0 0] 24 (by simp)).alloc (w.heap.size + 1 + 1) #[.int .i64 op, .slice none 0 0] 24 (by simp))
  go_enter Try.func29, Try.ntmps29
  go_wp2
  have hgw : w.heap.size + 1 < w.heap.size + 1 + 1 := by omega
  have HR := hid (World.ownsRow_nil (((w.alloc (.cells #[.int .i64 op, .slice P0 n0 c0'] 51)).alloc (.cells #[.int .i64 0, .slice none 0 0] 24)).alloc (.cells #[.int .i64 op, .slice none 0 0] 24)) (w.heap.size + 1 + 1 + 1) 42 11)
  have hgz : w.heap.size + 1 + 1 + 1 ≤ (((w.alloc (.cells #[.int .i64 op, .slice P0 n0 c0'] 51)).alloc (.cells #[.int .i64 0, .slice none 0 0] 24)).alloc (.cells #[.int .i64 op, .slice none 0 0] 24)).heap.size := by simp
  generalize ((w.alloc (.cells #[.int .i64 op, .slice P0 n0 c0'] 51)).alloc (.cells #[.int .i64 0, .slice none 0 0] 24)).alloc (.cells #[.int .i64 op, .slice none 0 0] 24) = W at HO HR hgz ⊢
  generalize w.heap.size + 1 + 1 = g at HO HR hgw hgz ⊢
  go_loopw [13] (fun i wr => ∃ (k : Nat) (V : Option Addr) (cp : Nat), k ≤ l.length ∧ i = .int .i64 k ∧ g + 1 ≤ wr.heap.size ∧ Hid (Own w [⟨g, #[.int .i64 op, .slice V k cp], 24⟩, ⟨w.heap.size + 1, #[.int .i64 0, .slice none 0 0], 24⟩, ⟨w.heap.size, #[.int .i64 op, .slice P0 n0 c0'], 51⟩] wr) ∧ Hid (wr.ownsRow (g + 1) 42 11 (.slice V k cp) k (cellsA (l.take k)))) (fun i _ => l.length - (intOf i).toNat)
  case atStart => exact ⟨0, none, 0, by omega, rfl, hgz, HO, HR⟩
  case round =>
    clear HO HR hgz
    obtain ⟨k, V, cp, hk, rfl, hgz, HO, HR⟩ := hrel
    have c0 := HO.out.c
    have f0 := HO.out.f
    have z0 := HO.out.z
    by_cases hlt : k < l.length
    · obtain ⟨a, ha⟩ : ∃ a, l[k]? = some a := ⟨_, List.getElem?_eq_getElem hlt⟩
      rcases HP.out.call HO.out.below with h0 | ⟨pb, po, rfl, hpb, hc⟩
      · rw [h0] at hlt; simp at hlt
      obtain ⟨b, o, hb, hp, h1⟩ := hc k a ha
      have q0 := h1 0 (by decide); have q1 := h1 1 (by decide); have q2 := h1 2 (by decide); have q3 := h1 3 (by decide); have q4 := h1 4 (by decide); have q5 := h1 5 (by decide); have q6 := h1 6 (by decide); have q7 := h1 7 (by decide); have q8 := h1 8 (by decide); have q9 := h1 9 (by decide); have q10 := h1 10 (by decide)
      simp only [Nat.add_zero, List.getElem?_cons_zero, List.getElem?_cons_succ] at q0 q1 q2 q3 q4 q5 q6 q7 q8 q9 q10
      have HT := hid (show cellsA (l.take (k + 1)) = cellsA (l.take k) ++ AC a by
        rw [List.take_add_one, ha, cellsA_append]; simp [cellsA])
      have hlen : (l.take k).length = k := by rw [List.length_take]; omega
      have HQ := hid (show ∀ q, (Value.slice V k cp).ownBlock = some q → w.heap.size ≤ q ∧ ∀ x ∈ ([⟨g, #[.int .i64 op, .slice V k cp], 24⟩, ⟨w.heap.size + 1, #[.int .i64 0, .slice none 0 0], 24⟩, ⟨w.heap.size, #[.int .i64 op, .slice P0 n0 c0'], 51⟩] : List Blk), x.b ≠ q from by
        intro q hq
        have := HR.out.lt q hq
        refine ⟨by omega, fun x hx => ?_⟩
        simp only [List.mem_cons, List.not_mem_nil, or_false] at hx
        rcases hx with rfl | rfl | rfl
        all_goals dsimp only; omega)
      clear hc h1 ha
      go_wp2_with fail
      go_region_law (refine step_append_lies _ ?_ (.tmp 18) (.tmp 22) 22 ?_ (g + 1) 42 i0 (.agg #[.int .i64 0, .int .i64 0, .int .i64 0, .int .i64 0, .int .i64 0, .int .i64 0, .int .i64 0, .int .i64 0, .int .i64 0, .int .i64 0, .int .i64 0]) 11 88 Try.underlying22 I3.out I0.out I1.out I2.out rfl (by decide) (.slice V k cp) k (cellsA (l.take k)) ?_ ?_ ⟨wr.heap.size, 0, none⟩ 1 1 (AC a) ?_ rfl ?_ ?_ (by decide) ?_ ?_ ?_ _ rfl ?_; rfl; rfl; rfl; exact (HR.out.alloc _); rfl; (exact cells_at wr _ _ rfl); (intro u hu; simp at hu; rcases hu with rfl | rfl | rfl | rfl | rfl | rfl | rfl | rfl | rfl | rfl | rfl <;> rfl); (unfold maxLen; omega); omega; (simp; omega); intro q cq w9 hown hgrow hlies hlt9; have HO9 := hid (Own.grown (HO.out.drew.call ((Below.refl wr.drew.heap.size wr.drew).alloc (Nat.le_refl _) _)) hgrow HQ.out); have HR9 := hid hown; have c9 := HO9.out.c; have f9 := HO9.out.f; have z9 := HO9.out.z; clear hown hgrow hlies)
      all_goals
        have HO2 := hid (show Own w [⟨g, #[.int .i64 op, .slice (some ⟨q, 0, none⟩) (k + 1) cq], 24⟩, ⟨w.heap.size + 1, #[.int .i64 0, .slice none 0 0], 24⟩, ⟨w.heap.size, #[.int .i64 op, .slice P0 n0 c0'], 51⟩] (w9.setCell ⟨g, 1, none⟩ (.slice (some ⟨q, 0, none⟩) (k + 1) cq)) from HO9.out.set 1 _)
        have HR2 := hid (show (w9.setCell ⟨g, 1, none⟩ (.slice (some ⟨q, 0, none⟩) (k + 1) cq)).ownsRow (g + 1) 42 11 (.slice (some ⟨q, 0, none⟩) (k + 1) cq) (k + 1) (cellsA (l.take (k + 1))) by rw [HT.out]; exact row_set HR9.out g 1 _ (by omega))
        have hgz2 : g + 1 ≤ (w9.setCell ⟨g, 1, none⟩ (.slice (some ⟨q, 0, none⟩) (k + 1) cq)).heap.size := by have := (HR9.out.lt q rfl).1; simp; omega
        go_wp2_with fail
        go_roundw
        case rel => exact ⟨k + 1, some ⟨q, 0, none⟩, cq, by omega, by go_num, hgz2, HO2, HR2⟩
        case measure => simp [intOf]; omega
    · have hkl : k = l.length := by omega
      subst hkl
      have HOA := hid (show OwnA (g + 1) wr V l by
        have h := HR.out
        rw [List.take_of_length_le (Nat.le_refl _)] at h
        obtain ⟨A2, c3, h2, h3⟩ := OwnA.row h
        injection h2 with h4 h5 h6
        rw [h4]; exact h3)
      have c1 := HO.out.tl.c
      have f1 := HO.out.tl.f
      have z1 := HO.out.tl.z
      go_wp2_with fail
      refine bodyPost_ret (v := .agg #[.int .i64 op, .slice V l.length cp]) (by simp [results, Try.results29, go_sem, *]) rfl ⟨V, cp, rfl, ?_, ?_⟩
      · exact (HO.out.below.setCell (p := ⟨w.heap.size + 1, 0, none⟩) (Nat.le_succ _) _).setCell (p := ⟨w.heap.size + 1, 1, none⟩) (Nat.le_succ _) _
      · exact (((HOA.out.set _ _ _ (by omega)).set _ _ _ (by omega)).mono (by omega))
end Go.Proofs.Ytmlmdbholakioaa
