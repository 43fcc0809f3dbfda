/-
  The kit's copies of instructions, and instructions written over.
-/
import Derived.Test.YtmlmdbholakioaaInstSpell
namespace Go.Proofs.Ytmlmdbholakioaa
open Go.RowKit

theorem grown_trans {a b c : World} {row : Option Nat} (h : a.grownBy b row) (k : b.grownBy c row) : a.grownBy c row :=
  ⟨k.os.trans h.os, k.tape.trans h.tape, k.output.trans h.output, Nat.le_trans h.size k.size, fun i hi hn => (k.block i (Nat.lt_of_lt_of_le hi h.size) hn).trans (h.block i hi hn)⟩
theorem grown_put (w : World) (g o : Nat) (vs : List Value) : w.grownBy (putW w g o vs) (some g) := by
  have h := putW_below (B := 0) (a := w) (g := g) (Nat.zero_le _) vs w o (Below.refl 0 w)
  exact ⟨h.os, h.tape, h.output, h.size, fun k _ hk => putW_other (fun e => hk (by rw [e])) vs w o⟩
theorem grown_refl (w : World) (row : Option Nat) : w.grownBy w row := ⟨rfl, rfl, rfl, Nat.le_refl _, fun _ _ _ => rfl⟩
set_option maxHeartbeats 1000000 in
set_option maxRecDepth 100000 in
theorem copy_any {op : Int} {A : Option Addr} {c : Nat} {l : List Ar} (hl : l.length ≤ 9) (w : World) (hA : Args w w.heap.size A l) :
    Calls Try.prog 7 #[.agg #[.int .i64 op, .slice A l.length c]] w fun e w' => ∃ G cp, e = .returned (.agg #[.int .i64 op, .slice G l.length cp]) ∧ Below w.heap.size w w' ∧ OwnA w.heap.size w' G l := by
  obtain ⟨i0, hi, hz0, hz1, hz2⟩ := info_parts infoArg
  have I0 := hid hz0; have I1 := hid hz1; have I2 := hid hz2; have I3 := hid hi
  clear hi hz0 hz1 hz2
  have HO := hid (((Own.nil w).alloc w.heap.size #[.int .i64 op, .slice A l.length c] 24 rfl).alloc (w.heap.size + 1) #[.int .i64 0, .slice none 0 0] 24 (by simp))
  rcases A with _ | A
  · have h0 : l = [] := by
      rcases hA with h | ⟨b, off, h, _⟩
      · exact h
      · cases h
    subst h0
    go_enter Try.func7, Try.ntmps7
    go_wp2
    refine bodyPost_ret (v := .agg #[.int .i64 op, .slice (some ⟨w.heap.size + 1 + 1, 0, none⟩) 0 0]) (by simp [results, Try.results7, go_sem]) rfl ⟨_, _, rfl, by go_grown, .inl rfl⟩
  · have hb0 := two_alloc w (.cells #[.int .i64 op, .slice (some A) l.length c] 24) (.cells #[.int .i64 0, .slice none 0 0] 24)
    have HC := hid (show ∀ j u, (cellsA l)[j]? = some u → (((w.alloc (.cells #[.int .i64 op, .slice (some A) l.length c] 24)).alloc (.cells #[.int .i64 0, .slice none 0 0] 24)).alloc (.cells #[] 42)).cell? (A.add j) = some u by
      rcases hA with rfl | ⟨b, off, h, hb, hc⟩
      · intro j u hu; simp [cellsA] at hu
      · cases h
        intro j u hu
        have h1 := one_cells hc j u hu
        exact ((hb0.alloc hb0.size _).cell (p := (⟨b, off, none⟩ : Addr).add j) (by unfold Addr.add; split <;> simp_all)).trans h1)
    have HM := hid (World.ownsRow_made (e := 42) (size := 11) (base := w.heap.size + 1 + 1) ((w.alloc (.cells #[.int .i64 op, .slice (some A) l.length c] 24)).alloc (.cells #[.int .i64 0, .slice none 0 0] 24)) #[] 0 (by simp) (by unfold maxLen; omega) (by simp))
    have H1 := hid (cells_oneA l)
    have HL := hid (cellsA_length l)
    have HOa := hid (HO.out.call ((Below.refl _ _).alloc (Nat.le_refl _) (.cells #[] 42)))
    clear hA hb0
    go_enter Try.func7, Try.ntmps7
    go_wp2_with (at_builtin; refine wpList_append_own _ rfl _ _ 22 rfl (w.heap.size + 1 + 1) 42 i0 (.agg #[.int .i64 0, .int .i64 0, .int .i64 0, .int .i64 0, .int .i64 0, .int .i64 0, .int .i64 0, .int .i64 0, .int .i64 0, .int .i64 0, .int .i64 0]) 11 88 Try.underlying22 I3.out I0.out I1.out I2.out rfl (by decide) (.slice (some ⟨w.heap.size + 1 + 1, 0, none⟩) 0 0) 0 [] rfl ?_ A l.length c (cellsA l) rfl HL.out HC.out H1.out ?_ ?_ ?_ ?_; (have h := HM.out; simp at h; exact h); (unfold maxLen; omega); omega; simp)
    intro v' w1 hown hgrow _
    have HO1 := hid (HOa.out.grown hgrow (by
      intro k hk
      simp [Value.ownBlock] at hk
      refine ⟨by omega, fun x hx => ?_⟩
      simp only [List.mem_cons, List.not_mem_nil, or_false] at hx
      rcases hx with rfl | rfl
      all_goals dsimp only; omega))
    obtain ⟨G, cp, rfl, hG⟩ := OwnA.row hown
    have HG := hid hG
    clear hown hgrow hG
    have c0 := HO1.out.tl.c
    have f0 := HO1.out.tl.f
    have z0 := HO1.out.tl.z
    have c1 := HO1.out.c
    have f1 := HO1.out.f
    have z1 := HO1.out.z
    go_wp2_with fail
    refine bodyPost_ret (v := .agg #[.int .i64 op, .slice G l.length cp]) (by simp [results, Try.results7, go_sem, *]) rfl ⟨_, _, rfl, ?_, ?_⟩
    · exact ((HO1.out.below.setCell (p := ⟨w.heap.size, 1, none⟩) (Nat.le_refl _) _).setCell (p := ⟨w.heap.size + 1, 0, none⟩) (Nat.le_succ _) _).setCell (p := ⟨w.heap.size + 1, 1, none⟩) (Nat.le_succ _) _
    · exact ((((HG.out.set _ _ _ (by omega)).set _ _ _ (by omega)).set _ _ _ (by omega)).mono (by omega))
/-- What was written over. -/
abbrev OV : Ar := ⟨-7, 0, 0, ⟨0, 0, 0, 0, 0, 0, 0⟩, -7⟩
set_option maxHeartbeats 1000000 in
theorem over_any {op : Int} {A : Option Addr} {base c : Nat} {l : List Ar} (hl : l.length ≤ 9) (w : World) (hA : OwnA base w A l) :
    Calls Try.prog 17 #[.agg #[.int .i64 op, .slice A l.length c]] w fun e w' => e = .returned (.tuple #[]) ∧ w.grownBy w' (A.map (·.block)) := by
  have HO := hid ((Own.nil w).alloc w.heap.size #[.int .i64 op, .slice A l.length c] 24 rfl)
  have HA := hid (hA.below ((Below.refl _ _).alloc (Nat.le_refl _) (.cells #[.int .i64 op, .slice A l.length c] 24)))
  have HGL := hid (show ∀ g, A = some ⟨g, 0, none⟩ → l ≠ [] → g < w.heap.size from fun g hg hl0 => by subst hg; exact (OwnA.lt hA hl0).2)
  have HW := hid (World.grownBy_alloc w (.cells #[.int .i64 op, .slice A l.length c] 24) (A.map (·.block)))
  clear hA
  go_enter Try.func17, Try.ntmps17
  go_wp2
  have c0 := HO.out.c
  have z0 := HO.out.z
  generalize w.alloc (.cells #[.int .i64 op, .slice A l.length c] 24) = W at HO HA HW c0 z0 ⊢
  have HR := hid (grown_refl W (A.map (·.block)))
  go_loopw [2] (fun i wr => ∃ (k : Nat) (L : List Ar), k ≤ l.length ∧ i = .int .i64 k ∧ L.length = l.length ∧ Hid (OwnA base wr A L) ∧ Hid (W.grownBy wr (A.map (·.block))) ∧ Hid (∀ j, wr.cell? ⟨w.heap.size, j, none⟩ = W.cell? ⟨w.heap.size, j, none⟩)) (fun i _ => l.length - (intOf i).toNat)
  case atStart => exact ⟨0, l, by omega, rfl, rfl, HA, HR, hid (fun _ => rfl)⟩
  case round =>
    clear HR HA
    obtain ⟨k, L, hk, rfl, hL, HA, HR, HX⟩ := hrel
    have hbox := HX.out
    have HLn := hid hL
    by_cases hlt : k < l.length
    · obtain ⟨a, ha⟩ : ∃ a, L[k]? = some a := ⟨_, List.getElem?_eq_getElem (by omega)⟩
      obtain ⟨g, rfl⟩ : ∃ g, A = some ⟨g, 0, none⟩ := by
        rcases HA.out with h | ⟨g, _, h, _⟩
        · rw [h] at ha; simp at ha
        · exact ⟨g, h⟩
      have hl0 : l ≠ [] := by intro h; rw [h] at hlt; simp at hlt
      have hg := HGL.out g rfl hl0
      obtain ⟨⟨q0, q1, q2, q3, q4, q5, q6, q7, q8, q9, q10⟩, fz, gz⟩ := OwnA.at HA.out ha
      have HA2 := hid (HA.out.put OV (show k < L.length by omega))
      have HR2 := hid (grown_trans HR.out (grown_put wr g (k * 11) (AC OV)))
      have HL2 := hid (show (L.set k OV).length = l.length by rw [List.length_set, HLn.out])
      have HX2 := hid (show ∀ j, (putW wr g (k * 11) (AC OV)).cell? ⟨w.heap.size, j, none⟩ = W.cell? ⟨w.heap.size, j, none⟩ from fun j => (World.cell?_of_block (w := wr) (w' := putW wr g (k * 11) (AC OV)) (a := ⟨w.heap.size, j, none⟩) (putW_other (show w.heap.size ≠ g by omega) (AC OV) wr (k * 11))).trans (HX.out j))
      clear ha hl0
      go_wp2
      go_roundw
      case rel => exact ⟨k + 1, L.set k OV, by omega, by go_num, HL2.out, hid HA2.out, hid HR2.out, hid HX2.out⟩
      case measure => simp [intOf]; omega
    · have HZ := hid (grown_trans HW.out HR.out)
      go_wp2
      go_end0
      exact ⟨rfl, HZ.out⟩
end Go.Proofs.Ytmlmdbholakioaa
