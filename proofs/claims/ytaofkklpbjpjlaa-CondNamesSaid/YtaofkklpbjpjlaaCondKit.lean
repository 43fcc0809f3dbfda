/-
  The document's look-up of a name; two lists of texts compared; all texts of a list written over.
-/
import Derived.Test.YtaofkklpbjpjlaaCondParse
import Derived.Test.YtaofkklpbjpjlaaCondRefNames
namespace Go.Proofs.Ytaofkklpbjpjlaa
open Go.RowKit

set_option maxHeartbeats 400000 in
theorem same_texts_heap (B C : Nat) (A A' : Option Addr) (l : List ByteArray) (w : World) (hs : Strs B A l w) (ht : Strs C A' l w) (hl : l.length ≤ 3) :
    Calls Try.prog 12 #[.slice A l.length l.length, .slice A' l.length l.length] w fun e w' => e = .returned (.bool true) ∧ Below w.heap.size w w' ∧ w'.heap = w.heap := by
  have el : (0 : Int) ≤ (l.length : Int) := by omega
  have HS := hid hs
  have HT := hid ht
  clear hs ht
  go_enter Try.func12, Try.ntmps12
  go_wp2
  go_loopw [5] (fun i wr => ∃ k : Nat, k ≤ l.length ∧ i = .int .i64 k ∧ Hid (Below w.heap.size w wr) ∧ Hid (wr.heap = w.heap)) (fun i _ => l.length - (intOf i).toNat)
  case atStart => exact ⟨0, by omega, rfl, hid (Below.refl _ _), hid rfl⟩
  case round =>
    obtain ⟨k, hk, rfl, HB, HE⟩ := hrel
    by_cases hlt : k < l.length
    · obtain ⟨t, ht⟩ : ∃ t, l[k]? = some t := ⟨_, List.getElem?_eq_getElem hlt⟩
      rcases HS.out.below HB.out with ⟨rfl, rfl⟩ | ⟨h, rfl, _, hrow⟩
      · simp at hlt
      rcases HT.out.below HB.out with ⟨rfl, rfl⟩ | ⟨h', rfl, _, hrow'⟩
      · simp at hlt
      have hcell := hrow.2 k t ht
      have hcell' := hrow'.2 k t ht
      have hm : (t.toList == t.toList) = true := by simp
      clear ht hrow hrow'
      go_wp2_with fail
      go_quiet (fail)
      go_wp2
      go_roundw
      case rel => exact ⟨k + 1, by omega, by go_num, hid (bdrewN HB.out _), hid HE.out⟩
      case measure => simp [intOf]; omega
    · go_wp2
      go_ret
      exact ⟨rfl, HB.out, HE.out⟩
theorem same_texts (B C : Nat) (A A' : Option Addr) (l : List ByteArray) (w : World) (hs : Strs B A l w) (ht : Strs C A' l w) (hl : l.length ≤ 3) :
    Calls Try.prog 12 #[.slice A l.length l.length, .slice A' l.length l.length] w fun e w' => e = .returned (.bool true) ∧ Below w.heap.size w w' :=
  (same_texts_heap B C A A' l w hs ht hl).mono fun _ _ ⟨h1, h2, _⟩ => ⟨h1, h2⟩
theorem Free.heap {w w' w'' : World} (h : Free w w') (he : w''.heap = w'.heap) : Free w w'' := fun b i hb => by
  have := h b i hb
  unfold World.frozen? at *
  rw [he]; exact this
def Over (B h k : Nat) (l : List ByteArray) (w wr : World) : Prop := Below B w wr ∧ (∀ (i : Nat) (b : ByteArray), k ≤ i → l[i]? = some b → wr.cell? ⟨h, i, none⟩ = some (.string b)) ∧ (∀ i : Nat, wr.frozen? ⟨h, i, none⟩ = false)
theorem Over.next {B h k : Nat} {l : List ByteArray} {w wr : World} {v : Value} (ho : Over B h k l w wr) (hB : B ≤ h) : Over B h (k + 1) l w (wr.setCell ⟨h, k, none⟩ v) := by
  obtain ⟨h1, h2, h3⟩ := ho
  refine ⟨h1.setCell hB _, fun i b hi hb => ?_, fun i => ?_⟩
  · have := h2 i b (by omega) hb
    exact (World.cell?_setCell_other _ _ _ _ (by intro e; injection e; omega)).trans this
  · have := h3 i
    rw [World.frozen?_setCell]; exact this
set_option maxHeartbeats 400000 in
theorem over_texts (B : Nat) (A : Option Addr) (l : List ByteArray) (w : World) (hs : Strs B A l w) (hf : ∀ b i : Nat, B ≤ b → w.frozen? ⟨b, i, none⟩ = false) (hl : l.length ≤ 3) (hz : ∀ t ∈ l, t.size ≤ 3) :
    Calls Try.prog 13 #[.slice A l.length l.length] w fun e w' => e = .returned (.tuple #[]) ∧ Below B w w' := by
  have el : (0 : Int) ≤ (l.length : Int) := by omega
  have HF := hid hf
  have HZ := hid hz
  clear hf hz
  rcases hs with ⟨rfl, rfl⟩ | ⟨h, rfl, hBh, hrow⟩
  · go_enter Try.func13, Try.ntmps13
    go_wp2
    go_loopw [3] (fun i wr => i = .int .i64 0 ∧ w = wr) (fun i _ => 0)
    case atStart => exact ⟨rfl, rfl⟩
    case round =>
      obtain ⟨rfl, rfl⟩ := hrel
      go_wp2
      go_returns
      exact ⟨rfl, Below.refl _ _⟩
  · have HO := hid (show Over B h 0 l w w from ⟨Below.refl _ _, fun i b _ hb => hrow.2 i b hb, fun i => HF.out h i hBh⟩)
    clear hrow
    go_enter Try.func13, Try.ntmps13
    go_wp2
    go_loopw [3] (fun i wr => ∃ k : Nat, k ≤ l.length ∧ i = .int .i64 k ∧ Hid (Over B h k l w wr)) (fun i _ => l.length - (intOf i).toNat)
    case atStart => exact ⟨0, by omega, rfl, HO⟩
    case round =>
      obtain ⟨k, hk, rfl, HO2⟩ := hrel
      by_cases hlt : k < l.length
      · obtain ⟨t, ht⟩ : ∃ t, l[k]? = some t := ⟨_, List.getElem?_eq_getElem hlt⟩
        have hsz : t.size ≤ 3 := HZ.out t (List.mem_of_getElem? ht)
        have hcell := HO2.out.2.1 k t (Nat.le_refl _) ht
        have hfr := HO2.out.2.2 k
        clear ht
        go_wp2_with fail
        go_roundw
        case rel => exact ⟨k + 1, by omega, by go_num, hid (HO2.out.next hBh)⟩
        case measure => simp [intOf]; omega
      · go_wp2
        go_returns
        exact ⟨rfl, HO2.out.1⟩

set_option maxHeartbeats 400000 in
theorem rparse_any (s : ByteArray) (w : World) :
    Calls Try.prog 10 #[.string s] w fun e w' => e = .returned (PV (parseF s)) ∧ Below w.heap.size w w' := by
  go_enter Try.func10, Try.ntmps10
  go_wp2_with fail
  go_loopw [4] (fun i wr => ∃ k : Nat, k ≤ 16 ∧ i = .int .i64 k ∧ Hid (Below w.heap.size w wr) ∧ Hid (parseF s = fromF s k (16 - k))) (fun i _ => 16 - (intOf i).toNat)
  case atStart => exact ⟨0, by omega, rfl, hid (Below.refl _ _), hid rfl⟩
  case round =>
    obtain ⟨k, hk, rfl, HB, HF⟩ := hrel
    by_cases hlt : k < 16
    · have hl3 := (NB_length k hlt).2
      have HN := hid (HF.out.trans (fromF_next hlt))
      go_wp2_with (go_at_call 8; refine (rnames_any _ _).mono ?_; rw [namesF_in hlt]; rintro e w1 ⟨A, rfl, HS, hb1⟩; have HB1 := hid (HB.out.trans (hb1.mono HB.out.size)); clear hb1)
      have el : (0 : Int) ≤ ((NB k).length : Int) := by omega
      go_loopw [6] (fun i wr => ∃ j : Nat, j ≤ (NB k).length ∧ i = .int .i64 j ∧ w1 = wr ∧ Hid (hasF s (NB k) = hasF s ((NB k).drop j))) (fun i _ => (NB k).length - (intOf i).toNat)
      case atStart => exact ⟨0, by omega, rfl, rfl, hid rfl⟩
      case round =>
        obtain ⟨j, hj, rfl, rfl, HJ⟩ := hrel
        by_cases hjl : j < (NB k).length
        · obtain ⟨t, ht⟩ : ∃ t, (NB k)[j]? = some t := ⟨_, List.getElem?_eq_getElem hjl⟩
          rcases HS.out with ⟨h0, rfl⟩ | ⟨h, rfl, _, hrow⟩
          · rw [h0] at hjl; simp at hjl
          have hcell := hrow.2 j t ht
          have HX := hid (HJ.out.trans (hasF_drop ht))
          clear ht hrow
          cases hm : t.toList == s.toList
          · have HM := hid (show (s.toList == t.toList) = false by rw [← hm]; exact BEq.comm)
            go_wp2_with fail
            go_roundw
            case rel => exact ⟨j + 1, by omega, by go_num, trivial, hid (by rw [HX.out, HM.out]; rfl)⟩
            case measure => simp [intOf]; omega
          · have HM := hid (show hasF s (NB k) = true by rw [HX.out, show (s.toList == t.toList) = true by rw [← hm]; exact BEq.comm]; rfl)
            go_wp2_with fail
            go_returns
            exact ⟨by rw [HN.out, HM.out]; rfl, HB1.out⟩
        · have HM := hid (show hasF s (NB k) = false by rw [HJ.out, List.drop_of_length_le (by omega)]; rfl)
          go_wp2_with fail
          go_roundw
          case rel => exact ⟨k + 1, by omega, by go_num, HB1, hid (by rw [HN.out, HM.out]; rfl)⟩
          case measure => simp [intOf]; omega
    · have HN := hid (show parseF s = none by rw [HF.out, show 16 - k = 0 by omega]; rfl)
      go_wp2_with fail
      go_returns
      exact ⟨by rw [HN.out]; rfl, HB.out⟩
end Go.Proofs.Ytaofkklpbjpjlaa
