/-
  Whether a text ends with one of some.
-/
import Derived.Test.YtinbgkflbphknaaDoorCondList
namespace Go.Proofs.YtinbgkflbphknaaDoor
open Go.RowKit

/-- Whether a text ends with another one, and has more. -/
def endF (s b : ByteArray) : Bool := decide (b.size < s.size) && ((s.extract (s.size - b.size) s.size).toList == b.toList)
def endsF (s : ByteArray) : List ByteArray → Bool
  | [] => false
  | b :: l => endF s b || endsF s l
theorem endsF_drop {s : ByteArray} {l : List ByteArray} {k : Nat} {b : ByteArray} (h : l[k]? = some b) : endsF s (l.drop k) = (endF s b || endsF s (l.drop (k + 1))) := by
  obtain ⟨hlt, rfl⟩ := List.getElem?_eq_some_iff.1 h
  rw [List.drop_eq_getElem_cons hlt, endsF]
theorem endsF_mem {s b : ByteArray} : ∀ {l : List ByteArray}, b ∈ l → endF s b = true → endsF s l = true := by
  intro l
  induction l with
  | nil => intro h; cases h
  | cons a l ih =>
    intro h hb
    rw [endsF]
    rcases List.mem_cons.1 h with rfl | h
    · rw [hb]; rfl
    · rw [ih h hb]; simp
set_option maxRecDepth 100000 in
set_option maxHeartbeats 400000 in
theorem ends_any (h : Nat) (l : List ByteArray) (s : ByteArray) (w : World) (hr : Row h l w) (hl : l.length ≤ 3) (hs : s.size ≤ 100) :
    Calls Tryd.prog 19 #[.string s, .slice (some ⟨h, 0, none⟩) l.length l.length] w fun e w' => e = .returned (.bool (endsF s l)) ∧ Below w.heap.size w w' := by
  have el : (0 : Int) ≤ (l.length : Int) := by omega
  have HR := hid hr
  clear hr
  go_enter Tryd.func19, Tryd.ntmps19
  go_wp2
  go_loopw [5] (fun i wr => ∃ k : Nat, k ≤ l.length ∧ i = .int .i64 k ∧ Hid (Below w.heap.size w wr) ∧ Hid (endsF s l = endsF s (l.drop k))) (fun i _ => l.length - (intOf i).toNat)
  case atStart => exact ⟨0, by omega, rfl, hid (Below.refl _ _), hid rfl⟩
  case round =>
    obtain ⟨k, hk, rfl, HB, HF⟩ := hrel
    by_cases hlt : k < l.length
    · obtain ⟨b, hb⟩ : ∃ b, l[k]? = some b := ⟨_, List.getElem?_eq_getElem hlt⟩
      have hcell := (HR.out.below HB.out).2 k b hb
      have HN := hid (HF.out.trans (endsF_drop hb))
      clear hb
      rcases Nat.lt_or_ge b.size s.size with hz | hz
      · obtain ⟨d, hd⟩ : ∃ d, s.size - b.size = d := ⟨_, rfl⟩
        have hz2 : decide ((b.size : Int) < (s.size : Int)) = true := decide_eq_true (by omega)
        have hz3 : decide (b.size < s.size) = true := decide_eq_true (by omega)
        have hd2 : (s.size : Int) - (b.size : Int) = (d : Int) := by omega
        have hd3 : d ≤ s.size := by omega
        have HE := hid (show endF s b = ((s.extract d s.size).toList == b.toList) by rw [endF, hd, decide_eq_true hz]; rfl)
        clear hz hd
        cases hm : (s.extract d s.size).toList == b.toList
        · have HM := hid (HE.out.trans hm)
          go_wp2
          go_region
          go_wp2
          go_roundw
          case rel => exact ⟨k + 1, by omega, by go_num, hid HB.out.drew, hid (by rw [HN.out, HM.out]; rfl)⟩
          case measure => simp [intOf]; omega
        · have HM := hid (HE.out.trans hm)
          go_wp2
          go_region
          go_wp2
          go_ret
          exact ⟨ret_b (by rw [HN.out, HM.out]; rfl), HB.out.drew⟩
      · have HM := hid (show endF s b = false by rw [endF, decide_eq_false (by omega)]; rfl)
        have hz2 : decide ((b.size : Int) < (s.size : Int)) = false := decide_eq_false (by omega)
        have hz3 : decide (b.size < s.size) = false := decide_eq_false (by omega)
        clear hz
        go_wp2
        go_region
        go_wp2
        go_roundw
        case rel => exact ⟨k + 1, by omega, by go_num, hid HB.out.drew, hid (by rw [HN.out, HM.out]; rfl)⟩
        case measure => simp [intOf]; omega
    · have HN := hid (show endsF s l = false by rw [HF.out, List.drop_of_length_le (by omega)]; rfl)
      go_wp2
      go_ret
      exact ⟨ret_b HN.out.symm, HB.out⟩
end Go.Proofs.YtinbgkflbphknaaDoor
