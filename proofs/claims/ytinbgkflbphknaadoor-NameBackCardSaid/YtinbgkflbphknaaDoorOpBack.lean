/-
  The walk of NameBack: all of them.
-/
import Derived.Test.YtinbgkflbphknaaDoorOpBackNe
import Derived.Test.YtinbgkflbphknaaDoorOpBackEq
import Derived.Test.YtinbgkflbphknaaDoorOpBackLo
import Derived.Test.YtinbgkflbphknaaDoorOpBackHi
namespace Go.Proofs.YtinbgkflbphknaaDoor
open Go.RowKit

theorem back_long (n other : Int) (s : ByteArray) (hs : (100 : Int) < (s.size : Int)) (w : World) :
    Calls Tryd.prog 4 #[.int .i64 n, .int .i64 other, .string s] w fun e w' => e = .returned (.bool true) ∧ Below w.heap.size w w' := by
  go_enter Tryd.func4, Tryd.ntmps4
  go_wp2_with fail
  refine (awake_any _).mono ?_
  rintro e w1 ⟨rfl, hb⟩
  go_wp2_with fail
  go_ret
  exact ⟨rfl, hb⟩
theorem nm_small : ∀ b ∈ NM, b.size ≤ 100 := by decide +kernel
theorem name_small (n : Int) : (nmF n).size ≤ 100 := by
  cases h : okF n
  · rw [nm_out h]; decide
  · obtain ⟨k, b, _, _, hb, he⟩ := nm_at h
    rw [he]; exact nm_small b (List.mem_of_getElem? hb)
theorem empty_eq (t : ByteArray) : (t.toList == []) = (t.toList == (⟨#[]⟩ : ByteArray).toList) := by rw [ByteArray.toList_eq ⟨#[]⟩]
theorem back_law (n other : Int) (s : ByteArray) (w : World) (_ : I64 n) (_ : I64 other) (_ : s.size ≤ 9223372036854775807) :
    Calls Tryd.prog 4 #[.int .i64 n, .int .i64 other, .string s] w fun e w' => e = .returned (.bool true) ∧ Below w.heap.size w w' := by
  by_cases hs0 : s.size ≤ 100
  · have hs := hs0
    obtain ⟨t, ht⟩ : ∃ t, nmF n = t := ⟨_, rfl⟩
    have HT := hid ht
    have hz := name_small n
    rw [ht] at hz
    have HG := hid (good_at (t := t) (by rw [← ht]; exact name_good n))
    cases hv : okF n
    · have HV := hid hv
      have he : (t.toList == []) = true := by rw [empty_eq, ← ht, nm_out hv]; simp
      rcases okF_no hv with h1 | h1
      · cases ho : opF s with
        | none =>
          have HS := hid ho
          exact back_lo_a hs HT hz HG HV h1 he HS w
        | some m =>
          have HS := hid ho
          obtain ⟨hvm, hf⟩ := op_facts ho
          have HVm := hid hvm
          obtain ⟨q, hqm⟩ : ∃ q, nmF m = q := ⟨_, rfl⟩
          have HMn := hid hqm
          cases hq : q.toList == s.toList
          · rcases hf with hf | ⟨c, hc, hcc, hen⟩
            · rw [hqm] at hf
              rw [txt_eq.2 hf] at hq
              cases hq
            · have HC := hid hcc
              have HEn := hid hen
              exact back_lo_c hs HT hz HG HV h1 he HS HVm HMn hq hc HC HEn w
          · cases hcd : condF m with
            | none =>
              have HC := hid hcd
              exact back_lo_b0 hs HT hz HG HV h1 he HS HVm HMn hq HC w
            | some d =>
              have HC := hid hcd
              exact back_lo_b1 hs HT hz HG HV h1 he HS HVm HMn hq HC w
      · cases ho : opF s with
        | none =>
          have HS := hid ho
          exact back_hi_a hs HT hz HG HV h1 he HS w
        | some m =>
          have HS := hid ho
          obtain ⟨hvm, hf⟩ := op_facts ho
          have HVm := hid hvm
          obtain ⟨q, hqm⟩ : ∃ q, nmF m = q := ⟨_, rfl⟩
          have HMn := hid hqm
          cases hq : q.toList == s.toList
          · rcases hf with hf | ⟨c, hc, hcc, hen⟩
            · rw [hqm] at hf
              rw [txt_eq.2 hf] at hq
              cases hq
            · have HC := hid hcc
              have HEn := hid hen
              exact back_hi_c hs HT hz HG HV h1 he HS HVm HMn hq hc HC HEn w
          · cases hcd : condF m with
            | none =>
              have HC := hid hcd
              exact back_hi_b0 hs HT hz HG HV h1 he HS HVm HMn hq HC w
            | some d =>
              have HC := hid hcd
              exact back_hi_b1 hs HT hz HG HV h1 he HS HVm HMn hq HC w
    · have HV := hid hv
      obtain ⟨h1, h2⟩ := okF_yes hv
      have he : (t.toList == []) = false := by rw [empty_eq, ← ht]; exact txt_ne (name_full hv)
      have HIS := hid (show opF t = some n by rw [← ht]; exact name_reads hv)
      by_cases hne : n = other
      · have hno : (n != other) = false := by rw [hne]; simp
        cases ho : opF s with
        | none =>
          have HS := hid ho
          exact back_eq_a hs HT hz HG HV h1 h2 he HIS hno HS w
        | some m =>
          have HS := hid ho
          obtain ⟨hvm, hf⟩ := op_facts ho
          have HVm := hid hvm
          obtain ⟨q, hqm⟩ : ∃ q, nmF m = q := ⟨_, rfl⟩
          have HMn := hid hqm
          cases hq : q.toList == s.toList
          · rcases hf with hf | ⟨c, hc, hcc, hen⟩
            · rw [hqm] at hf
              rw [txt_eq.2 hf] at hq
              cases hq
            · have HC := hid hcc
              have HEn := hid hen
              exact back_eq_c hs HT hz HG HV h1 h2 he HIS hno HS HVm HMn hq hc HC HEn w
          · cases hcd : condF m with
            | none =>
              have HC := hid hcd
              exact back_eq_b0 hs HT hz HG HV h1 h2 he HIS hno HS HVm HMn hq HC w
            | some d =>
              have HC := hid hcd
              exact back_eq_b1 hs HT hz HG HV h1 h2 he HIS hno HS HVm HMn hq HC w
      · have hno : (n != other) = true := by simpa using hne
        obtain ⟨u, hun⟩ : ∃ u, nmF other = u := ⟨_, rfl⟩
        have HU := hid hun
        have hu : (u.toList == t.toList) = false := by rw [← hun, ← ht]; exact txt_ne (name_apart hv hne)
        cases ho : opF s with
        | none =>
          have HS := hid ho
          exact back_ne_a hs HT hz HG HV h1 h2 he HIS hno HU hu HS w
        | some m =>
          have HS := hid ho
          obtain ⟨hvm, hf⟩ := op_facts ho
          have HVm := hid hvm
          obtain ⟨q, hqm⟩ : ∃ q, nmF m = q := ⟨_, rfl⟩
          have HMn := hid hqm
          cases hq : q.toList == s.toList
          · rcases hf with hf | ⟨c, hc, hcc, hen⟩
            · rw [hqm] at hf
              rw [txt_eq.2 hf] at hq
              cases hq
            · have HC := hid hcc
              have HEn := hid hen
              exact back_ne_c hs HT hz HG HV h1 h2 he HIS hno HU hu HS HVm HMn hq hc HC HEn w
          · cases hcd : condF m with
            | none =>
              have HC := hid hcd
              exact back_ne_b0 hs HT hz HG HV h1 h2 he HIS hno HU hu HS HVm HMn hq HC w
            | some d =>
              have HC := hid hcd
              exact back_ne_b1 hs HT hz HG HV h1 h2 he HIS hno HU hu HS HVm HMn hq HC w
  · exact back_long n other s (by omega) w
end Go.Proofs.YtinbgkflbphknaaDoor
