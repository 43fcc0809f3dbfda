/-
  The document's Name and what stands behind a beginning.
-/
import Derived.Test.YtinbgkflbphknaaDoorOpRefNames
import Derived.Test.YtinbgkflbphknaaDoorOpParse
namespace Go.Proofs.YtinbgkflbphknaaDoor
open Go.RowKit

theorem okF_nat {n : Int} (h : okF n = true) : ∃ k : Nat, k < 322 ∧ n = k + 1 := ⟨(n - 1).toNat, by have := okF_yes h; omega, by have := okF_yes h; omega⟩
theorem nm_get {k : Nat} (hk : k < 322) : ∃ b, NM[k]? = some b := ⟨_, List.getElem?_eq_getElem (by rw [NM_length]; exact hk)⟩
set_option maxHeartbeats 1000000 in
theorem ropname_any (n : Int) (w : World) :
    Calls Tryd.prog 16 #[.int .i64 n] w fun e w' => e = .returned (.string (nmF n)) ∧ Below w.heap.size w w' := by
  cases hv : okF n
  · have HV := hid hv
    have HN := hid (show nmF n = ⟨#[]⟩ by have := okF_no hv; rw [nmF, if_neg (by omega)])
    clear hv
    go_enter Tryd.func16, Tryd.ntmps16
    go_wp2_with (go_at_call 14; refine (rvalid_of HV.out _).mono ?_; rintro e w1 ⟨rfl, rfl⟩)
    go_returns
    exact ⟨by rw [HN.out]; rfl, Below.refl _ _⟩
  · have HV := hid hv
    obtain ⟨k, hk, rfl⟩ := okF_nat hv
    obtain ⟨b, hb⟩ := nm_get hk
    have HN := hid (nmF_at hb hk)
    have HB := hid hb
    clear hv hb
    go_enter Tryd.func16, Tryd.ntmps16
    go_wp2_with (first | (go_at_call 14; refine (rvalid_of HV.out _).mono ?_; rintro e w1 ⟨rfl, rfl⟩) | (go_at_call 24; refine (rops_any _).mono ?_; rintro e w1 ⟨rfl, hrow, hb1⟩; have hcell := hrow.2 k b HB.out; have HB1 := hid hb1; clear hrow hb1))
    go_returns
    exact ⟨by rw [HN.out]; rfl, HB1.out⟩

/-- What the document hands back of a beginning. -/
abbrev behV (s p : ByteArray) (b : Bool) : Value := .tuple #[.string (bif b then restF s p else ⟨#[]⟩), .bool b]
theorem behind_of {s p : ByteArray} {b : Bool} (h : begF s p = b) (w : World) :
    Calls Tryd.prog 25 #[.string s, .string p] w fun e w' => e = .returned (behV s p b) ∧ w = w' := by
  have h' := (Lib.hasPrefix_raw s p).trans h
  rcases Nat.lt_or_ge s.size p.size with hl | hl
  · have hb : b = false := by rw [← h', decide_eq_false (by omega)]; rfl
    subst hb
    have hl' : (s.size : Int) < (p.size : Int) := by omega
    clear h h'
    go_enter Tryd.func25, Tryd.ntmps25
    go_wp2
    go_returns
    exact ⟨rfl, rfl⟩
  · rw [decide_eq_true hl, Bool.true_and] at h'
    clear h
    cases b with
    | false =>
      have hn : ((s.extract 0 p.size).toList != p.toList) = true := by simp [bne, h']
      go_enter Tryd.func25, Tryd.ntmps25
      go_wp2
      go_returns
      exact ⟨rfl, rfl⟩
    | true =>
      have hn : ((s.extract 0 p.size).toList != p.toList) = false := by simp [bne, h']
      go_enter Tryd.func25, Tryd.ntmps25
      go_wp2
      go_returns
      exact ⟨rfl, rfl⟩
end Go.Proofs.YtinbgkflbphknaaDoor
