/-
  The walk of CondTells.
-/
import Derived.Test.YtaofkklpbjpjlaaCondOne
namespace Go.Proofs.Ytaofkklpbjpjlaa
open Go.RowKit

theorem NB_small (k : Nat) (hk : k < 16) : ∀ t ∈ NB k, t.size ≤ 3 := by
  have : ∀ k : Fin 16, ∀ t ∈ NB k.val, t.size ≤ 3 := by decide +kernel
  exact this ⟨k, hk⟩
theorem namesF_facts (n : Int) : (namesF n).length ≤ 3 ∧ ∀ t ∈ namesF n, t.size ≤ 3 := by
  cases h : isF n
  · simp [namesF, h]
  · obtain ⟨k, rfl, hk⟩ := isF_nat h
    rw [namesF_in hk]
    exact ⟨(NB_length k hk).2, NB_small k hk⟩
theorem PV_out (o : Option Nat) : ∃ i b, PV o = .tuple #[.int .i64 i, .bool b] := by
  cases o
  · exact ⟨0, false, rfl⟩
  · exact ⟨_, true, rfl⟩
theorem rparse_of {s : ByteArray} {v : Value} (h : PV (parseF s) = v) (w : World) :
    Calls Try.prog 10 #[.string s] w fun e w' => e = .returned v ∧ Below w.heap.size w w' := by
  have := rparse_any s w
  rw [h] at this
  exact this
theorem cnames_of {n : Int} {l : List ByteArray} (h : namesF n = l) (w : World) :
    Calls Try.prog 11 #[.int .i64 n] w fun e w' => ∃ A, e = .returned (.slice A l.length l.length) ∧ Hid (Strs w.heap.size A l w') ∧ Hid (Free w w') ∧ Below w.heap.size w w' := by
  have := cnames_any n w
  rw [h] at this
  exact this
theorem rnames_of {n : Int} {l : List ByteArray} (h : namesF n = l) (w : World) :
    Calls Try.prog 8 #[.int .i64 n] w fun e w' => ∃ A, e = .returned (.slice A l.length l.length) ∧ Hid (Strs w.heap.size A l w') ∧ Below w.heap.size w w' := by
  have := rnames_any n w
  rw [h] at this
  exact this
theorem rnot_of {n m : Int} (h : notF n = m) (hn : I64 n) (w : World) :
    Calls Try.prog 16 #[.int .i64 n] w fun e w' => e = .returned (.int .i64 m) ∧ w = w' := by
  have := rnot_any n w hn
  rw [h] at this
  exact this
theorem rswap_of {n m : Int} (h : swapF n = m) (w : World) :
    Calls Try.prog 18 #[.int .i64 n] w fun e w' => e = .returned (.int .i64 m) ∧ w = w' := by
  have := rswap_any n w
  rw [h] at this
  exact this
theorem rholds_of {n : Int} {c z s o p b : Bool} (h : holdsF n c z s o p = b) (w : World) :
    Calls Try.prog 20 #[.int .i64 n, FL c z s o p] w fun e w' => e = .returned (.bool b) ∧ Below w.heap.size w w' := by
  have := rholds_any n c z s o p w
  rw [h] at this
  exact this
/-- The same two lists, the second one's reading told of an earlier world. -/
theorem same_of {B C : Nat} {A A' : Option Addr} {l : List ByteArray} {W w : World} (hs : Strs B A l w) (ht : Strs C A' l W) (hb : Below W.heap.size W w) (hl : l.length ≤ 3) :
    Calls Try.prog 12 #[.slice A l.length l.length, .slice A' l.length l.length] w fun e w' => e = .returned (.bool true) ∧ Below w.heap.size w w' :=
  same_texts B C A A' l w hs (ht.below hb) hl
set_option maxHeartbeats 1000000 in
set_option maxRecDepth 100000 in
theorem tells_law (n : Int) (t : ByteArray) (c z s o p : Bool) (w : World) (hn : I64 n) :
    Calls Try.prog 3 #[.int .i64 n, .string t, FL c z s o p] w fun e w' => e = .returned (.bool true) ∧ Below w.heap.size w w' := by
  by_cases hsz : 100 < t.size
  · have h100 : (100 : Int) < (t.size : Int) := by omega
    go_enter Try.func3, Try.ntmps3
    go_wp2_with fail
    go_ret
    exact ⟨rfl, by go_grown⟩
  · have h100 : ¬ ((100 : Int) < (t.size : Int)) := by omega
    obtain ⟨l, hl⟩ : ∃ l, namesF n = l := ⟨_, rfl⟩
    have hf := namesF_facts n
    rw [hl] at hf
    obtain ⟨hl3, hls⟩ := hf
    have el : (0 : Int) ≤ (l.length : Int) := by omega
    obtain ⟨m, hm⟩ : ∃ m, notF n = m := ⟨_, rfl⟩
    obtain ⟨q, hq⟩ : ∃ q, swapF n = q := ⟨_, rfl⟩
    obtain ⟨b, hb⟩ : ∃ b, holdsF n c z s o p = b := ⟨_, rfl⟩
    obtain ⟨i, y, hv⟩ := PV_out (parseF t)
    have HL := hid hl
    have HM := hid hm
    have HQ := hid hq
    have HH := hid hb
    have HV := hid hv
    have HZ := hid hls
    have HI := hid hn
    have HO := hid (show ownF n = l.headD ByteArray.empty by rw [ownF, hl])
    clear hl hm hq hb hv hls hn
    go_enter Try.func3, Try.ntmps3
    go_wp2_with fail
    refine (rnames_of HL.out _).mono ?_
    rintro e w1 ⟨A, rfl, HA, hb1⟩
    have hz1 : w.heap.size < w1.heap.size := by have := hb1.size; simp at this; omega
    obtain ⟨hc, _⟩ := bcell hb1
    have q0 := hc w.heap.size 0 (by simp)
    have q1 := hc w.heap.size 1 (by simp)
    have q2 := hc w.heap.size 2 (by simp)
    have q3 := hc w.heap.size 3 (by simp)
    have q4 := hc w.heap.size 4 (by simp)
    simp at q0 q1 q2 q3 q4
    have HB1 := hid (((Below.refl _ _).alloc (Nat.le_refl _) _).trans (hb1.mono (by simp)))
    have HC1 := hid (show Below w1.heap.size w1 w1 ∧ w1.cell? ⟨w.heap.size, 0, none⟩ = some (.bool c) ∧ w1.cell? ⟨w.heap.size, 1, none⟩ = some (.bool z) ∧ w1.cell? ⟨w.heap.size, 2, none⟩ = some (.bool s) ∧ w1.cell? ⟨w.heap.size, 3, none⟩ = some (.bool o) ∧ w1.cell? ⟨w.heap.size, 4, none⟩ = some (.bool p) from ⟨Below.refl _ _, q0, q1, q2, q3, q4⟩)
    have HZ1 := hid hz1
    clear hc hb1 q0 q1 q2 q3 q4 hz1
    have HD := hid (show Below w1.heap.size w1 w1 from Below.refl _ _)
    go_upto_if 22 with fail
    go_cut [8] (fun s8 wx => s8 = .string (l.headD ByteArray.empty) ∧ wx = w1)
    case first =>
      rcases HA.out with ⟨hl0, rfl⟩ | ⟨h, rfl, _, hrow⟩
      · have hlen : (l.length : Int) = 0 := by rw [hl0]; rfl
        have HL0 := hid hl0
        clear hl0
        go_wp2_with fail
        go_meet
        exact ⟨by rw [HL0.out]; rfl, rfl⟩
      · cases hl0 : l with
        | nil =>
          subst hl0
          go_wp2_with fail
          go_meet
          exact ⟨rfl, rfl⟩
        | cons a r =>
          have hcell := hrow.2 0 a (by rw [hl0]; rfl)
          have HR := hid hrow
          have hpos : (0 : Int) < ((a :: r).length : Int) := by simp
          subst hl0
          clear hrow
          go_wp2_with fail
          go_meet
          exact ⟨rfl, rfl⟩
    case rest =>
      obtain ⟨rfl, rfl⟩ := hcut
      go_wp2_with fail
      refine (parse_of HV.out _).mono ?_
      rintro e w2 ⟨rfl, hb2⟩
      have D2 := hid hb2
      clear hb2
      go_wp2_with fail
      refine (rparse_of HV.out _).mono ?_
      rintro e w3 ⟨rfl, hb3⟩
      have D3 := hid (D2.out.trans (hb3.mono D2.out.size))
      clear hb3
      go_wp2_with fail
      refine (cnames_of HL.out _).mono ?_
      rintro e w4 ⟨A', rfl, HS4, HF4, hb4⟩
      have HB4 := hid hb4
      have HA3 := hid (HA.out.below D3.out)
      clear hb4
      go_wp2_with fail
      refine (same_texts_heap _ _ A' A l _ HS4.out (HA3.out.below HB4.out) hl3).mono ?_
      rintro e w5 ⟨rfl, hb5, he5⟩
      have HB5 := hid (HB4.out.trans (hb5.mono HB4.out.size))
      have HS5 := hid (HS4.out.below hb5)
      have HF5 := hid (HF4.out.heap he5)
      clear hb5 he5
      go_wp2_with fail
      refine (over_texts w3.heap.size A' l _ HS5.out HF5.out hl3 HZ.out).mono ?_
      rintro e w6 ⟨rfl, hb6⟩
      have HB6 := hid (HB5.out.trans hb6)
      have D6 := hid (D3.out.trans (HB6.out.mono D3.out.size))
      have HA6 := hid (HA3.out.below HB6.out)
      clear hb6
      have hz6 : w.heap.size < w6.heap.size := Nat.lt_of_lt_of_le HZ1.out D6.out.size
      obtain ⟨_, q0, q1, q2, q3, q4⟩ := boxed5 HC1.out D6.out HZ1.out
      have hS : Below w6.heap.size w6 w6 ∧ w6.cell? ⟨w.heap.size, 0, none⟩ = some (.bool c) ∧ w6.cell? ⟨w.heap.size, 1, none⟩ = some (.bool z) ∧ w6.cell? ⟨w.heap.size, 2, none⟩ = some (.bool s) ∧ w6.cell? ⟨w.heap.size, 3, none⟩ = some (.bool o) ∧ w6.cell? ⟨w.heap.size, 4, none⟩ = some (.bool p) := ⟨Below.refl _ _, q0, q1, q2, q3, q4⟩
      clear q0 q1 q2 q3 q4
      have HFin := hid (HB1.out.trans (D6.out.mono HB1.out.size))
      generalize hg : w.heap.size = g at *
      have HG := hid hg
      clear hg
      go_wp2_with fail
      go_region_held3 (fun w' => Below w6.heap.size w6 w' ∧ w'.cell? ⟨g, 0, none⟩ = some (.bool c) ∧ w'.cell? ⟨g, 1, none⟩ = some (.bool z) ∧ w'.cell? ⟨g, 2, none⟩ = some (.bool s) ∧ w'.cell? ⟨g, 3, none⟩ = some (.bool o) ∧ w'.cell? ⟨g, 4, none⟩ = some (.bool p)) (first | assumption | exact boxed5_drew ‹_› | (refine boxed5 ?_ (by assumption) hz6; assumption))
        (first | (go_at_call 11; refine (cnames_of HL.out _).mono ?_; rintro e w2 ⟨A2, rfl, HS2, _, hbel⟩) | (go_at_call 12; refine (same_of HS2.out HA6.out ?_ hl3).mono ?_; (apply And.left; assumption); rintro e w2 ⟨rfl, hbel⟩) | (go_at_call 14; refine (cname_of HO.out _).mono ?_; rintro e w2 ⟨rfl, hbel⟩) | (go_at_call 15; refine (not_of HM.out _).mono ?_; rintro e w2 ⟨rfl, rfl⟩) | (go_at_call 16; refine (rnot_of HM.out HI.out _).mono ?_; rintro e w2 ⟨rfl, rfl⟩) | (go_at_call 17; refine (swap_of HQ.out _).mono ?_; rintro e w2 ⟨rfl, rfl⟩) | (go_at_call 18; refine (rswap_of HQ.out _).mono ?_; rintro e w2 ⟨rfl, rfl⟩) | (go_at_call 19; refine (holds_of HH.out _).mono ?_; rintro e w2 ⟨rfl, hbel⟩) | (go_at_call 20; refine (rholds_of HH.out _).mono ?_; rintro e w2 ⟨rfl, hbel⟩) | (go_at_call 21; refine (awake_any _).mono ?_; rintro e w2 ⟨rfl, hbel⟩))
      have hk := (‹Below w6.heap.size w6 _ ∧ _ ∧ _›).1
      go_wp2
      go_ret
      exact ⟨rfl, by rw [HG.out]; exact HFin.out.trans (hk.mono (Nat.le_of_lt hz6))⟩
end Go.Proofs.Ytaofkklpbjpjlaa
