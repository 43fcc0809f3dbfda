/-
  The walk of CondNames.
-/
import Derived.Test.YtaofkklpbjpjlaaCondTells
import Derived.Deep.DeepCutAuto
namespace Go.Proofs.Ytaofkklpbjpjlaa
open Go.RowKit

theorem NB_parse (k : Nat) (hk : k < 16) : ∀ t ∈ NB k, parseF t = some k := by
  have : ∀ k : Fin 16, ∀ t ∈ NB k.val, parseF t = some k.val := by decide +kernel
  exact this ⟨k, hk⟩
theorem NB_full (k : Nat) (hk : k < 16) : ∀ t ∈ NB k, t.toList.isEmpty = false := by
  have : ∀ k : Fin 16, ∀ t ∈ NB k.val, t.toList.isEmpty = false := by decide +kernel
  exact this ⟨k, hk⟩
theorem NB_apart (k j : Nat) (hk : k < 16) (hj : j < 16) (h : k ≠ j) : ∀ t ∈ NB k, ∀ u ∈ NB j, (t.toList == u.toList) = false := by
  have : ∀ k j : Fin 16, k.val ≠ j.val → ∀ t ∈ NB k.val, ∀ u ∈ NB j.val, (t.toList == u.toList) = false := by decide +kernel
  exact this ⟨k, hk⟩ ⟨j, hj⟩ h
theorem names_apart {n m : Int} (h : n ≠ m) {t u : ByteArray} (ht : t ∈ namesF n) (hu : u ∈ namesF m) : (t.toList == u.toList) = false := by
  cases h1 : isF n
  · simp [namesF, h1] at ht
  · cases h2 : isF m
    · simp [namesF, h2] at hu
    · obtain ⟨k, rfl, hk⟩ := isF_nat h1
      obtain ⟨j, rfl, hj⟩ := isF_nat h2
      rw [namesF_in hk] at ht
      rw [namesF_in hj] at hu
      exact NB_apart k j hk hj (by omega) t ht u hu
theorem boxed1 {W w' w'' : World} {g i : Nat} {v : Value} (h : Below W.heap.size W w' ∧ w'.cell? ⟨g, i, none⟩ = some v) (hb : Below w'.heap.size w' w'') (hg : g < W.heap.size) : Below W.heap.size W w'' ∧ w''.cell? ⟨g, i, none⟩ = some v := by
  have hs := h.1.size
  exact ⟨h.1.trans (hb.mono hs), by rw [hb.cell (p := ⟨g, i, none⟩) (show g < w'.heap.size by omega)]; exact h.2⟩
theorem boxed1_drew {W w' : World} {g i : Nat} {v : Value} (h : Below W.heap.size W w' ∧ w'.cell? ⟨g, i, none⟩ = some v) : Below W.heap.size W w'.drew ∧ w'.drew.cell? ⟨g, i, none⟩ = some v := ⟨h.1.drew, h.2⟩
set_option maxHeartbeats 400000 in
set_option maxRecDepth 100000 in
theorem names_out (n m : Int) (w : World) (h : isF n = false) :
    Calls Try.prog 5 #[.int .i64 n, .int .i64 m] w fun e w' => e = .returned (.bool true) ∧ Below w.heap.size w w' := by
  have HL := hid (show namesF n = [] by simp [namesF, h])
  obtain ⟨l2, hl2⟩ : ∃ l, namesF m = l := ⟨_, rfl⟩
  have HL2 := hid hl2
  clear hl2
  rcases (show (decide (n < 0) = true) ∨ (decide (n < 0) = false ∧ decide (15 < n) = true) by have := isF_no h; simp; omega) with d1 | ⟨d1, d2⟩
  all_goals
    clear h
    go_enter Try.func5, Try.ntmps5
    go_wp2_with fail
    refine (awake_any _).mono ?_
    rintro e w1 ⟨rfl, hb1⟩
    have B1 := hid hb1
    clear hb1
    go_wp2_with fail
    refine (cnames_of HL.out _).mono ?_
    rintro e w2 ⟨A, rfl, _, _, hb2⟩
    have B2 := hid (B1.out.trans (hb2.mono B1.out.size))
    clear hb2
    go_wp2_with fail
    refine (cnames_of HL2.out _).mono ?_
    rintro e w3 ⟨A2, rfl, _, _, hb3⟩
    have B3 := hid (B2.out.trans (hb3.mono B2.out.size))
    clear hb3
    go_wp2_with fail
    go_quiet (fail)
    go_wp2
    have B4 := hid (bdrewN B3.out nq)
    go_loopw [8] (fun i wr => i = .int .i64 0 ∧ Hid (Below w.heap.size w wr)) (fun _ _ => 0)
    case atStart => exact ⟨rfl, B4⟩
    case round =>
      obtain ⟨rfl, HB⟩ := hrel
      go_wp2_with fail
      go_ret
      exact ⟨rfl, HB.out⟩
theorem names_in_facts {n : Int} (h : isF n = true) : ∃ a r, namesF n = a :: r ∧ ownF n = a ∧ (∀ t ∈ namesF n, PV (parseF t) = .tuple #[.int .i64 n, .bool true]) ∧ (∀ t ∈ namesF n, t.toList.isEmpty = false) := by
  obtain ⟨k, rfl, hk⟩ := isF_nat h
  have hl := (NB_length k hk).1
  simp only [ownF, namesF_in hk]
  cases hN : NB k with
  | nil => rw [hN] at hl; simp at hl
  | cons a r =>
    refine ⟨a, r, rfl, rfl, fun t ht => ?_, fun t ht => ?_⟩
    · rw [NB_parse k hk t (by rw [hN]; exact ht)]
    · exact NB_full k hk t (by rw [hN]; exact ht)
set_option maxHeartbeats 400000 in
set_option maxRecDepth 100000 in
theorem names_in (n m : Int) (w : World) (h : isF n = true) :
    Calls Try.prog 5 #[.int .i64 n, .int .i64 m] w fun e w' => e = .returned (.bool true) ∧ Below w.heap.size w w' := by
  obtain ⟨a, r, hl, ho, hp, he⟩ := names_in_facts h
  have hap : n ≠ m → ∀ t ∈ namesF n, ∀ u ∈ namesF m, (t.toList == u.toList) = false := fun hne t ht u hu => names_apart hne ht hu
  obtain ⟨l, hll⟩ : ∃ l, namesF n = l := ⟨_, rfl⟩
  obtain ⟨l2, hl2⟩ : ∃ l, namesF m = l := ⟨_, rfl⟩
  rw [hll, hl2] at hap
  rw [hll] at hp he hl
  have hpos : (0 : Int) < (l.length : Int) := by rw [hl]; simp
  have hpos2 : ((l.length : Int) == 0) = false := by rw [hl]; simp; omega
  have d3 : decide ((0 : Int) < (l.length : Int)) = true := by simpa using hpos
  have d4 : decide (0 < l.length) = true := by simpa using hpos
  have hposN : 0 < l.length := by omega
  have el2 : (0 : Int) ≤ (l2.length : Int) := by omega
  have h0 : l[0]? = some a := by rw [hl]; rfl
  have d1 : decide (n < 0) = false := by simp [isF] at h; simp; omega
  have d2 : decide (15 < n) = false := by simp [isF] at h; simp; omega
  have hself : (a.toList != a.toList) = false := by simp
  have HLL := hid hll
  have HL2 := hid hl2
  have HO := hid ho
  have HP := hid hp
  have HE := hid he
  have HAP := hid hap
  have H0 := hid h0
  have hl3 : (l.length : Int) ≤ 3 := by have := (namesF_facts n).1; rw [hll] at this; omega
  have hl4 : (l2.length : Int) ≤ 3 := by have := (namesF_facts m).1; rw [hl2] at this; omega
  clear h hl hll hl2 ho hp he hap h0
  go_enter Try.func5, Try.ntmps5
  go_wp2_with fail
  refine (awake_any _).mono ?_
  rintro e w1 ⟨rfl, hb1⟩
  have B1 := hid hb1
  clear hb1
  go_wp2_with fail
  refine (cnames_of HLL.out _).mono ?_
  rintro e w2 ⟨A, rfl, HS2, _, hb2⟩
  have B2 := hid (B1.out.trans (hb2.mono B1.out.size))
  clear hb2
  go_wp2_with fail
  refine (cnames_of HL2.out _).mono ?_
  rintro e w3 ⟨A2, rfl, HS3, _, hb3⟩
  have B3 := hid (B2.out.trans (hb3.mono B2.out.size))
  have HSA := hid (HS2.out.below hb3)
  clear hb3
  rcases HSA.out with ⟨hn, _⟩ | ⟨g, rfl, _, hrow⟩
  · rw [hn] at hpos; simp at hpos
  have HROW := hid hrow
  have hg := hrow.1
  have hc0 := hrow.2 0 a H0.out
  have hS : Below w3.heap.size w3 w3 ∧ w3.cell? ⟨g, 0, none⟩ = some (.string a) := ⟨Below.refl _ _, hc0⟩
  clear hrow hc0
  go_upto_region 3 with fail
  go_cut [39] (fun s39 wx => s39 = .bool false ∧ Hid (Below w3.heap.size w3 wx))
  case first =>
    go_region_held3 (fun w' => Below w3.heap.size w3 w' ∧ w'.cell? ⟨g, 0, none⟩ = some (.string a)) (first | assumption | exact boxed1_drew ‹_› | (refine boxed1 ?_ (by assumption) hg; assumption))
      (first | (go_at_call 14; with_reducible refine (cname_of HO.out _).mono ?_; rintro e w4 ⟨rfl, hbel⟩))
    all_goals
      have hk := hid (‹Below w3.heap.size w3 _ ∧ _›).1
      go_wp2_with fail
      go_meet
      exact ⟨rfl, hk⟩
  case rest =>
    obtain ⟨rfl, HW⟩ := hcut
    clear d3 d4 hpos hpos2 hposN
    have el1 : (0 : Int) ≤ (l.length : Int) := by omega
    go_wp2_with fail
    go_loopw [8] (fun i wr => ∃ j : Nat, j ≤ l.length ∧ i = .int .i64 j ∧ Hid (Below w3.heap.size w3 wr)) (fun i _ => l.length - (intOf i).toNat)
    case atStart => exact ⟨0, by omega, rfl, HW⟩
    case round =>
      obtain ⟨j, hj, rfl, HB⟩ := hrel
      by_cases hlt : j < l.length
      · obtain ⟨t, ht⟩ : ∃ t, l[j]? = some t := ⟨_, List.getElem?_eq_getElem hlt⟩
        have hmem := hid (List.mem_of_getElem? ht)
        have HT := hid ht
        have hcell := (HROW.out.below HB.out).2 j t ht
        have hfull := HE.out t hmem.out
        clear ht
        go_wp2_with (go_at_call 9; refine (parse_of (HP.out t hmem.out) _).mono ?_; rintro e w4 ⟨rfl, hb4⟩; have HB4 := hid (HB.out.trans (hb4.mono HB.out.size)); have hc4 := (HROW.out.below HB4.out).2 j t HT.out; clear hb4)
        clear hc4 hcell hfull
        go_loopw [11] (fun i wr => ∃ q : Nat, q ≤ l2.length ∧ i = .int .i64 q ∧ Hid (Below w3.heap.size w3 wr)) (fun i _ => l2.length - (intOf i).toNat)
        case atStart => exact ⟨0, by omega, rfl, HB4⟩
        case round =>
          obtain ⟨q, hq, rfl, HB5⟩ := hrel
          by_cases hqt : q < l2.length
          · by_cases hnm : n = m
            · have hne : (n != m) = false := by simp [hnm]
              have HNM := hid hnm
              clear hnm
              go_wp2_with fail
              go_quiet (fail)
              go_wp2
              go_roundw
              case rel => exact ⟨q + 1, by omega, by go_num, hid (bdrewN HB5.out _)⟩
              case measure => simp [intOf]; omega
            · have hne : (n != m) = true := by simp [hnm]
              obtain ⟨u, hu⟩ : ∃ u, l2[q]? = some u := ⟨_, List.getElem?_eq_getElem hqt⟩
              have hc5 := (HROW.out.below HB5.out).2 j t HT.out
              rcases HS3.out.below HB5.out with ⟨hn0, _⟩ | ⟨g2, rfl, _, hrow2⟩
              · rw [hn0] at hqt; simp at hqt
              have hc6 := hrow2.2 q u hu
              have htu := HAP.out hnm t hmem.out u (List.mem_of_getElem? hu)
              have HNM := hid hnm
              clear hnm hu hrow2
              go_wp2_with fail
              go_quiet (fail)
              go_wp2
              go_roundw
              case rel => exact ⟨q + 1, by omega, by go_num, hid (bdrewN HB5.out _)⟩
              case measure => simp [intOf]; omega
          · go_wp2_with fail
            go_roundw
            case rel => exact ⟨j + 1, by omega, by go_num, HB5⟩
            case measure => simp [intOf]; omega
      · go_wp2_with fail
        go_ret
        exact ⟨rfl, B3.out.trans (HB.out.mono B3.out.size)⟩
theorem names_law (n m : Int) (w : World) :
    Calls Try.prog 5 #[.int .i64 n, .int .i64 m] w fun e w' => e = .returned (.bool true) ∧ Below w.heap.size w w' := by
  cases h : isF n
  · exact names_out n m w h
  · exact names_in n m w h
end Go.Proofs.Ytaofkklpbjpjlaa
