/-
  Instructions, plainly: which may be; and the document's Check.
-/
import Derived.Test.YtmlmdbholakioaaInstPtr
namespace Go.Proofs.Ytmlmdbholakioaa
open Go.RowKit

/-- The error of the first operand that may not be. -/
def firstE : List Ar → Int
  | [] => 0
  | a :: r => if argF a = 0 then firstE r else argF a
theorem drop_at {l : List Ar} {k : Nat} {a : Ar} (h : l[k]? = some a) : l.drop k = a :: l.drop (k + 1) := by
  obtain ⟨hk, rfl⟩ := List.getElem?_eq_some_iff.1 h
  exact List.drop_eq_getElem_cons hk
theorem firstE_at {l : List Ar} {k : Nat} {a : Ar} (h : l[k]? = some a) : firstE (l.drop k) = if argF a = 0 then firstE (l.drop (k + 1)) else argF a := by
  rw [drop_at h]; rfl
theorem firstE_end (l : List Ar) : firstE (l.drop l.length) = 0 := by simp [firstE]
theorem firstE_all {l : List Ar} (h : firstE l = 0) : ∀ a ∈ l, argF a = 0 := by
  induction l with
  | nil => intro a ha; cases ha
  | cons b r ih =>
    unfold firstE at h
    split at h
    · rename_i hb
      intro a ha
      rcases List.mem_cons.1 ha with rfl | ha
      · exact hb
      · exact ih h a ha
    · rename_i hb; exact absurd h hb
/-- The error of the first immediate that does not fit. -/
def immErr (b : Int) : List Ar → Int
  | [] => 0
  | a :: r => if a.k = 3 then (if immE a.n b = 0 then immErr b r else immE a.n b) else immErr b r
theorem immErr_at {l : List Ar} {k : Nat} {a : Ar} (b : Int) (h : l[k]? = some a) : immErr b (l.drop k) = if a.k = 3 then (if immE a.n b = 0 then immErr b (l.drop (k + 1)) else immE a.n b) else immErr b (l.drop (k + 1)) := by
  rw [drop_at h]; rfl
theorem immErr_end (b : Int) (l : List Ar) : immErr b (l.drop l.length) = 0 := by simp [immErr]
theorem immErr_none {b : Int} {l : List Ar} (h : manyF l 3 = 0) : immErr b l = 0 := by
  induction l with
  | nil => rfl
  | cons a r ih =>
    by_cases ha : a.k = 3
    · simp [manyF, ha] at h
    · have : manyF r 3 = 0 := by simpa [manyF, ha] using h
      unfold immErr; rw [if_neg ha]; exact ih this
theorem immErr_one {b : Int} {l : List Ar} (h : manyF l 3 = 1) {a : Ar} (hm : a ∈ l) (ha : a.k = 3) : immErr b l = immE a.n b := by
  induction l with
  | nil => cases hm
  | cons x r ih =>
    by_cases hx : x.k = 3
    · have h0 : manyF r 3 = 0 := by simpa [manyF, hx] using h
      have hax : a = x := by
        rcases List.mem_cons.1 hm with rfl | hr
        · rfl
        · have : 0 < manyF r 3 := List.countP_pos_iff.2 ⟨a, hr, by simp [ha]⟩
          omega
      subst hax
      unfold immErr
      rw [if_pos hx, immErr_none h0]
      split
      · rename_i h2; exact h2.symm
      · rfl
    · have h1 : manyF r 3 = 1 := by simpa [manyF, hx] using h
      unfold immErr
      rw [if_neg hx]
      rcases List.mem_cons.1 hm with rfl | hr
      · exact absurd ha hx
      · exact ih h1 hr
def twoOf (l : List Ar) : Bool := decide (1 < manyF l 2) || decide (1 < manyF l 3) || decide (1 < manyF l 4)
def instF (op : Int) (l : List Ar) : Int := if okF op then (if 4 < l.length then 3 else if firstE l = 0 then (if twoOf l then 2 else immErr (bitsF op l).1 l) else firstE l) else 6
theorem many_mono (l : List Ar) (k : Nat) (kd : Int) : manyF (l.take k) kd ≤ manyF l kd := List.Sublist.countP_le (List.take_sublist k l)
theorem many_of {op kd t : Int} {A : Option Addr} {c : Nat} {l : List Ar} (h : (manyF l kd : Int) = t) (hl : l.length ≤ 100) (w : World) (hA : Args w w.heap.size A l) :
    Calls Try.prog 43 #[.agg #[.int .i64 op, .slice A l.length c], .int .i64 kd] w fun e w' => e = .returned (.int .i64 t) ∧ Below w.heap.size w w' := by
  rw [← h]; exact many_any op A c l kd hl w hA
set_option maxHeartbeats 2000000 in
theorem rinst_check {op : Int} {A : Option Addr} {c : Nat} {l : List Ar} (hl : l.length ≤ 9) (hf : Fine l) (w : World) (hA : Args w w.heap.size A l) :
    Calls Try.prog 13 #[.agg #[.int .i64 op, .slice A l.length c]] w fun e w' => e = .returned (.int .i64 (instF op l)) ∧ Below w.heap.size w w' := by
  have HA := hid hA
  have HFi := hid hf
  clear hA hf
  cases hv : okF op
  · have HV := hid hv
    have HI := hid (show instF op l = 6 by simp [instF, hv])
    rw [HI.out]
    clear hv
    go_enter Try.func13, Try.ntmps13
    go_wp2_with (go_at_call 39; refine (ropvalid_of HV.out _).mono ?_; rintro e w1 ⟨rfl, rfl⟩)
    go_returns
    exact ⟨rfl, by go_grown⟩
  have HV := hid hv
  by_cases h4 : 4 < l.length
  · have HI := hid (show instF op l = 3 by simp [instF, hv, h4])
    rw [HI.out]
    clear hv
    go_enter Try.func13, Try.ntmps13
    go_wp2_with (go_at_call 39; refine (ropvalid_of HV.out _).mono ?_; rintro e w1 ⟨rfl, rfl⟩)
    go_returns
    exact ⟨rfl, by go_grown⟩
  have HI := hid (show instF op l = if firstE l = 0 then (if twoOf l then 2 else immErr (bitsF op l).1 l) else firstE l by simp [instF, hv, h4])
  clear hv
  have HO := hid ((Own.nil w).alloc w.heap.size #[.int .i64 op, .slice A l.length c] 24 rfl)
  go_enter Try.func13, Try.ntmps13
  go_wp2_with (go_at_call 39; refine (ropvalid_of HV.out _).mono ?_; rintro e w1 ⟨rfl, rfl⟩)
  go_loopw [3] (fun i wr => ∃ k : Nat, k ≤ l.length ∧ i = .int .i64 k ∧ firstE (l.drop k) = firstE l ∧ Hid (Own w [⟨w.heap.size, #[.int .i64 op, .slice A l.length c], 24⟩] wr)) (fun i _ => l.length - (intOf i).toNat)
  case atStart => exact ⟨0, by omega, rfl, rfl, HO⟩
  case round =>
    clear HO
    obtain ⟨k, hk, rfl, hfirst, HO⟩ := hrel
    have HF := hid hfirst
    clear hfirst
    have c0 := HO.out.c
    have z0 := HO.out.z
    by_cases hlt : k < l.length
    · obtain ⟨a, ha⟩ : ∃ a, l[k]? = some a := ⟨_, List.getElem?_eq_getElem hlt⟩
      rcases HA.out.below HO.out.below with h0 | ⟨b, off, rfl, hb, hc⟩
      · rw [h0] at hlt; simp at hlt
      obtain ⟨q0, q1, q2, q3, q4, q5, q6, q7, q8, q9, q10⟩ := args_cells hc ha
      have HN := hid (firstE_at ha)
      clear hc ha
      by_cases he : argF a = 0
      · have HE := hid he
        have HM := hid (show firstE (l.drop (k + 1)) = firstE l by rw [← HF.out, HN.out, if_pos he])
        clear he
        go_wp2_with (go_at_call 42; refine (racheck_ar HE.out _).mono ?_; rintro e w1 ⟨rfl, hb1⟩; have HO := hid (HO.out.call hb1); clear hb1 c0 z0 q0 q1 q2 q3 q4 q5 q6 q7 q8 q9 q10; have c0 := HO.out.c; have z0 := HO.out.z)
        go_roundw
        case rel => exact ⟨k + 1, by omega, by go_num, HM.out, HO⟩
        case measure => simp [intOf]; omega
      · obtain ⟨e', he'⟩ : ∃ e', argF a = e' := ⟨_, rfl⟩
        have HE := hid he'
        have HM := hid (show firstE l = e' by rw [← HF.out, HN.out, if_neg he, he'])
        rw [he'] at he
        clear he'
        have hx : (e' != 0) = true := bne_iff_ne.2 he
        have HX := hid he
        clear he
        go_wp2_with (go_at_call 42; refine (racheck_ar HE.out _).mono ?_; rintro e w1 ⟨rfl, hb1⟩; have HO := hid (HO.out.call hb1); clear hb1 c0 z0 q0 q1 q2 q3 q4 q5 q6 q7 q8 q9 q10; have c0 := HO.out.c; have z0 := HO.out.z)
        go_ret
        exact ⟨ret_i (by rw [HI.out, HM.out, if_neg HX.out]), HO.out.below⟩
    · have hkl : k = l.length := by omega
      have H0 := hid (show firstE l = 0 by rw [← HF.out, hkl]; exact firstE_end l)
      clear HF hk hlt
      subst hkl
      have HAr := hid (HA.out.below HO.out.below)
      obtain ⟨t2, hm2⟩ : ∃ t, (manyF l 2 : Int) = t := ⟨_, rfl⟩
      obtain ⟨t3, hm3⟩ : ∃ t, (manyF l 3 : Int) = t := ⟨_, rfl⟩
      obtain ⟨t4, hm4⟩ : ∃ t, (manyF l 4 : Int) = t := ⟨_, rfl⟩
      have M2 := hid hm2
      have M3 := hid hm3
      have M4 := hid hm4
      have HT := hid (show twoOf l = (decide (1 < t2) || decide (1 < t3) || decide (1 < t4)) by
        unfold twoOf; rw [← hm2, ← hm3, ← hm4]; simp only [← Int.ofNat_lt]; rfl)
      clear hm2 hm3 hm4
      by_cases h2 : 1 < t2
      · have HX := hid (show twoOf l = true by rw [HT.out]; simp [h2])
        go_wp2_with fail
        refine (many_of M2.out (by omega) _ (HAr.out.mono HO.out.below.size)).mono ?_
        rintro e w1 ⟨rfl, hb1⟩
        have HAr := hid (HAr.out.below (hb1.mono (by have := HO.out.below.size; omega)))
        have HO := hid (HO.out.call hb1)
        clear hb1 c0 z0
        have c0 := HO.out.c
        have z0 := HO.out.z
        go_wp2_with fail
        go_ret
        exact ⟨ret_i (by rw [HI.out, if_pos H0.out, if_pos HX.out]), HO.out.below⟩
      by_cases h3 : 1 < t3
      · have HX := hid (show twoOf l = true by rw [HT.out]; simp [h3])
        go_wp2_with fail
        refine (many_of M2.out (by omega) _ (HAr.out.mono HO.out.below.size)).mono ?_
        rintro e w1 ⟨rfl, hb1⟩
        have HAr := hid (HAr.out.below (hb1.mono (by have := HO.out.below.size; omega)))
        have HO := hid (HO.out.call hb1)
        clear hb1 c0 z0
        have c0 := HO.out.c
        have z0 := HO.out.z
        go_wp2_with fail
        refine (many_of M3.out (by omega) _ (HAr.out.mono HO.out.below.size)).mono ?_
        rintro e w1 ⟨rfl, hb1⟩
        have HAr := hid (HAr.out.below (hb1.mono (by have := HO.out.below.size; omega)))
        have HO := hid (HO.out.call hb1)
        clear hb1 c0 z0
        have c0 := HO.out.c
        have z0 := HO.out.z
        go_wp2_with fail
        go_ret
        exact ⟨ret_i (by rw [HI.out, if_pos H0.out, if_pos HX.out]), HO.out.below⟩
      by_cases h4' : 1 < t4
      · have HX := hid (show twoOf l = true by rw [HT.out]; simp [h4'])
        go_wp2_with fail
        refine (many_of M2.out (by omega) _ (HAr.out.mono HO.out.below.size)).mono ?_
        rintro e w1 ⟨rfl, hb1⟩
        have HAr := hid (HAr.out.below (hb1.mono (by have := HO.out.below.size; omega)))
        have HO := hid (HO.out.call hb1)
        clear hb1 c0 z0
        have c0 := HO.out.c
        have z0 := HO.out.z
        go_wp2_with fail
        refine (many_of M3.out (by omega) _ (HAr.out.mono HO.out.below.size)).mono ?_
        rintro e w1 ⟨rfl, hb1⟩
        have HAr := hid (HAr.out.below (hb1.mono (by have := HO.out.below.size; omega)))
        have HO := hid (HO.out.call hb1)
        clear hb1 c0 z0
        have c0 := HO.out.c
        have z0 := HO.out.z
        go_wp2_with fail
        refine (many_of M4.out (by omega) _ (HAr.out.mono HO.out.below.size)).mono ?_
        rintro e w1 ⟨rfl, hb1⟩
        have HAr := hid (HAr.out.below (hb1.mono (by have := HO.out.below.size; omega)))
        have HO := hid (HO.out.call hb1)
        clear hb1 c0 z0
        have c0 := HO.out.c
        have z0 := HO.out.z
        go_wp2_with fail
        go_ret
        exact ⟨ret_i (by rw [HI.out, if_pos H0.out, if_pos HX.out]), HO.out.below⟩
      have HX := hid (show instF op l = immErr (bitsF op l).1 l by rw [HI.out, if_pos H0.out, if_neg (by rw [HT.out]; simp; omega)])
      obtain ⟨bb, hbb⟩ : ∃ bb, bitsF op l = bb := ⟨_, rfl⟩
      obtain ⟨x, s⟩ := bb
      have HBB := hid hbb
      rw [hbb] at HX
      clear hbb HI HT H0
      go_wp2_with fail
      refine (many_of M2.out (by omega) _ (HAr.out.mono HO.out.below.size)).mono ?_
      rintro e w1 ⟨rfl, hb1⟩
      have HAr := hid (HAr.out.below (hb1.mono (by have := HO.out.below.size; omega)))
      have HO := hid (HO.out.call hb1)
      clear hb1 c0 z0
      have c0 := HO.out.c
      have z0 := HO.out.z
      go_wp2_with fail
      refine (many_of M3.out (by omega) _ (HAr.out.mono HO.out.below.size)).mono ?_
      rintro e w1 ⟨rfl, hb1⟩
      have HAr := hid (HAr.out.below (hb1.mono (by have := HO.out.below.size; omega)))
      have HO := hid (HO.out.call hb1)
      clear hb1 c0 z0
      have c0 := HO.out.c
      have z0 := HO.out.z
      go_wp2_with fail
      refine (many_of M4.out (by omega) _ (HAr.out.mono HO.out.below.size)).mono ?_
      rintro e w1 ⟨rfl, hb1⟩
      have HAr := hid (HAr.out.below (hb1.mono (by have := HO.out.below.size; omega)))
      have HO := hid (HO.out.call hb1)
      clear hb1 c0 z0
      have c0 := HO.out.c
      have z0 := HO.out.z
      clear M2 M3 M4
      go_wp2_with fail
      go_loopw [5] (fun i wr => ∃ k : Nat, k ≤ l.length ∧ i = .int .i64 k ∧ immErr x (l.drop k) = immErr x l ∧ Hid (Own w [⟨w.heap.size, #[.int .i64 op, .slice A l.length c], 24⟩] wr)) (fun i _ => l.length - (intOf i).toNat)
      case atStart => exact ⟨0, by omega, rfl, rfl, HO⟩
      case round =>
        clear HO c0 z0 HAr
        obtain ⟨k, hk, rfl, hfirst, HO⟩ := hrel
        have HF := hid hfirst
        clear hfirst
        have c0 := HO.out.c
        have z0 := HO.out.z
        by_cases hlt : k < l.length
        · obtain ⟨a, ha⟩ : ∃ a, l[k]? = some a := ⟨_, List.getElem?_eq_getElem hlt⟩
          have HAr := hid ((HA.out.below HO.out.below).mono HO.out.below.size)
          rcases HA.out.below HO.out.below with h0 | ⟨b, off, rfl, hb, hc⟩
          · rw [h0] at hlt; simp at hlt
          obtain ⟨q0, q1, q2, q3, q4, q5, q6, q7, q8, q9, q10⟩ := args_cells hc ha
          have HN := hid (immErr_at x ha)
          have HG := hid (HFi.out.get ha).2
          clear hc ha
          have hbr := Nat.lt_of_lt_of_le hb HO.out.below.size
          by_cases h3 : a.k = 3
          · by_cases he : immE a.n x = 0
            · have HE := hid he
              have HM := hid (show immErr x (l.drop (k + 1)) = immErr x l by rw [← HF.out, HN.out, if_pos h3, if_pos he])
              clear he
              go_wp2_with fail
              refine (rbits_of HBB.out _ HAr.out).mono ?_
              rintro e w1 ⟨rfl, hb1⟩
              have r0 := (hb1.cell (p := ⟨b, off + k * 11 + 10, none⟩) hbr).trans q10
              have HO := hid (HO.out.call hb1)
              clear hb1 c0 z0 q0 q1 q2 q3 q4 q5 q6 q7 q8 q9 q10
              have c0 := HO.out.c
              have z0 := HO.out.z
              go_wp2_with fail
              refine (rimm_of (v := immV a.n x s) HG.out rfl HE.out _).mono ?_
              rintro e w2 ⟨rfl, rfl⟩
              go_wp2_with fail
              go_roundw
              case rel => exact ⟨k + 1, by omega, by go_num, HM.out, HO⟩
              case measure => simp [intOf]; omega
            · obtain ⟨e', he'⟩ : ∃ e', immE a.n x = e' := ⟨_, rfl⟩
              have HE := hid he'
              have HM := hid (show immErr x l = e' by rw [← HF.out, HN.out, if_pos h3, if_neg he, he'])
              rw [he'] at he
              have hx : (e' != 0) = true := bne_iff_ne.2 he
              clear he' he
              go_wp2_with fail
              refine (rbits_of HBB.out _ HAr.out).mono ?_
              rintro e w1 ⟨rfl, hb1⟩
              have r0 := (hb1.cell (p := ⟨b, off + k * 11 + 10, none⟩) hbr).trans q10
              have HO := hid (HO.out.call hb1)
              clear hb1 c0 z0 q0 q1 q2 q3 q4 q5 q6 q7 q8 q9 q10
              have c0 := HO.out.c
              have z0 := HO.out.z
              go_wp2_with fail
              refine (rimm_of (v := immV a.n x s) HG.out rfl HE.out _).mono ?_
              rintro e w2 ⟨rfl, rfl⟩
              go_wp2_with fail
              go_ret
              exact ⟨ret_i (by rw [HX.out, HM.out]), HO.out.below⟩
          · have HM := hid (show immErr x (l.drop (k + 1)) = immErr x l by rw [← HF.out, HN.out, if_neg h3])
            go_wp2_with fail
            go_roundw
            case rel => exact ⟨k + 1, by omega, by go_num, HM.out, HO⟩
            case measure => simp [intOf]; omega
        · have hkl : k = l.length := by omega
          have HM := hid (show immErr x l = 0 by rw [← HF.out, hkl]; exact immErr_end x l)
          clear HF hk hlt
          subst hkl
          go_wp2_with fail
          go_ret
          exact ⟨ret_i (by rw [HX.out, HM.out]), HO.out.below⟩
end Go.Proofs.Ytmlmdbholakioaa
