/-
  The program's Check of instructions: operands by pointers, the last one of each kind.
-/
import Derived.Test.YtmlmdbholakioaaInstPlain
import Derived.Deep.RegionWith
namespace Go.Proofs.Ytmlmdbholakioaa
open Go.RowKit

theorem Ptrs.below {base : Nat} {w w' : World} {P A : Option Addr} {n : Nat} (h : Ptrs base w P A n) (hb : Below w.heap.size w w') : Ptrs base w' P A n := by
  obtain ⟨pb, b, off, rfl, hA, hge, hlt, hc⟩ := h
  exact ⟨pb, b, off, rfl, hA, hge, Nat.lt_of_lt_of_le hlt hb.size, fun i hi => (hb.cell (p := ⟨pb, i, none⟩) hlt).trans (hc i hi)⟩
theorem Ptrs.set {base : Nat} {w : World} {P A : Option Addr} {n : Nat} (h : Ptrs base w P A n) (g o : Nat) (v : Value) (hne : ∀ pb, P = some ⟨pb, 0, none⟩ → pb ≠ g) : Ptrs base (w.setCell ⟨g, o, none⟩ v) P A n := by
  obtain ⟨pb, b, off, rfl, hA, hge, hlt, hc⟩ := h
  refine ⟨pb, b, off, rfl, hA, hge, by simpa using hlt, fun i hi => ?_⟩
  rw [World.cell?_of_block (w := w) (Below.heap_setCell w ⟨g, o, none⟩ v pb (hne pb rfl))]
  exact hc i hi
/-- What stands for the last operand of a kind. -/
def Last (l : List Ar) (k : Nat) (kd : Int) (b off : Nat) (p : Option Addr) : Prop :=
  (p = none ∧ manyF (l.take k) kd = 0) ∨ ∃ (j : Nat) (a : Ar), j < k ∧ l[j]? = some a ∧ a.k = kd ∧ p = some ⟨b, off + j * 11, none⟩ ∧ manyF (l.take k) kd = 1
theorem Last.other {l : List Ar} {k : Nat} {kd : Int} {b off : Nat} {p : Option Addr} {a : Ar} (h : Last l k kd b off p) (ha : l[k]? = some a) (hk : ¬ a.k = kd) : Last l (k + 1) kd b off p := by
  have hm : manyF (l.take (k + 1)) kd = manyF (l.take k) kd := by rw [manyF_next ha, if_neg hk]; rfl
  rcases h with ⟨rfl, h⟩ | ⟨j, x, hj, hx, hxk, rfl, h⟩
  · exact .inl ⟨rfl, hm.trans h⟩
  · exact .inr ⟨j, x, by omega, hx, hxk, rfl, hm.trans h⟩
theorem Last.this {l : List Ar} {k : Nat} {kd : Int} {b off : Nat} {a : Ar} (h : manyF (l.take k) kd = 0) (ha : l[k]? = some a) (hk : a.k = kd) : Last l (k + 1) kd b off (some ⟨b, off + k * 11, none⟩) :=
  .inr ⟨k, a, by omega, ha, hk, rfl, by rw [manyF_next ha, if_pos hk, h]⟩
theorem Last.start (l : List Ar) (kd : Int) (b off : Nat) : Last l 0 kd b off none := .inl ⟨rfl, by simp [manyF]⟩
theorem Last.le {l : List Ar} {k : Nat} {kd : Int} {b off : Nat} {p : Option Addr} (h : Last l k kd b off p) : manyF (l.take k) kd ≤ 1 := by
  rcases h with ⟨_, h⟩ | ⟨j, x, _, _, _, _, h⟩
  all_goals omega
theorem Last.none {l : List Ar} {k : Nat} {kd : Int} {b off : Nat} (h : Last l k kd b off none) : manyF (l.take k) kd = 0 := by
  rcases h with ⟨_, h⟩ | ⟨j, x, _, _, _, h, _⟩
  · exact h
  · cases h
theorem Last.twice {l : List Ar} {k : Nat} {kd : Int} {b off : Nat} {q : Addr} {a : Ar} (h : Last l k kd b off (some q)) (ha : l[k]? = some a) (hk : a.k = kd) : 1 < manyF l kd := by
  rcases h with ⟨h, _⟩ | ⟨j, x, _, _, _, _, h⟩
  · cases h
  · have h1 := many_mono l (k + 1) kd
    rw [manyF_next ha, if_pos hk, h] at h1
    omega
theorem kinds {a : Ar} (h : argF a = 0) : a.k = 1 ∨ a.k = 2 ∨ a.k = 3 ∨ a.k = 4 := by
  unfold argF at h
  by_cases h1 : a.k = 1
  · exact .inl h1
  by_cases h2 : a.k = 2
  · exact .inr (.inl h2)
  by_cases h3 : a.k = 3
  · exact .inr (.inr (.inl h3))
  by_cases h4 : a.k = 4
  · exact .inr (.inr (.inr h4))
  rw [if_neg h1, if_neg h2, if_neg h3, if_neg h4] at h
  cases h
set_option maxHeartbeats 2000000 in
theorem inst_check {op : Int} {A : Option Addr} {c : Nat} {l : List Ar} (hl : l.length ≤ 9) (hf : Fine l) (w : World) (hA : Args w w.heap.size A l) :
    Calls Try.prog 12 #[.agg #[.int .i64 op, .slice A l.length c]] w fun e w' => e = .returned (.int .i64 (instF op l)) ∧ Below w.heap.size w w' := by
  have HA := hid hA
  have HFi := hid hf
  clear hA hf
  cases hv : okF op
  · have HV := hid hv
    have HI := hid (show instF op l = 6 by simp [instF, hv])
    rw [HI.out]
    clear hv
    go_enter Try.func12, Try.ntmps12
    go_wp2_with (go_at_call 36; refine (opvalid_of HV.out _).mono ?_; rintro e w1 ⟨rfl, rfl⟩)
    go_returns
    exact ⟨rfl, by go_grown⟩
  have HV := hid hv
  by_cases h4 : 4 < l.length
  · have HI := hid (show instF op l = 3 by simp [instF, hv, h4])
    rw [HI.out]
    clear hv
    go_enter Try.func12, Try.ntmps12
    go_wp2_with (go_at_call 36; refine (opvalid_of HV.out _).mono ?_; rintro e w1 ⟨rfl, rfl⟩)
    go_returns
    exact ⟨rfl, by go_grown⟩
  have HI := hid (show instF op l = if firstE l = 0 then (if twoOf l then 2 else immErr (bitsF op l).1 l) else firstE l by simp [instF, hv, h4])
  clear hv
  obtain ⟨ab, ao, hA0⟩ : ∃ b off, l.length = 0 ∨ A = some ⟨b, off, none⟩ := by
    rcases HA.out with rfl | ⟨b, off, rfl, _⟩
    · exact ⟨0, 0, .inl rfl⟩
    · exact ⟨b, off, .inr rfl⟩
  have HA0 := hid hA0
  clear hA0
  go_enter Try.func12, Try.ntmps12
  go_wp2_with (go_at_call 36; refine (opvalid_of HV.out _).mono ?_; rintro e w1 ⟨rfl, rfl⟩)
  refine (pointers_any A l.length c (by omega) (by rcases HA0.out with h | h; (exact .inl h); exact .inr ⟨_, _, h⟩) _).mono ?_
  rintro e w1 ⟨P, cap, rfl, hb1, hp⟩
  have HO := hid (((Own.nil w).alloc w.heap.size #[.int .i64 op, .slice A l.length c] 24 rfl).call hb1)
  have HP := hid (show Ptrs (w.heap.size + 1) w1 P A l.length by simpa using hp)
  clear hb1 hp
  go_wp2_with fail
  go_loopw [28] (fun i wr => ∃ k : Nat, k ≤ l.length ∧ i = .int .i64 k ∧ firstE (l.drop k) = firstE l ∧ Hid (Own w [⟨w.heap.size, #[.int .i64 op, .slice A l.length c], 24⟩] wr) ∧ Hid (Ptrs (w.heap.size + 1) wr P A l.length)) (fun i _ => l.length - (intOf i).toNat)
  case atStart => exact ⟨0, by omega, rfl, rfl, HO, HP⟩
  case round =>
    clear HO HP
    obtain ⟨k, hk, rfl, hfirst, HO, HP⟩ := hrel
    have HF := hid hfirst
    clear hfirst
    by_cases hlt : k < l.length
    · obtain ⟨a, ha⟩ : ∃ a, l[k]? = some a := ⟨_, List.getElem?_eq_getElem hlt⟩
      rcases HA.out.below HO.out.below with h0 | ⟨b, off, rfl, hb, hc⟩
      · rw [h0] at hlt; simp at hlt
      obtain ⟨pb, b', off', rfl, hA', hge, hpb, hpc⟩ := HP.out
      obtain ⟨rfl, rfl⟩ : b' = b ∧ off' = off := by
        rcases hA' with h | h
        · omega
        · simp at h; exact ⟨h.1.symm, h.2.symm⟩
      have p0 := hpc k hlt
      obtain ⟨q0, q1, q2, q3, q4, q5, q6, q7, q8, q9, q10⟩ := args_cells hc ha
      have HN := hid (firstE_at ha)
      have HS := hid (HFi.out.get ha).1
      clear hc ha hpc hA' hge
      by_cases he : argF a = 0
      · have HE := hid he
        have HM := hid (show firstE (l.drop (k + 1)) = firstE l by rw [← HF.out, HN.out, if_pos he])
        clear he
        go_wp2_with (go_at_call 41; refine (acheck_ar HE.out HS.out _).mono ?_; rintro e w1 ⟨rfl, hb1⟩; have HO := hid (HO.out.call hb1); have HP := hid (HP.out.below hb1); clear hb1 p0 q0 q1 q2 q3 q4 q5 q6 q7 q8 q9 q10)
        go_roundw
        case rel => exact ⟨k + 1, by omega, by go_num, HM.out, HO, HP⟩
        case measure => simp [intOf]; omega
      · obtain ⟨e', he'⟩ : ∃ e', argF a = e' := ⟨_, rfl⟩
        have HE := hid he'
        have HM := hid (show firstE l = e' by rw [← HF.out, HN.out, if_neg he, he'])
        rw [he'] at he
        clear he'
        have hx : (e' != 0) = true := bne_iff_ne.2 he
        have HX := hid he
        clear he
        go_wp2_with (go_at_call 41; refine (acheck_ar HE.out HS.out _).mono ?_; rintro e w1 ⟨rfl, hb1⟩; have HO := hid (HO.out.call hb1); clear hb1 p0 q0 q1 q2 q3 q4 q5 q6 q7 q8 q9 q10)
        go_ret
        exact ⟨ret_i (by rw [HI.out, HM.out, if_neg HX.out]), HO.out.below⟩
    · have hkl : k = l.length := by omega
      have H0 := hid (show firstE l = 0 by rw [← HF.out, hkl]; exact firstE_end l)
      clear HF hk hlt
      subst hkl
      have HG := hid (show ∀ pb, P = some ⟨pb, 0, none⟩ → pb ≠ wr.heap.size by
        intro pb hpb
        obtain ⟨pb', _, _, h1, _, _, h2, _⟩ := HP.out
        rw [hpb] at h1
        simp at h1
        omega)
      have HO := hid (HO.out.alloc wr.heap.size #[.pointer none, .pointer none, .pointer none, .pointer none, .pointer none] 65 rfl)
      have HP := hid (HP.out.below ((Below.refl _ _).alloc (Nat.le_refl _) (.cells #[.pointer none, .pointer none, .pointer none, .pointer none, .pointer none] 65)))
      go_wp2_with fail
      generalize wr.heap.size = g at HG HO ⊢
      generalize wr.alloc (.cells #[.pointer none, .pointer none, .pointer none, .pointer none, .pointer none] 65) = W at HO HP ⊢
      go_loopw [42] (fun i wr => ∃ (k : Nat) (p1 p2 p3 p4 : Option Addr), k ≤ l.length ∧ i = .int .i64 k ∧ Hid (Last l k 2 ab ao p2 ∧ Last l k 3 ab ao p3 ∧ Last l k 4 ab ao p4) ∧ Hid (Own w [⟨g, #[.pointer none, .pointer p1, .pointer p2, .pointer p3, .pointer p4], 65⟩, ⟨w.heap.size, #[.int .i64 op, .slice A l.length c], 24⟩] wr) ∧ Hid (Ptrs (w.heap.size + 1) wr P A l.length)) (fun i _ => l.length - (intOf i).toNat)
      case atStart => exact ⟨0, none, none, none, none, by omega, rfl, hid ⟨Last.start l 2 ab ao, Last.start l 3 ab ao, Last.start l 4 ab ao⟩, HO, HP⟩
      case round =>
        clear HO HP
        obtain ⟨k, p1, p2, p3, p4, hk, rfl, HL, HO, HP⟩ := hrel
        have c0 := HO.out.c
        have f0 := HO.out.f
        have z0 := HO.out.z
        by_cases hlt : k < l.length
        · obtain ⟨a, ha⟩ : ∃ a, l[k]? = some a := ⟨_, List.getElem?_eq_getElem hlt⟩
          have ha0 := firstE_all H0.out a (List.mem_of_getElem? ha)
          obtain rfl : A = some ⟨ab, ao, none⟩ := by rcases HA0.out with h | h; (omega); exact h
          rcases HA.out.below HO.out.below with h0 | ⟨b, off, hA', hb, hc⟩
          · rw [h0] at hlt; simp at hlt
          obtain ⟨e1, e2⟩ : b = ab ∧ off = ao := by simp at hA'; exact ⟨hA'.1.symm, hA'.2.symm⟩
          rw [e1] at hb hc
          rw [e2] at hc
          obtain ⟨pb, b', off', rfl, hA2, hge, hpb, hpc⟩ := HP.out
          obtain ⟨e3, e4⟩ : b' = ab ∧ off' = ao := by
            rcases hA2 with h | h
            · omega
            · simp at h; exact ⟨h.1.symm, h.2.symm⟩
          rw [e3, e4] at hpc
          have hbr := Nat.lt_of_lt_of_le hb HO.out.below.size
          have p0 := hpc k hlt
          have q0 := (args_cells hc ha).1
          have hgb : ¬ ab = g := by have := HO.out.ge; omega
          clear hc hpc hA' hA2 e1 e2 e3 e4 b off b' off'
          rcases kinds ha0 with hk1 | hk2 | hk3 | hk4
          all_goals (first | rw [hk1] at q0 | rw [hk2] at q0 | rw [hk3] at q0 | rw [hk4] at q0)
          · have HLN := hid (show Last l (k + 1) 2 ab ao p2 ∧ Last l (k + 1) 3 ab ao p3 ∧ Last l (k + 1) 4 ab ao p4 from ⟨(HL.out.1).other ha (by omega), (HL.out.2.1).other ha (by omega), (HL.out.2.2).other ha (by omega)⟩)
            clear ha HL
            have HO1 := hid (show Own w [⟨g, #[.pointer none, .pointer (some ⟨ab, ao + k * 11, none⟩), .pointer p2, .pointer p3, .pointer p4], 65⟩, ⟨w.heap.size, #[.int .i64 op, .slice (some ⟨ab, ao, none⟩) l.length c], 24⟩] (wr.setCell ⟨g, 1, none⟩ (.pointer (some ⟨ab, ao + k * 11, none⟩))) from HO.out.set 1 _)
            have HP1 := hid (HP.out.set g 1 (.pointer (some ⟨ab, ao + k * 11, none⟩)) HG.out)
            go_wp2_with fail
            go_roundw
            case rel => exact ⟨k + 1, some ⟨ab, ao + k * 11, none⟩, p2, p3, p4, by omega, by go_num, HLN, HO1, HP1⟩
            case measure => simp [intOf]; omega
          · rcases p2 with _ | q
            · have HLN := hid (show Last l (k + 1) 2 ab ao (some ⟨ab, ao + k * 11, none⟩) ∧ Last l (k + 1) 3 ab ao p3 ∧ Last l (k + 1) 4 ab ao p4 from ⟨Last.this (Last.none HL.out.1) ha hk2, (HL.out.2.1).other ha (by omega), (HL.out.2.2).other ha (by omega)⟩)
              clear ha HL
              have HO1 := hid (show Own w [⟨g, #[.pointer none, .pointer p1, .pointer (some ⟨ab, ao + k * 11, none⟩), .pointer p3, .pointer p4], 65⟩, ⟨w.heap.size, #[.int .i64 op, .slice (some ⟨ab, ao, none⟩) l.length c], 24⟩] (wr.setCell ⟨g, 2, none⟩ (.pointer (some ⟨ab, ao + k * 11, none⟩))) from HO.out.set 2 _)
              have HP1 := hid (HP.out.set g 2 (.pointer (some ⟨ab, ao + k * 11, none⟩)) HG.out)
              go_wp2_with fail
              go_roundw
              case rel => exact ⟨k + 1, p1, some ⟨ab, ao + k * 11, none⟩, p3, p4, by omega, by go_num, HLN, HO1, HP1⟩
              case measure => simp [intOf]; omega
            · have HT := hid (show twoOf l = true by
                have := Last.twice HL.out.1 ha hk2
                unfold twoOf; simp [this])
              clear ha HL
              go_wp2_with fail
              go_ret
              exact ⟨ret_i (by rw [HI.out, if_pos H0.out, if_pos HT.out]), HO.out.below⟩
          · rcases p3 with _ | q
            · have HLN := hid (show Last l (k + 1) 2 ab ao p2 ∧ Last l (k + 1) 3 ab ao (some ⟨ab, ao + k * 11, none⟩) ∧ Last l (k + 1) 4 ab ao p4 from ⟨(HL.out.1).other ha (by omega), Last.this (Last.none HL.out.2.1) ha hk3, (HL.out.2.2).other ha (by omega)⟩)
              clear ha HL
              have HO1 := hid (show Own w [⟨g, #[.pointer none, .pointer p1, .pointer p2, .pointer (some ⟨ab, ao + k * 11, none⟩), .pointer p4], 65⟩, ⟨w.heap.size, #[.int .i64 op, .slice (some ⟨ab, ao, none⟩) l.length c], 24⟩] (wr.setCell ⟨g, 3, none⟩ (.pointer (some ⟨ab, ao + k * 11, none⟩))) from HO.out.set 3 _)
              have HP1 := hid (HP.out.set g 3 (.pointer (some ⟨ab, ao + k * 11, none⟩)) HG.out)
              go_wp2_with fail
              go_roundw
              case rel => exact ⟨k + 1, p1, p2, some ⟨ab, ao + k * 11, none⟩, p4, by omega, by go_num, HLN, HO1, HP1⟩
              case measure => simp [intOf]; omega
            · have HT := hid (show twoOf l = true by
                have := Last.twice HL.out.2.1 ha hk3
                unfold twoOf; simp [this])
              clear ha HL
              go_wp2_with fail
              go_ret
              exact ⟨ret_i (by rw [HI.out, if_pos H0.out, if_pos HT.out]), HO.out.below⟩
          · rcases p4 with _ | q
            · have HLN := hid (show Last l (k + 1) 2 ab ao p2 ∧ Last l (k + 1) 3 ab ao p3 ∧ Last l (k + 1) 4 ab ao (some ⟨ab, ao + k * 11, none⟩) from ⟨(HL.out.1).other ha (by omega), (HL.out.2.1).other ha (by omega), Last.this (Last.none HL.out.2.2) ha hk4⟩)
              clear ha HL
              have HO1 := hid (show Own w [⟨g, #[.pointer none, .pointer p1, .pointer p2, .pointer p3, .pointer (some ⟨ab, ao + k * 11, none⟩)], 65⟩, ⟨w.heap.size, #[.int .i64 op, .slice (some ⟨ab, ao, none⟩) l.length c], 24⟩] (wr.setCell ⟨g, 4, none⟩ (.pointer (some ⟨ab, ao + k * 11, none⟩))) from HO.out.set 4 _)
              have HP1 := hid (HP.out.set g 4 (.pointer (some ⟨ab, ao + k * 11, none⟩)) HG.out)
              go_wp2_with fail
              go_roundw
              case rel => exact ⟨k + 1, p1, p2, p3, some ⟨ab, ao + k * 11, none⟩, by omega, by go_num, HLN, HO1, HP1⟩
              case measure => simp [intOf]; omega
            · have HT := hid (show twoOf l = true by
                have := Last.twice HL.out.2.2 ha hk4
                unfold twoOf; simp [this])
              clear ha HL
              go_wp2_with fail
              go_ret
              exact ⟨ret_i (by rw [HI.out, if_pos H0.out, if_pos HT.out]), HO.out.below⟩
        · have hkl : k = l.length := by omega
          clear hk hlt
          subst hkl
          have HX := hid (show instF op l = immErr (bitsF op l).1 l by
            have h2 := HL.out.1.le
            have h3 := HL.out.2.1.le
            have h4 := HL.out.2.2.le
            rw [List.take_of_length_le (Nat.le_refl _)] at h2 h3 h4
            rw [HI.out, if_pos H0.out, if_neg (by unfold twoOf; simp; omega)])
          rcases p3 with _ | q
          · have HM := hid (show instF op l = 0 by
              have h3 := HL.out.2.1.none
              rw [List.take_of_length_le (Nat.le_refl _)] at h3
              rw [HX.out, immErr_none h3])
            clear HL
            go_wp2_with fail
            go_ret
            exact ⟨ret_i HM.out.symm, HO.out.below⟩
          · obtain ⟨j, x, hj, hx, hxk, hq, hm⟩ : ∃ (j : Nat) (x : Ar), j < l.length ∧ l[j]? = some x ∧ x.k = 3 ∧ q = ⟨ab, ao + j * 11, none⟩ ∧ manyF l 3 = 1 := by
              rcases HL.out.2.1 with ⟨h, _⟩ | ⟨j, x, hj, hx, hxk, hq, hm⟩
              · cases h
              · rw [List.take_of_length_le (Nat.le_refl _)] at hm
                exact ⟨j, x, hj, hx, hxk, by simpa using hq, hm⟩
            subst hq
            obtain ⟨bb, hbb⟩ : ∃ bb, bitsF op l = bb := ⟨_, rfl⟩
            obtain ⟨b0, s0⟩ := bb
            have HBB := hid hbb
            have HM := hid (show immE x.n b0 = instF op l by rw [HX.out, immErr_one hm (List.mem_of_getElem? hx) hxk, hbb])
            have HN := hid (HFi.out.get hx).2
            obtain rfl : A = some ⟨ab, ao, none⟩ := by rcases HA0.out with h | h; (omega); exact h
            have HAr := hid ((HA.out.below HO.out.below).mono HO.out.below.size)
            rcases HA.out.below HO.out.below with h0 | ⟨b, off, hA', hb, hc⟩
            · rw [h0] at hj; simp at hj
            obtain ⟨e1, e2⟩ : b = ab ∧ off = ao := by simp at hA'; exact ⟨hA'.1.symm, hA'.2.symm⟩
            rw [e1] at hb hc
            rw [e2] at hc
            have q10 := (args_cells hc hx).2.2.2.2.2.2.2.2.2.2
            have c1 := HO.out.tl.c
            have z1 := HO.out.tl.z
            clear hc hA' e1 e2 b off hbb hm hxk HL HX
            go_wp2_with fail
            go_region_with (go_at_call 28; refine (number_of HBB.out HFi.out HN.out rfl HM.out _ ?_).mono ?_; exact HAr.out.below (by go_grown); rintro e w1 ⟨rfl, hb1⟩)
            all_goals
              go_wp2_with fail
              go_ret
              exact ⟨rfl, HO.out.below.drew.trans (hb1.mono HO.out.below.size)⟩
end Go.Proofs.Ytmlmdbholakioaa
