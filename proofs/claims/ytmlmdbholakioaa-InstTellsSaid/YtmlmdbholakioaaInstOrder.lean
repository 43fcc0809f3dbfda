/-
  The program's drafts: the operands in the order in which they are written best.
-/
import Derived.Test.YtmlmdbholakioaaInstDraft2
namespace Go.Proofs.Ytmlmdbholakioaa
open Go.RowKit

def rule1 (op : Int) (l : List Ar) : Bool := (op == 16) && isF l 1 3
def rule2 (op : Int) (l : List Ar) : Bool := ((op == 10) || (op == 11)) && isF l 1 2
def rule3 (op : Int) (l : List Ar) : Bool := alikeF op l && gtF l
theorem order_rules (op : Int) (l : List Ar) : orderF op l = if rule1 op l then twF l else if rule2 op l then swF l else if rule3 op l then swF l else l := by
  unfold orderF rule1 rule2 rule3 alikeF
  by_cases h16 : op = 16
  · subst h16; simp
  by_cases h10 : op = 10
  · subst h10; simp
  by_cases h11 : op = 11
  · subst h11
    cases h1 : isF l 1 2
    · cases h2 : isF l 1 1
      · simp
      · cases h3 : clF l <;> cases h4 : gtF l <;> simp
    · simp
  simp [h16, h10, h11]
theorem rule1_not {op : Int} {P : Option Addr} {n c : Nat} {l : List Ar} (h : rule1 op l = false) (hn : l.length = n) (w : World) (hP : To w w.heap.size P l) :
    Calls Try.prog 64 #[.agg #[.int .i64 op, .slice P n c]] w fun e w' => e = .returned (.slice none 0 0) ∧ Below w.heap.size w w' := by
  by_cases h16 : op = 16
  · subst h16
    exact twice_are (by simpa [rule1] using h) hn w hP
  · exact twice_op (bne_iff_ne.2 h16) P n c w
theorem rule1_yes {op : Int} {P : Option Addr} {n c : Nat} {l : List Ar} (h : rule1 op l = true) (hn : l.length = n) (w : World) (hP : To w w.heap.size P l) :
    Calls Try.prog 64 #[.agg #[.int .i64 op, .slice P n c]] w fun e w' => ∃ P', e = .returned (.slice P' 3 3) ∧ Below w.heap.size w w' ∧ To w' w'.heap.size P' (twF l) := by
  simp only [rule1, Bool.and_eq_true, beq_iff_eq] at h
  obtain ⟨rfl, h⟩ := h
  obtain ⟨x, y, rfl, _, _⟩ := isF_two h
  subst hn
  exact twice_two h w hP
theorem rule2_not {op : Int} {P : Option Addr} {n c : Nat} {l : List Ar} (h : rule2 op l = false) (hn : l.length = n) (w : World) (hP : To w w.heap.size P l) :
    Calls Try.prog 65 #[.agg #[.int .i64 op, .slice P n c]] w fun e w' => e = .returned (.slice none 0 0) ∧ Below w.heap.size w w' := by
  by_cases h10 : op = 10
  · subst h10
    exact placed_are10 (by simpa [rule2] using h) hn w hP
  by_cases h11 : op = 11
  · subst h11
    exact placed_are11 (by simpa [rule2] using h) hn w hP
  exact placed_op (bne_iff_ne.2 h10) (bne_iff_ne.2 h11) P n c w
theorem rule2_yes {op : Int} {P : Option Addr} {n c : Nat} {l : List Ar} (h : rule2 op l = true) (hn : l.length = n) (w : World) (hP : To w w.heap.size P l) :
    Calls Try.prog 65 #[.agg #[.int .i64 op, .slice P n c]] w fun e w' => ∃ P', e = .returned (.slice P' 2 2) ∧ Below w.heap.size w w' ∧ To w' w'.heap.size P' (swF l) := by
  simp only [rule2, Bool.and_eq_true, Bool.or_eq_true, beq_iff_eq] at h
  obtain ⟨h0, h⟩ := h
  obtain ⟨x, y, rfl, _, _⟩ := isF_two h
  subst hn
  rcases h0 with rfl | rfl
  · exact placed_two10 h w hP
  · exact placed_two11 h w hP
theorem rule3_not {op : Int} {P : Option Addr} {n c : Nat} {l : List Ar} (h : rule3 op l = false) (hn : l.length = n) (w : World) (hP : To w w.heap.size P l) :
    Calls Try.prog 66 #[.agg #[.int .i64 op, .slice P n c]] w fun e w' => e = .returned (.slice none 0 0) ∧ Below w.heap.size w w' := by
  cases ha : alikeF op l
  · exact rising_not ha hn w hP
  · have ha2 := ha
    simp only [alikeF, Bool.and_eq_true] at ha2
    obtain ⟨x, y, rfl, _, _⟩ := isF_two ha2.1.2
    subst hn
    exact rising_le ha (by simpa [rule3, ha, gtF] using h) w hP
theorem rule3_yes {op : Int} {P : Option Addr} {n c : Nat} {l : List Ar} (h : rule3 op l = true) (hn : l.length = n) (w : World) (hP : To w w.heap.size P l) :
    Calls Try.prog 66 #[.agg #[.int .i64 op, .slice P n c]] w fun e w' => ∃ P', e = .returned (.slice P' 2 2) ∧ Below w.heap.size w w' ∧ To w' w'.heap.size P' (swF l) := by
  simp only [rule3, Bool.and_eq_true] at h
  obtain ⟨ha, hg⟩ := h
  have ha2 := ha
  simp only [alikeF, Bool.and_eq_true] at ha2
  obtain ⟨x, y, rfl, _, _⟩ := isF_two ha2.1.2
  subst hn
  exact rising_gt ha (by simpa [gtF] using hg) w hP
/-- The rules ahead of number k tell none. -/
def Told (op : Int) (l : List Ar) (k : Nat) : Prop := (1 ≤ k → rule1 op l = false) ∧ (2 ≤ k → rule2 op l = false) ∧ (3 ≤ k → rule3 op l = false)
theorem rules_any (w : World) :
    Calls Try.prog 51 #[] w fun e w' => e = .returned (.slice (some ⟨w.heap.size, 0, none⟩) 3 3) ∧ w' = w.alloc (.cells #[.func (.func 64) #[] #[], .func (.func 65) #[] #[], .func (.func 66) #[] #[]] 72) := by
  go_enter Try.func51, Try.ntmps51
  go_wp2
  go_ret
  exact ⟨rfl, rfl⟩
set_option maxHeartbeats 2000000 in
theorem ordered_any {op : Int} {P : Option Addr} {c : Nat} {l : List Ar} (hl : l.length ≤ 4) (w : World) (hP : To w w.heap.size P l) :
    Calls Try.prog 30 #[.agg #[.int .i64 op, .slice P l.length c]] w fun e w' => ∃ P' c', e = .returned (.slice P' (orderF op l).length c') ∧ Below w.heap.size w w' ∧ To w' w'.heap.size P' (orderF op l) := by
  have HP := hid hP
  clear hP
  go_enter Try.func30, Try.ntmps30
  go_wp2
  go_step3
  go_wp2
  go_step3
  go_wp2_with (go_at_call 51; refine (rules_any _).mono ?_; rintro e w1 ⟨rfl, rfl⟩)
  have HO := hid (((Own.nil w).alloc w.heap.size #[.int .i64 op, .slice P l.length c] 51 rfl).alloc (w.heap.size + 1) #[.func (.func 64) #[] #[], .func (.func 65) #[] #[], .func (.func 66) #[] #[]] 72 (by simp))
  have HR := hid (show Told op l 0 from ⟨fun h => absurd h (by decide), fun h => absurd h (by decide), fun h => absurd h (by decide)⟩)
  go_loopw [3, 11] (fun s3 i wr => ∃ k : Nat, k ≤ 3 ∧ i = .int .i64 k ∧ s3 = .slice P l.length c ∧ Hid (Own w [⟨w.heap.size + 1, #[.func (.func 64) #[] #[], .func (.func 65) #[] #[], .func (.func 66) #[] #[]], 72⟩, ⟨w.heap.size, #[.int .i64 op, .slice P l.length c], 51⟩] wr) ∧ Hid (Told op l k)) (fun _ i _ => 3 - (intOf i).toNat)
  case atStart => exact ⟨0, by omega, rfl, rfl, HO, HR⟩
  case round =>
    clear HO HR
    obtain ⟨k, hk, rfl, rfl, HO, HR⟩ := hrel
    have c0 := HO.out.c
    have c1 := HO.out.tl.c
    have z0 := HO.out.z
    have z1 := HO.out.tl.z
    have HT := hid (HP.out.call HO.out.below)
    rcases show k = 0 ∨ k = 1 ∨ k = 2 ∨ k = 3 by omega with rfl | rfl | rfl | rfl
    ·
      cases hr : rule1 op l
      · have HRn := hid (show Told op l 1 from ⟨fun _ => hr, fun h => absurd h (by decide), fun h => absurd h (by decide)⟩)
        have HX := hid hr
        clear hr
        go_wp2_with fail
        refine (rule1_not HX.out rfl _ HT.out).mono ?_
        rintro e w1 ⟨rfl, hb1⟩
        have HO := hid (HO.out.call hb1)
        clear hb1 c0 c1 z0 z1
        go_wp2_with fail
        go_roundw
        case rel => exact ⟨1, by decide, by go_num, rfl, HO, HRn⟩
        case measure => simp [intOf]
      · have HI := hid (show orderF op l = twF l by rw [order_rules, if_pos hr])
        have HX := hid hr
        have hx2 : (orderF op l).length = 3 := by
          rw [HI.out]
          have h := hr
          simp only [rule1, Bool.and_eq_true] at h
          obtain ⟨x, y, rfl, _, _⟩ := isF_two h.2
          rfl
        have HL := hid hx2
        clear hr hx2
        go_wp2_with fail
        refine (rule1_yes HX.out rfl _ HT.out).mono ?_
        rintro e w1 ⟨P', rfl, hb1, hT1⟩
        have HO := hid (HO.out.call hb1)
        clear hb1 c0 c1 z0 z1
        go_wp2_with fail
        try rw [Exit.noGoto_ret]
        refine bodyPost_ret (v := .slice P' 3 3) (by simp [results, Try.results30, go_sem]) rfl ?_
        exact ⟨P', 3, by rw [HL.out], HO.out.below, by rw [HI.out]; exact hT1⟩
    ·
      have r1 := HR.out.1 (by decide)
      cases hr : rule2 op l
      · have HRn := hid (show Told op l 2 from ⟨fun _ => r1, fun _ => hr, fun h => absurd h (by decide)⟩)
        have HX := hid hr
        clear hr r1
        go_wp2_with fail
        refine (rule2_not HX.out rfl _ HT.out).mono ?_
        rintro e w1 ⟨rfl, hb1⟩
        have HO := hid (HO.out.call hb1)
        clear hb1 c0 c1 z0 z1
        go_wp2_with fail
        go_roundw
        case rel => exact ⟨2, by decide, by go_num, rfl, HO, HRn⟩
        case measure => simp [intOf]
      · have HI := hid (show orderF op l = swF l by rw [order_rules, if_neg (by rw [r1]; decide), if_pos hr])
        have HX := hid hr
        have hx2 : (orderF op l).length = 2 := by
          rw [HI.out]
          have h := hr
          simp only [rule2, Bool.and_eq_true] at h
          obtain ⟨x, y, rfl, _, _⟩ := isF_two h.2
          rfl
        have HL := hid hx2
        clear hr hx2 r1
        go_wp2_with fail
        refine (rule2_yes HX.out rfl _ HT.out).mono ?_
        rintro e w1 ⟨P', rfl, hb1, hT1⟩
        have HO := hid (HO.out.call hb1)
        clear hb1 c0 c1 z0 z1
        go_wp2_with fail
        try rw [Exit.noGoto_ret]
        refine bodyPost_ret (v := .slice P' 2 2) (by simp [results, Try.results30, go_sem]) rfl ?_
        exact ⟨P', 2, by rw [HL.out], HO.out.below, by rw [HI.out]; exact hT1⟩
    ·
      have r1 := HR.out.1 (by decide)
      have r2 := HR.out.2.1 (by decide)
      cases hr : rule3 op l
      · have HRn := hid (show Told op l 3 from ⟨fun _ => r1, fun _ => r2, fun _ => hr⟩)
        have HX := hid hr
        clear hr r1 r2
        go_wp2_with fail
        refine (rule3_not HX.out rfl _ HT.out).mono ?_
        rintro e w1 ⟨rfl, hb1⟩
        have HO := hid (HO.out.call hb1)
        clear hb1 c0 c1 z0 z1
        go_wp2_with fail
        go_roundw
        case rel => exact ⟨3, by decide, by go_num, rfl, HO, HRn⟩
        case measure => simp [intOf]
      · have HI := hid (show orderF op l = swF l by rw [order_rules, if_neg (by rw [r1]; decide), if_neg (by rw [r2]; decide), if_pos hr])
        have HX := hid hr
        have hx2 : (orderF op l).length = 2 := by
          rw [HI.out]
          have h := hr
          simp only [rule3, alikeF, Bool.and_eq_true] at h
          obtain ⟨x, y, rfl, _, _⟩ := isF_two h.1.1.2
          rfl
        have HL := hid hx2
        clear hr hx2 r1 r2
        go_wp2_with fail
        refine (rule3_yes HX.out rfl _ HT.out).mono ?_
        rintro e w1 ⟨P', rfl, hb1, hT1⟩
        have HO := hid (HO.out.call hb1)
        clear hb1 c0 c1 z0 z1
        go_wp2_with fail
        try rw [Exit.noGoto_ret]
        refine bodyPost_ret (v := .slice P' 2 2) (by simp [results, Try.results30, go_sem]) rfl ?_
        exact ⟨P', 2, by rw [HL.out], HO.out.below, by rw [HI.out]; exact hT1⟩
    · have HI := hid (show orderF op l = l by rw [order_rules, if_neg (by rw [HR.out.1 (by decide)]; decide), if_neg (by rw [HR.out.2.1 (by decide)]; decide), if_neg (by rw [HR.out.2.2 (by decide)]; decide)])
      go_wp2_with fail
      try rw [Exit.noGoto_ret]
      refine bodyPost_ret (v := .slice P l.length c) (by simp [results, Try.results30, go_sem]) rfl ?_
      exact ⟨P, c, by rw [HI.out], HO.out.below, by rw [HI.out]; exact HT.out⟩
end Go.Proofs.Ytmlmdbholakioaa
