/-
  The walk of LiteralSpelled: a word that is read.
-/
import Derived.Test.YtibhpfddjlnbmaaDoorSpelled
namespace Go.Proofs.YtibhpfddjlnbmaaDoor
open Go.RowKit

theorem bytes_take {s : ByteArray} (E : Nat) : ∀ z ∈ (nums s).take E, 0 ≤ z ∧ z < 256 := fun z hz => nums_range s z (List.mem_of_mem_take hz)
theorem bytes_cap {l : List Int} (h : ∀ z ∈ l, 0 ≤ z ∧ z < 256) : isBytes (l.map cap) := by
  intro z hz
  obtain ⟨y, hy, rfl⟩ := List.mem_map.1 hz
  have := h y hy
  unfold cap; split <;> omega
theorem bytes_nou {l : List Int} (h : ∀ z ∈ l, 0 ≤ z ∧ z < 256) : isBytes (nou l) := fun z hz => h z (nou_mem hz).1
/-- What holds of the two rows between rounds. -/
def Rel (s : ByteArray) (E k : Nat) (B : Nat) (wr : World) (v u : Value) : Prop :=
  wr.ownsRow B 5 1 v k ((((nums s).take E).take k).map cap |>.map (Value.int .u8)) ∧
  wr.ownsRow B 5 1 u (nou (((nums s).take E).take k)).length ((nou (((nums s).take E).take k)).map (Value.int .u8)) ∧ Apart v u

/-- Between the two. -/
def Mid (s : ByteArray) (E k : Nat) (B : Nat) (wr : World) (v u : Value) : Prop :=
  wr.ownsRow B 5 1 v (k + 1) ((((nums s).take E).take (k + 1)).map cap |>.map (Value.int .u8)) ∧
  wr.ownsRow B 5 1 u (nou (((nums s).take E).take k)).length ((nou (((nums s).take E).take k)).map (Value.int .u8)) ∧ Apart v u
theorem Rel.mid {s : ByteArray} {E k B : Nat} {wr w5 : World} {v u v' : Value} (h : Rel s E k B wr v u) (hk : k < E) (hE : E ≤ s.size) (o : Obj) (c : Int) (hc : cap (ch s k) = c)
    (ho : w5.ownsRow B 5 1 v' (k + 1) (((((nums s).take E).take k).map cap |>.map (Value.int .u8)) ++ [Value.int .u8 c])) (hg : (wr.alloc o).grownBy w5 v.ownBlock)
    (hat : v'.ownBlock = v.ownBlock ∨ v'.ownBlock = some (wr.heap.size + 1)) : Mid s E k B w5 v' u := by
  obtain ⟨_, h2, h3⟩ := h
  refine ⟨?_, (h2.alloc o).kept hg h3.kept, h3.next (fun g hg => (h2.lt g hg).2) (Nat.le_succ _) hat⟩
  rw [take_ch hk hE, List.map_append, List.map_append, List.map_singleton, List.map_singleton, hc]
  exact ho
theorem Mid.skip {s : ByteArray} {E k B : Nat} {wr : World} {v u : Value} (h : Mid s E k B wr v u) (hk : k < E) (hE : E ≤ s.size) (hc : ch s k = 95) : Rel s E (k + 1) B wr v u := by
  obtain ⟨h1, h2, h3⟩ := h
  refine ⟨h1, ?_, h3⟩
  have e : nou (((nums s).take E).take (k + 1)) = nou (((nums s).take E).take k) := by
    rw [take_ch hk hE, nou_append, hc]
    show _ ++ [] = _
    rw [List.append_nil]
  rw [e]
  exact h2
theorem Mid.next {s : ByteArray} {E k B : Nat} {wr w5 : World} {v u u' : Value} (h : Mid s E k B wr v u) (hk : k < E) (hE : E ≤ s.size) (o : Obj) (hc : ch s k ≠ 95)
    (ho : w5.ownsRow B 5 1 u' ((nou (((nums s).take E).take k)).length + 1) (((nou (((nums s).take E).take k)).map (Value.int .u8)) ++ [Value.int .u8 (ch s k)])) (hg : (wr.alloc o).grownBy w5 u.ownBlock)
    (hat : u'.ownBlock = u.ownBlock ∨ u'.ownBlock = some (wr.heap.size + 1)) : Rel s E (k + 1) B w5 v u' := by
  obtain ⟨h1, h2, h3⟩ := h
  have e : nou (((nums s).take E).take (k + 1)) = nou (((nums s).take E).take k) ++ [ch s k] := by
    rw [take_ch hk hE, nou_append]
    congr 1
    exact nou_cons hc
  refine ⟨(h1.alloc o).kept hg h3.symm.kept, ?_, (h3.symm.next (fun g hg => (h1.lt g hg).2) (Nat.le_succ _) hat).symm⟩
  rw [e, List.length_append, List.map_append]
  exact ho
theorem nou_len (s : ByteArray) (E k : Nat) : (nou (((nums s).take E).take k)).length ≤ k := by
  have : (nou (((nums s).take E).take k)).length ≤ (((nums s).take E).take k).length := List.length_filter_le _ _
  rw [List.length_take] at this
  omega
set_option maxHeartbeats 1000000 in
set_option maxRecDepth 100000 in
theorem spelled_good (s : ByteArray) (w : World) (ht : Tabs w) (h0 : 0 < s.size) (h1 : s.size ≤ 100) (h2 : 48 ≤ ch s 0) (h3 : ch s 0 ≤ 57) (E : Nat) (n : Int) (h : scan (nums s) 0 = (n, (E : Int), 0, 0)) (hE1 : 1 ≤ E) (hE2 : E ≤ s.size)
    (hcap : scan (((nums s).take E).map cap) 0 = (n, (E : Int), 0, 0)) (hnou : scan (nou ((nums s).take E)) 0 = (n, ((nou ((nums s).take E)).length : Int), 0, 0)) :
    Calls Tryd.prog 6 #[.string s] w fun e w' => e = .returned (.bool true) ∧ Below w.heap.size w w' := by
  have HT := hid ht
  have hb := get_ch s
  have hc : ∀ w, Calls Tryd.prog 9 #[.string s, .int .i64 0] w fun e w' => e = .returned (.tuple #[.int .i64 n, .int .i64 E, .agg #[.int .i64 0, .int .i64 0]]) ∧ Below w.heap.size w w' := fun w => by
    have := scan_any s 0 w (by omega)
    rw [h] at this
    exact this
  have C := hid hc
  have HCAP := hid hcap
  have HNOU := hid hnou
  have e0 : ((s.size : Int) == 0) = false := beq_eq_false_iff_ne.2 (by omega)
  have d1 : decide ((E : Int) < 1) = false := decide_eq_false (by omega)
  have d2 : decide (s.size < E) = false := decide_eq_false (by omega)
  clear ht h hc hcap hnou
  obtain ⟨i0, hi, hz0, hz1, hz2⟩ := info_parts infoByte
  have I0 := hid hz0; have I1 := hid hz1; have I2 := hid hz2; have I3 := hid hi
  clear hi hz0 hz1 hz2
  go_enter Tryd.func6, Tryd.ntmps6
  go_wp2_with (first | (go_at_call 11; refine (awake_any _ HT.out).mono ?_; rintro e w1 ⟨rfl, hb1⟩) | (go_at_call 9; (with_reducible refine (C.out _).mono ?_); rintro e w2 ⟨rfl, hb2⟩))
  have HB0 := hid ((hb1.trans (hb2.mono hb1.size)).alloc (Nat.le_trans hb1.size hb2.size) (.cells #[.int .i64 0, .int .i64 0] 24))
  clear hb1 hb2
  go_loopw [7, 8, 9] (fun v u i wr => ∃ k : Nat, k ≤ E ∧ i = .int .i64 k ∧ Hid (Below w.heap.size w wr) ∧ Hid (Rel s E k w.heap.size wr v u)) (fun _ _ i _ => E - (intOf i).toNat)
  case atStart => exact ⟨0, by omega, rfl, HB0, hid ⟨by simpa using World.ownsRow_nil _ _ _ _, by simpa [nou] using World.ownsRow_nil _ _ _ _, Apart.nil _⟩⟩
  case round =>
    obtain ⟨k, hk, rfl, HB, HR⟩ := hrel
    by_cases hlt : k < E
    · have hks : k < s.size := by omega
      have HTK := hid (take_ch hlt hE2)
      have hc := ch_range s k
      by_cases hlow : 97 ≤ ch s k ∧ ch s k ≤ 122
      · have H95 := hid (show ch s k ≠ 95 by omega)
        obtain ⟨XS, hXS, hown⟩ : ∃ XS : List Value, XS = ((((nums s).take E).take k).map cap |>.map (Value.int .u8)) ∧ wr.ownsRow w.heap.size 5 1 u7 k XS := ⟨_, rfl, HR.out.1⟩
        have HXS := hid hXS
        have HO := hid hown
        clear hXS hown
        go_wp2_with (at_builtin; refine wpList_append_own_at _ rfl _ _ 32 rfl w.heap.size 5 i0 (.int .u8 0) 1 1 Tryd.underlying32 I3.out I0.out I1.out I2.out rfl (by decide) _ _ _ rfl (HO.out.alloc _) ⟨wr.heap.size, 0, none⟩ 1 1 [.int .u8 (ch s k - 32)] rfl rfl ?c1x1 ?c2x1 ?c3x1 ?c4x1 ?c5x1 ?_)
        try (case c1x1 => exact one_new _ _ _)
        case c2x1 => simp [Value.oneCell']
        case c3x1 => simp [maxLen]; omega
        case c4x1 => omega
        case c5x1 => have := HB.out.size; simp; omega
        intro v' w5 hown' hgrow _ hat
        rw [HXS.out] at hown'
        have HB5 := hid (((HB.out.alloc HB.out.size _).grown hgrow (by have := HB.out.size; simp; omega) (fun k hk => (HR.out.1.lt k hk).1)))
        have HM5 := hid (HR.out.mid hlt hE2 _ (ch s k - 32) (by unfold cap; rw [if_pos hlow]) hown' hgrow hat)
        clear hown' hgrow hat
        obtain ⟨US, l, hUS, hl, hown⟩ : ∃ (US : List Value) (l : Nat), US = ((nou (((nums s).take E).take k)).map (Value.int .u8)) ∧ l = (nou (((nums s).take E).take k)).length ∧ w5.ownsRow w.heap.size 5 1 u8 l US := ⟨_, _, rfl, rfl, HM5.out.2.1⟩
        have hlk : l ≤ k := by rw [hl]; exact nou_len s E k
        have HUS := hid hUS
        have HL := hid hl
        have HU := hid hown
        clear hUS hown hl
        go_wp2_with (at_builtin; refine wpList_append_own_at _ rfl _ _ 32 rfl w.heap.size 5 i0 (.int .u8 0) 1 1 Tryd.underlying32 I3.out I0.out I1.out I2.out rfl (by decide) _ _ _ rfl (HU.out.alloc _) ⟨w5.heap.size, 0, none⟩ 1 1 [.int .u8 (ch s k)] rfl rfl ?c1x2 ?c2x2 ?c3x2 ?c4x2 ?c5x2 ?_)
        try (case c1x2 => exact one_new _ _ _)
        case c2x2 => simp [Value.oneCell']
        case c3x2 => simp [maxLen]; omega
        case c4x2 => omega
        case c5x2 => have := HB5.out.size; simp; omega
        intro u' w6 hown' hgrow _ hat
        rw [HUS.out, HL.out] at hown'
        have HB6 := hid (((HB5.out.alloc HB5.out.size _).grown hgrow (by have := HB5.out.size; simp; omega) (fun k hk => (HM5.out.2.1.lt k hk).1)))
        have HM6 := hid (HM5.out.next hlt hE2 _ H95.out hown' hgrow hat)
        clear hown' hgrow hat
        go_wp2_with fail
        go_roundw
        case rel => first | exact ⟨k + 1, by omega, by go_num, HB6, HM6⟩ | ((repeat apply Exists.intro); refine ⟨?_, rfl⟩; exact ⟨k + 1, by omega, by go_num, HB6, HM6⟩)
        case measure => simp [intOf]; omega
      · by_cases h95 : ch s k = 95
        · have HC95 := hid h95
          have e95 : (ch s k != 95) = false := by rw [h95]; rfl
          have h97 : ch s k < 97 := by omega
          clear h95 hlow
          obtain ⟨XS, hXS, hown⟩ : ∃ XS : List Value, XS = ((((nums s).take E).take k).map cap |>.map (Value.int .u8)) ∧ wr.ownsRow w.heap.size 5 1 u7 k XS := ⟨_, rfl, HR.out.1⟩
          have HXS := hid hXS
          have HO := hid hown
          clear hXS hown
          go_wp2_with (at_builtin; refine wpList_append_own_at _ rfl _ _ 32 rfl w.heap.size 5 i0 (.int .u8 0) 1 1 Tryd.underlying32 I3.out I0.out I1.out I2.out rfl (by decide) _ _ _ rfl (HO.out.alloc _) ⟨wr.heap.size, 0, none⟩ 1 1 [.int .u8 (ch s k)] rfl rfl ?c1x3 ?c2x3 ?c3x3 ?c4x3 ?c5x3 ?_)
          try (case c1x3 => exact one_new _ _ _)
          case c2x3 => simp [Value.oneCell']
          case c3x3 => simp [maxLen]; omega
          case c4x3 => omega
          case c5x3 => have := HB.out.size; simp; omega
          intro v' w5 hown' hgrow _ hat
          rw [HXS.out] at hown'
          have HB5 := hid (((HB.out.alloc HB.out.size _).grown hgrow (by have := HB.out.size; simp; omega) (fun k hk => (HR.out.1.lt k hk).1)))
          have HM5 := hid (HR.out.mid hlt hE2 _ (ch s k) (by rw [HC95.out]; decide) hown' hgrow hat)
          clear hown' hgrow hat
          go_wp2_with fail
          go_roundw
          case rel => first | exact ⟨k + 1, by omega, by go_num, HB5, hid (HM5.out.skip hlt hE2 HC95.out)⟩ | ((repeat apply Exists.intro); refine ⟨?_, rfl⟩; exact ⟨k + 1, by omega, by go_num, HB5, hid (HM5.out.skip hlt hE2 HC95.out)⟩)
          case measure => simp [intOf]; omega
        · have H95 := hid h95
          have e95 : (ch s k != 95) = true := by simp [h95]
          have hcap : cap (ch s k) = ch s k := by unfold cap; rw [if_neg hlow]
          have HCP := hid hcap
          clear h95 hcap
          rcases (show ch s k < 97 ∨ 122 < ch s k by omega) with h97 | h97
          · clear hlow
            obtain ⟨XS, hXS, hown⟩ : ∃ XS : List Value, XS = ((((nums s).take E).take k).map cap |>.map (Value.int .u8)) ∧ wr.ownsRow w.heap.size 5 1 u7 k XS := ⟨_, rfl, HR.out.1⟩
            have HXS := hid hXS
            have HO := hid hown
            clear hXS hown
            go_wp2_with (at_builtin; refine wpList_append_own_at _ rfl _ _ 32 rfl w.heap.size 5 i0 (.int .u8 0) 1 1 Tryd.underlying32 I3.out I0.out I1.out I2.out rfl (by decide) _ _ _ rfl (HO.out.alloc _) ⟨wr.heap.size, 0, none⟩ 1 1 [.int .u8 (ch s k)] rfl rfl ?c1x4 ?c2x4 ?c3x4 ?c4x4 ?c5x4 ?_)
            try (case c1x4 => exact one_new _ _ _)
            case c2x4 => simp [Value.oneCell']
            case c3x4 => simp [maxLen]; omega
            case c4x4 => omega
            case c5x4 => have := HB.out.size; simp; omega
            intro v' w5 hown' hgrow _ hat
            rw [HXS.out] at hown'
            have HB5 := hid (((HB.out.alloc HB.out.size _).grown hgrow (by have := HB.out.size; simp; omega) (fun k hk => (HR.out.1.lt k hk).1)))
            have HM5 := hid (HR.out.mid hlt hE2 _ (ch s k) HCP.out hown' hgrow hat)
            clear hown' hgrow hat
            obtain ⟨US, l, hUS, hl, hown⟩ : ∃ (US : List Value) (l : Nat), US = ((nou (((nums s).take E).take k)).map (Value.int .u8)) ∧ l = (nou (((nums s).take E).take k)).length ∧ w5.ownsRow w.heap.size 5 1 u8 l US := ⟨_, _, rfl, rfl, HM5.out.2.1⟩
            have hlk : l ≤ k := by rw [hl]; exact nou_len s E k
            have HUS := hid hUS
            have HL := hid hl
            have HU := hid hown
            clear hUS hown hl
            go_wp2_with (at_builtin; refine wpList_append_own_at _ rfl _ _ 32 rfl w.heap.size 5 i0 (.int .u8 0) 1 1 Tryd.underlying32 I3.out I0.out I1.out I2.out rfl (by decide) _ _ _ rfl (HU.out.alloc _) ⟨w5.heap.size, 0, none⟩ 1 1 [.int .u8 (ch s k)] rfl rfl ?c1x5 ?c2x5 ?c3x5 ?c4x5 ?c5x5 ?_)
            try (case c1x5 => exact one_new _ _ _)
            case c2x5 => simp [Value.oneCell']
            case c3x5 => simp [maxLen]; omega
            case c4x5 => omega
            case c5x5 => have := HB5.out.size; simp; omega
            intro u' w6 hown' hgrow _ hat
            rw [HUS.out, HL.out] at hown'
            have HB6 := hid (((HB5.out.alloc HB5.out.size _).grown hgrow (by have := HB5.out.size; simp; omega) (fun k hk => (HM5.out.2.1.lt k hk).1)))
            have HM6 := hid (HM5.out.next hlt hE2 _ H95.out hown' hgrow hat)
            clear hown' hgrow hat
            go_wp2_with fail
            go_roundw
            case rel => first | exact ⟨k + 1, by omega, by go_num, HB6, HM6⟩ | ((repeat apply Exists.intro); refine ⟨?_, rfl⟩; exact ⟨k + 1, by omega, by go_num, HB6, HM6⟩)
            case measure => simp [intOf]; omega
          · clear hlow
            obtain ⟨XS, hXS, hown⟩ : ∃ XS : List Value, XS = ((((nums s).take E).take k).map cap |>.map (Value.int .u8)) ∧ wr.ownsRow w.heap.size 5 1 u7 k XS := ⟨_, rfl, HR.out.1⟩
            have HXS := hid hXS
            have HO := hid hown
            clear hXS hown
            go_wp2_with (at_builtin; refine wpList_append_own_at _ rfl _ _ 32 rfl w.heap.size 5 i0 (.int .u8 0) 1 1 Tryd.underlying32 I3.out I0.out I1.out I2.out rfl (by decide) _ _ _ rfl (HO.out.alloc _) ⟨wr.heap.size, 0, none⟩ 1 1 [.int .u8 (ch s k)] rfl rfl ?c1x6 ?c2x6 ?c3x6 ?c4x6 ?c5x6 ?_)
            try (case c1x6 => exact one_new _ _ _)
            case c2x6 => simp [Value.oneCell']
            case c3x6 => simp [maxLen]; omega
            case c4x6 => omega
            case c5x6 => have := HB.out.size; simp; omega
            intro v' w5 hown' hgrow _ hat
            rw [HXS.out] at hown'
            have HB5 := hid (((HB.out.alloc HB.out.size _).grown hgrow (by have := HB.out.size; simp; omega) (fun k hk => (HR.out.1.lt k hk).1)))
            have HM5 := hid (HR.out.mid hlt hE2 _ (ch s k) HCP.out hown' hgrow hat)
            clear hown' hgrow hat
            obtain ⟨US, l, hUS, hl, hown⟩ : ∃ (US : List Value) (l : Nat), US = ((nou (((nums s).take E).take k)).map (Value.int .u8)) ∧ l = (nou (((nums s).take E).take k)).length ∧ w5.ownsRow w.heap.size 5 1 u8 l US := ⟨_, _, rfl, rfl, HM5.out.2.1⟩
            have hlk : l ≤ k := by rw [hl]; exact nou_len s E k
            have HUS := hid hUS
            have HL := hid hl
            have HU := hid hown
            clear hUS hown hl
            go_wp2_with (at_builtin; refine wpList_append_own_at _ rfl _ _ 32 rfl w.heap.size 5 i0 (.int .u8 0) 1 1 Tryd.underlying32 I3.out I0.out I1.out I2.out rfl (by decide) _ _ _ rfl (HU.out.alloc _) ⟨w5.heap.size, 0, none⟩ 1 1 [.int .u8 (ch s k)] rfl rfl ?c1x7 ?c2x7 ?c3x7 ?c4x7 ?c5x7 ?_)
            try (case c1x7 => exact one_new _ _ _)
            case c2x7 => simp [Value.oneCell']
            case c3x7 => simp [maxLen]; omega
            case c4x7 => omega
            case c5x7 => have := HB5.out.size; simp; omega
            intro u' w6 hown' hgrow _ hat
            rw [HUS.out, HL.out] at hown'
            have HB6 := hid (((HB5.out.alloc HB5.out.size _).grown hgrow (by have := HB5.out.size; simp; omega) (fun k hk => (HM5.out.2.1.lt k hk).1)))
            have HM6 := hid (HM5.out.next hlt hE2 _ H95.out hown' hgrow hat)
            clear hown' hgrow hat
            go_wp2_with fail
            go_roundw
            case rel => first | exact ⟨k + 1, by omega, by go_num, HB6, HM6⟩ | ((repeat apply Exists.intro); refine ⟨?_, rfl⟩; exact ⟨k + 1, by omega, by go_num, HB6, HM6⟩)
            case measure => simp [intOf]; omega
    · obtain ⟨HO, HU, _⟩ := HR.out
      have hkE : k = E := by omega
      have hW : ((nums s).take E).take k = (nums s).take E := by rw [hkE, List.take_take, Nat.min_self]
      rw [hW] at HO HU
      rw [hkE] at HO
      have hbw := bytes_take (s := s) E
      have hl1 : (((nums s).take E).map cap).length = E := by rw [List.length_map, List.length_take, nums_length]; omega
      have hl2 : (nou ((nums s).take E)).length ≤ 100 := by
        have : (nou ((nums s).take E)).length ≤ ((nums s).take E).length := List.length_filter_le _ _
        rw [List.length_take, nums_length] at this; omega
      obtain ⟨A1, c1, rfl⟩ := own_form HO
      obtain ⟨A2, c2, rfl⟩ := own_form HU
      have M1 := own_mem HO (bytes_cap hbw) (Nat.le_refl _)
      have M2 := own_mem HU (bytes_nou hbw) (Nat.le_refl _)
      have i1 := (fun w => is_of (s := str (((nums s).take E).map cap)) (want := n) (by rw [show nums (str (((nums s).take E).map cap)) = ((nums s).take E).map cap from nums_str _ (bytes_cap hbw), show (str (((nums s).take E).map cap)).size = (((nums s).take E).map cap).length from strOfNums_size _, hl1]; exact HCAP.out) (by rw [show (str (((nums s).take E).map cap)).size = (((nums s).take E).map cap).length from strOfNums_size _, hl1]; omega) w)
      have i2 := (fun w => is_of (s := str (nou ((nums s).take E))) (want := n) (by rw [show nums (str (nou ((nums s).take E))) = nou ((nums s).take E) from nums_str _ (bytes_nou hbw), show (str (nou ((nums s).take E))).size = (nou ((nums s).take E)).length from strOfNums_size _]; exact HNOU.out) (by rw [show (str (nou ((nums s).take E))).size = (nou ((nums s).take E)).length from strOfNums_size _]; omega) w)
      have v1 := conv_bytes A1 c1 _ wr _ M1.1
      rw [hl1] at v1
      have V2 := hid (fun (w6 : World) (hb6 : Below wr.heap.size wr w6) => conv_bytes A2 c2 _ w6 _ (M2.1.below hb6))
      obtain ⟨S1, hS1⟩ : ∃ S1, str (((nums s).take E).map cap) = S1 := ⟨_, rfl⟩
      obtain ⟨S2, hS2⟩ : ∃ S2, str (nou ((nums s).take E)) = S2 := ⟨_, rfl⟩
      obtain ⟨m, hm⟩ : ∃ m, (nou ((nums s).take E)).length = m := ⟨_, rfl⟩
      rw [hS1] at v1 i1
      rw [hS2] at V2 i2
      rw [hm] at V2
      rw [hm]
      have I1' := hid i1
      have I2' := hid i2
      clear HO HU hkE hW hbw hl1 hl2 M1 M2 hS1 hS2 hm i1 i2
      go_wp2_with fail
      (with_reducible refine (I1'.out _).mono ?_)
      rintro e w6 ⟨rfl, hb6⟩
      have v2 := V2.out w6 hb6
      have HB6 := hid (HB.out.trans (hb6.mono HB.out.size))
      clear hb6
      go_wp2_with fail
      (with_reducible refine (I2'.out _).mono ?_)
      rintro e w7 ⟨rfl, hb7⟩
      have HB7 := hid (HB6.out.trans (hb7.mono HB6.out.size))
      clear hb7
      go_wp2_with fail
      go_ret
      exact ⟨rfl, HB7.out⟩
theorem spelled_law (s : ByteArray) (w : World) (ht : Tabs w) (hs : s.size ≤ maxLen) :
    Calls Tryd.prog 6 #[.string s] w fun e w' => e = .returned (.bool true) ∧ Below w.heap.size w w' := by
  unfold maxLen at hs
  by_cases hin : 0 < s.size ∧ s.size ≤ 100 ∧ 48 ≤ ch s 0 ∧ ch s 0 ≤ 57
  · obtain ⟨h0, h1, h2, h3⟩ := hin
    rcases scan_good h0 (show dval (ch s 0) < 10 by unfold dval; rw [if_pos ⟨h2, h3⟩]; omega) with ⟨er, p, h, he, hp, hps⟩ | ⟨E, n, h, hE1, hE2, hcap, hnou⟩
    · exact spelled_bad s w ht h0 h1 h2 h3 er p h he hp hps
    · exact spelled_good s w ht h0 h1 h2 h3 E n h hE1 hE2 hcap hnou
  · exact spelled_out s w ht hs (by omega)
end Go.Proofs.YtibhpfddjlnbmaaDoor
