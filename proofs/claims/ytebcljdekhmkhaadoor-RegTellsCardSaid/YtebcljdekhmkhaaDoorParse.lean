/-
  The register of a name.
-/
import Derived.Test.YtebcljdekhmkhaaDoorName
namespace Go.Proofs.YtebcljdekhmkhaaDoor
open Go.RowKit

/-- A class's registers with their names, from a number on. -/
def entsFrom (c : Int) : Int → List (List Int) → List ((Int × Int) × List Int)
  | _, [] => []
  | f, x :: r => ((c, f), x) :: entsFrom c (f + 1) r
def ents (c : Int) : List ((Int × Int) × List Int) := entsFrom c (spanF c).1 (NM c)
/-- All registers of the last so many classes. -/
def rest : Nat → List ((Int × Int) × List Int)
  | 0 => []
  | j + 1 => ents (8 - j) ++ rest j
def look (x : List Int) (l : List ((Int × Int) × List Int)) : Option (Int × Int) := (l.find? fun e => x == e.2).map (·.1)
/-- The register of a name in small letters. -/
def parseF (x : List Int) : Option (Int × Int) := look x (rest 8)
abbrev PV (o : Option (Int × Int)) : Value := match o with
  | none => .tuple #[.agg #[.int .i64 0, .int .i64 0], .bool false]
  | some (c, n) => .tuple #[.agg #[.int .i64 c, .int .i64 n], .bool true]
theorem look_next (x : List Int) (c f : Int) (y : List Int) (r : List (List Int)) (R : List ((Int × Int) × List Int)) :
    look x (entsFrom c f (y :: r) ++ R) = if x == y then some (c, f) else look x (entsFrom c (f + 1) r ++ R) := by
  simp only [entsFrom, look, List.cons_append, List.find?_cons]
  cases x == y <;> rfl

/-- The result's own variable, still a zero. -/
def OC (g : Nat) (w : World) : Prop := g < w.heap.size ∧ w.cell? ⟨g, 0, none⟩ = some (.int .i64 0) ∧ w.cell? ⟨g, 1, none⟩ = some (.int .i64 0) ∧ w.frozen? ⟨g, 0, none⟩ = false ∧ w.frozen? ⟨g, 1, none⟩ = false
theorem OC.below {g : Nat} {w w' : World} (h : OC g w) (hb : Below w.heap.size w w') : OC g w' :=
  ⟨Nat.lt_of_lt_of_le h.1 hb.size, by rw [hb.cell (p := ⟨g, 0, none⟩) h.1]; exact h.2.1, by rw [hb.cell (p := ⟨g, 1, none⟩) h.1]; exact h.2.2.1, by rw [hb.frozen (p := ⟨g, 0, none⟩) h.1]; exact h.2.2.2.1, by rw [hb.frozen (p := ⟨g, 1, none⟩) h.1]; exact h.2.2.2.2⟩
/-- Names in memory. -/
def Row (h : Nat) (l : List ByteArray) (w : World) : Prop := h < w.heap.size ∧ ∀ (i : Nat) (b : ByteArray), l[i]? = some b → w.cell? ⟨h, i, none⟩ = some (.string b)
theorem Row.below {h : Nat} {l : List ByteArray} {w w' : World} (hr : Row h l w) (hb : Below w.heap.size w w') : Row h l w' :=
  ⟨Nat.lt_of_lt_of_le hr.1 hb.size, fun i b hi => by rw [hb.cell (p := ⟨h, i, none⟩) hr.1]; exact hr.2 i b hi⟩
theorem names_row (c : Int) (w : World) (ht : Tab w) :
    Calls Tryd.prog 29 #[.int .i64 c] w fun e w' => ∃ (h : Nat) (l : List ByteArray), e = .returned (.slice (some ⟨h, 0, none⟩) l.length l.length) ∧ Hid (l.map nums = NM c) ∧ l.length ≤ 16 ∧ Hid (Row h l w') ∧ Hid (Below w.heap.size w w') := by
  refine (names_any c w ht).mono fun e w' ⟨l, hl, he, hw⟩ => ?_
  have h1 : l.length = (NM c).length := by rw [← hl]; simp
  have h2 := NM_length c
  have h3 := spanF_range c
  subst hw
  refine ⟨w.heap.size, l, he, hid hl, by omega, hid ⟨by simp, fun i b hi => ?_⟩, hid ((Below.refl _ _).alloc (Nat.le_refl _) _)⟩
  obtain ⟨hlt, rfl⟩ := List.getElem?_eq_some_iff.1 hi
  simp [hlt]
set_option maxHeartbeats 2000000 in
set_option maxRecDepth 100000 in
theorem parse_any (s : ByteArray) (w : World) (ht : Tab w) (hs : s.size ≤ 9223372036854775807) :
    Calls Tryd.prog 22 #[.string s] w fun e w' => e = .returned (PV (parseF (lower (nums s)))) ∧ Below w.heap.size w w' := by
  have HT := hid ht
  clear ht
  go_enter Tryd.func22, Tryd.ntmps22
  go_wp2
  obtain ⟨g, hg⟩ : ∃ g : Nat, g = w.heap.size := ⟨_, rfl⟩
  rw [← hg]
  have Hg := hid hg
  clear hg
  go_loopw [4] (fun c wr => ∃ j : Nat, j ≤ 8 ∧ c = .int .i64 (9 - j) ∧ Hid (Below w.heap.size w wr) ∧ Hid (OC g wr) ∧ Hid (parseF (lower (nums s)) = look (lower (nums s)) (rest j))) (fun c _ => (9 - intOf c).toNat)
  case atStart => exact ⟨8, by omega, rfl, hid (by go_grown), hid (by have hg := Hg.out; unfold Hid at hg; subst hg; exact ⟨by simp, by simp, by simp, by simp, by simp⟩), hid rfl⟩
  case round =>
    obtain ⟨j, hj, rfl, HB, HO, HR⟩ := hrel
    rcases j with _ | j
    · have HP := hid (show parseF (lower (nums s)) = none from HR.out)
      obtain ⟨hlt, h0, h1, h2, h3⟩ := HO.out
      go_wp2_with fail
      refine bodyPost_ret (v := PV none) (by simp [results, Tryd.results22, go_sem, h0, h1]) rfl ⟨by rw [HP.out], ?_⟩
      have hgw : w.heap.size ≤ g := by rw [Hg.out]; exact Nat.le_refl _
      exact (HB.out.setCell hgw _).setCell hgw _
    · have hj8 : (9 : Int) - ((j + 1 : Nat) : Int) = 8 - j := by omega
      rw [hj8]
      obtain ⟨a, b, hsp⟩ : ∃ a b, spanF (8 - (j : Int)) = (a, b) := ⟨_, _, rfl⟩
      have hr := spanF_range (8 - (j : Int))
      rw [hsp] at hr
      simp only [] at hr
      have HS := hid hsp
      clear hsp
      have hle : (8 : Int) - j ≤ 8 := by omega
      go_wp2_with (go_at_call 28; refine (span_of HS.out _).mono ?_; rintro e w' ⟨rfl, rfl⟩)
      refine (names_row _ _ (HT.out.below HB.out)).mono ?_
      rintro e w1 ⟨h, l, rfl, HL, hl16, HRow, HB1⟩
      have HB2 := hid (HB.out.trans (HB1.out.mono HB.out.size))
      have HO2 := hid (HO.out.below HB1.out)
      have HF := hid (show parseF (lower (nums s)) = look (lower (nums s)) (entsFrom (8 - (j : Int)) (a + ((0 : Nat) : Int)) ((l.map nums).drop 0) ++ rest j) by
        rw [HR.out, HL.out, show rest (j + 1) = ents (8 - (j : Int)) ++ rest j from rfl]; unfold ents; rw [HS.out]; simp)
      have el : (0 : Int) ≤ (l.length : Int) := by omega
      have HL16 := hid hl16
      go_wp2_with fail
      go_loopw [21] (fun i wr => ∃ k : Nat, k ≤ l.length ∧ i = .int .i64 k ∧ Hid (Below w.heap.size w wr) ∧ Hid (OC g wr) ∧ Hid (Row h l wr) ∧ Hid (parseF (lower (nums s)) = look (lower (nums s)) (entsFrom (8 - (j : Int)) (a + (k : Int)) ((l.map nums).drop k) ++ rest j))) (fun i _ => l.length - (intOf i).toNat)
      case atStart => exact ⟨0, by omega, rfl, HB2, HO2, HRow, HF⟩
      case round =>
        obtain ⟨k, hk, rfl, HB3, HO3, HR3, HF3⟩ := hrel
        by_cases hlt : k < l.length
        · obtain ⟨t, ht⟩ : ∃ t, l[k]? = some t := ⟨_, List.getElem?_eq_getElem hlt⟩
          have hcell := HR3.out.2 k t ht
          have HN := hid (show parseF (lower (nums s)) = if (lower (nums s) == nums t) = true then some (8 - (j : Int), a + (k : Int)) else look (lower (nums s)) (entsFrom (8 - (j : Int)) (a + (k : Int) + 1) ((l.map nums).drop (k + 1)) ++ rest j) by
            rw [HF3.out, List.drop_eq_getElem_cons (by simpa using hlt), look_next]
            have : (l.map nums)[k]'(by simpa using hlt) = nums t := by
              rw [List.getElem_map]; congr 1; have := List.getElem?_eq_getElem hlt; rw [ht] at this; exact (Option.some.inj this).symm
            rw [this])
          have HTT := hid ht
          clear ht
          obtain ⟨hlg, h0, h1, h2, h3⟩ := HO3.out
          have hk16 : (k : Int) ≤ 16 := by have := HL16.out; omega
          cases hm : lower (nums s) == nums t
          · have HM := hid hm
            clear hm h0 h1 h2 h3
            go_wp2_with (go_at_call 34; refine (same_any _ _ _ hs).mono ?_; rw [HM.out]; rintro e w2 ⟨rfl, hb2⟩; have HB4 := hid hb2; clear hb2)
            go_roundw
            case rel => exact ⟨k + 1, by omega, by go_num, hid (HB3.out.trans (HB4.out.mono HB3.out.size)), hid (HO3.out.below HB4.out), hid (HR3.out.below HB4.out), hid (by rw [HN.out, HM.out, if_neg (by simp), Int.add_assoc]; rfl)⟩
            case measure => simp [intOf]; omega
          · have HM := hid hm
            clear hm h0 h1 h2 h3
            have hsum : IntKind.i64.wrap (a + (k : Int)) = a + k := IntWalk.i64_in _ (by omega)
            go_wp2_with (go_at_call 34; refine (same_any _ _ _ hs).mono ?_; rw [HM.out]; rintro e w2 ⟨rfl, hb2⟩; have HB4 := hid hb2; obtain ⟨_, h0, h1, h2, h3⟩ := HO3.out.below hb2; clear hb2)
            refine bodyPost_ret (v := PV (some (8 - (j : Int), a + (k : Int)))) (by simp [results, Tryd.results22, go_sem, h0, h1]) rfl ⟨by rw [HN.out, HM.out, if_pos rfl], ?_⟩
            have hgw : w.heap.size ≤ g := by rw [Hg.out]; exact Nat.le_refl _
            exact ((HB3.out.trans (HB4.out.mono HB3.out.size)).setCell hgw _).setCell hgw _
        · have hkl : k = l.length := by omega
          subst hkl
          have HE := hid (show parseF (lower (nums s)) = look (lower (nums s)) (rest j) by
            rw [HF3.out, List.drop_of_length_le (by simp)]; rfl)
          go_wp2_with fail
          go_roundw
          case rel => exact ⟨j, by omega, by go_num, HB3, HO3, HE⟩
          case measure => simp [intOf]; omega
end Go.Proofs.YtebcljdekhmkhaaDoor
