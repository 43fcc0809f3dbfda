/-
  lay and fill: fields of a number, put together and taken apart.
-/
import Derived.Test.YtllnjmpakkodnaaVxSmall
import Derived.Test.YtllnjmpakkodnaaOld
namespace Go.Proofs.Ytllnjmpakkodnaa
open Go.RowKit
set_option maxRecDepth 100000

/-- Fields in memory: a value, a width, a value, a width .. -/
def fcells (fs : List (Int × Int)) : List Value := fs.flatMap fun f => [.int .i64 f.1, .int .i64 f.2]
theorem fcells_cons (f : Int × Int) (fs : List (Int × Int)) : fcells (f :: fs) = .int .i64 f.1 :: .int .i64 f.2 :: fcells fs := rfl
theorem fcells_get (fs : List (Int × Int)) (k : Nat) (h : k < fs.length) : (fcells fs)[k * 2]? = some (.int .i64 (fs[k]?.getD (0, 0)).1) ∧ (fcells fs)[k * 2 + 1]? = some (.int .i64 (fs[k]?.getD (0, 0)).2) := by
  induction fs generalizing k with
  | nil => simp at h
  | cons f fs ih =>
    rw [fcells_cons]
    cases k with
    | zero => simp
    | succ k =>
      have := ih k (by simpa using h)
      rw [show (k + 1) * 2 = k * 2 + 1 + 1 by omega, show k * 2 + 1 + 1 + 1 = k * 2 + 1 + 1 + 1 from rfl]
      simpa using this
theorem fcells_set (fs : List (Int × Int)) (k : Nat) (v : Int) (h : k < fs.length) : (fcells fs).set (k * 2) (.int .i64 v) = fcells (fs.set k (v, (fs[k]?.getD (0, 0)).2)) := by
  induction fs generalizing k with
  | nil => simp at h
  | cons f fs ih =>
    cases k with
    | zero => simp [fcells_cons]
    | succ k =>
      have := ih k (by simpa using h)
      rw [show (k + 1) * 2 = k * 2 + 1 + 1 by omega]
      simp [fcells_cons, this]
/-- Widths that fields have here. -/
def Wd (n : Int) : Prop := n = 1 ∨ n = 2 ∨ n = 4 ∨ n = 5
/-- The number of fields that stand one behind the other. -/
def layN : List (Int × Int) → Int → Int
  | [], n => n
  | f :: fs, n => layN fs (n * 2 ^ f.2.toNat + f.1)
theorem layN_take (fs : List (Int × Int)) (n : Int) (k : Nat) (h : k < fs.length) : layN (fs.take (k + 1)) n = layN (fs.take k) n * 2 ^ (fs[k]?.getD (0, 0)).2.toNat + (fs[k]?.getD (0, 0)).1 := by
  induction fs generalizing n k with
  | nil => simp at h
  | cons f fs ih =>
    cases k with
    | zero => simp [layN]
    | succ k => simpa [layN] using ih (n * 2 ^ f.2.toNat + f.1) k (by simpa using h)
/-- Fields that are to be laid: each fits its width, and all of them have at most 16 bits. -/
def Fit (fs : List (Int × Int)) : Prop := ∀ k, k < fs.length → Wd (fs[k]?.getD (0, 0)).2 ∧ 0 ≤ (fs[k]?.getD (0, 0)).1 ∧ (fs[k]?.getD (0, 0)).1 < 2 ^ (fs[k]?.getD (0, 0)).2.toNat ∧ 0 ≤ layN (fs.take k) 0 ∧ layN (fs.take k) 0 ≤ 65535
/-- Block g holds the fields. -/
def Flds (w : World) (g : Nat) (fs : List (Int × Int)) : Prop := g < w.heap.size ∧ ∀ j, w.cell? ⟨g, j, none⟩ = (fcells fs)[j]?
theorem Flds.below {w w' : World} {g : Nat} {fs : List (Int × Int)} (h : Flds w g fs) (hb : Below w.heap.size w w') : Flds w' g fs := ⟨Nat.lt_of_lt_of_le h.1 hb.size, fun j => (hb.cell (p := ⟨g, j, none⟩) h.1).trans (h.2 j)⟩
theorem or_1 (n v : Int) (h0 : 0 ≤ n) (h1 : n ≤ 65535) (h2 : 0 ≤ v) (h3 : v < 2) : bits .or .i64 (n * 2) v = n * 2 + v := or_low n v 1 (by decide) h0 h1 h2 h3
theorem or_2 (n v : Int) (h0 : 0 ≤ n) (h1 : n ≤ 65535) (h2 : 0 ≤ v) (h3 : v < 4) : bits .or .i64 (n * 4) v = n * 4 + v := or_low n v 2 (by decide) h0 h1 h2 h3
theorem or_4 (n v : Int) (h0 : 0 ≤ n) (h1 : n ≤ 65535) (h2 : 0 ≤ v) (h3 : v < 16) : bits .or .i64 (n * 16) v = n * 16 + v := or_low n v 4 (by decide) h0 h1 h2 h3
theorem or_5 (n v : Int) (h0 : 0 ≤ n) (h1 : n ≤ 65535) (h2 : 0 ≤ v) (h3 : v < 32) : bits .or .i64 (n * 32) v = n * 32 + v := or_low n v 5 (by decide) h0 h1 h2 h3
set_option maxHeartbeats 1000000 in
theorem lay_any (fs : List (Int × Int)) (n g : Nat) (hn : fs.length = n) (h8 : n ≤ 8) (hf : Fit fs) (w : World) (h : Flds w g fs) :
    Calls Try.prog 33 #[SL g n] w fun e w' => e = .returned (.int .i64 (layN fs 0)) ∧ Below w.heap.size w w' := by
  have H := hid h
  have HF := hid hf
  have HN := hid hn
  have e8 : (n : Int) ≤ 8 := by omega
  clear h hf hn
  go_enter Try.func33, Try.ntmps33
  go_wp2
  go_loopw [3, 8] (fun s i wr => ∃ (k : Nat) (m : Int), k ≤ n ∧ i = .int .i64 k ∧ s = .int .i64 m ∧ Hid (m = layN (fs.take k) 0) ∧ Hid (Below w.heap.size w wr)) (fun _ i _ => n - (intOf i).toNat)
  case atStart => exact ⟨0, 0, by omega, rfl, rfl, hid (by simp [layN]), hid (Below.refl _ _)⟩
  case round =>
    obtain ⟨k, m, hk, rfl, rfl, HM, HB⟩ := hrel
    by_cases hkn : k < n
    · have hz : (k : Int) < n := by omega
      have hkl : k < fs.length := by rw [HN.out]; exact hkn
      have hc := (H.out.below HB.out).2
      obtain ⟨d0, d1⟩ := fcells_get fs k hkl
      have c0 := (hc _).trans d0
      have c1 := (hc _).trans d1
      obtain ⟨w1, w2, w3, w4, w5⟩ := HF.out k hkl
      have HS := hid (layN_take fs 0 k hkl)
      rw [← HM.out] at w4 w5 HS
      generalize (fs[k]?.getD (0, 0)).1 = z at c0 w2 w3 HS
      generalize (fs[k]?.getD (0, 0)).2 = d at c1 w1 w3 HS
      clear hc d0 d1
      rcases w1 with rfl | rfl | rfl | rfl
      · have w6 : z < 2 := w3
        have o1 := or_1 m z w4 w5 w2 w6
        have HX := hid (show m * 2 + z = layN (fs.take (k + 1)) 0 from HS.out.symm)
        clear w3
        go_wp2
        go_region
        go_wp2
        go_roundw
        case rel => exact ⟨k + 1, m * 2 + z, by omega, by go_num, rfl, HX, hid ((HB.out.alloc HB.out.size _).drew)⟩
        case measure => first | (simp [intOf]; done) | (simp [intOf]; omega)
      · have w6 : z < 4 := w3
        have o1 := or_2 m z w4 w5 w2 w6
        have HX := hid (show m * 4 + z = layN (fs.take (k + 1)) 0 from HS.out.symm)
        clear w3
        go_wp2
        go_region
        go_wp2
        go_roundw
        case rel => exact ⟨k + 1, m * 4 + z, by omega, by go_num, rfl, HX, hid ((HB.out.alloc HB.out.size _).drew)⟩
        case measure => first | (simp [intOf]; done) | (simp [intOf]; omega)
      · have w6 : z < 16 := w3
        have o1 := or_4 m z w4 w5 w2 w6
        have HX := hid (show m * 16 + z = layN (fs.take (k + 1)) 0 from HS.out.symm)
        clear w3
        go_wp2
        go_region
        go_wp2
        go_roundw
        case rel => exact ⟨k + 1, m * 16 + z, by omega, by go_num, rfl, HX, hid ((HB.out.alloc HB.out.size _).drew)⟩
        case measure => first | (simp [intOf]; done) | (simp [intOf]; omega)
      · have w6 : z < 32 := w3
        have o1 := or_5 m z w4 w5 w2 w6
        have HX := hid (show m * 32 + z = layN (fs.take (k + 1)) 0 from HS.out.symm)
        clear w3
        go_wp2
        go_region
        go_wp2
        go_roundw
        case rel => exact ⟨k + 1, m * 32 + z, by omega, by go_num, rfl, HX, hid ((HB.out.alloc HB.out.size _).drew)⟩
        case measure => first | (simp [intOf]; done) | (simp [intOf]; omega)
    · have hk' : k = n := by omega
      have HE := hid (show m = layN fs 0 by rw [HM.out, hk', List.take_of_length_le (by rw [HN.out]; omega)])
      clear hk'
      go_wp2
      go_ret
      exact ⟨ret_i HE.out, HB.out⟩
/-- Fields that get the values that they have in a number: all behind the first k. -/
def fillF : List (Int × Int) → Int → List (Int × Int) × Int
  | [], n => ([], n)
  | f :: fs, n => ((let r := fillF fs n; (r.2 % 2 ^ f.2.toNat, f.2) :: r.1), (fillF fs n).2 / 2 ^ f.2.toNat)
theorem fillF_length (fs : List (Int × Int)) (n : Int) : (fillF fs n).1.length = fs.length := by
  induction fs with
  | nil => rfl
  | cons f fs ih => simp [fillF, ih]
theorem fillF_range (fs : List (Int × Int)) (n : Int) (h : 0 ≤ n ∧ n ≤ 65535) : 0 ≤ (fillF fs n).2 ∧ (fillF fs n).2 ≤ 65535 := by
  induction fs with
  | nil => exact h
  | cons f fs ih =>
    have hp : (0 : Int) < 2 ^ f.2.toNat := Int.pow_pos (by decide)
    exact ⟨Int.ediv_nonneg ih.1 (by omega), Int.le_trans (Int.ediv_le_self _ ih.1) ih.2⟩
/-- Where k of them are not filled yet. -/
def midF (fs : List (Int × Int)) (n : Int) (k : Nat) : List (Int × Int) := fs.take k ++ (fillF (fs.drop k) n).1
theorem midF_length (fs : List (Int × Int)) (n : Int) (k : Nat) : (midF fs n k).length = fs.length := by
  simp [midF, fillF_length]; omega
theorem midF_step (fs : List (Int × Int)) (n : Int) (k : Nat) (h : k < fs.length) :
    ((midF fs n (k + 1))[k]?.getD (0, 0)) = (fs[k]?.getD (0, 0)) ∧
    (midF fs n (k + 1)).set k ((fillF (fs.drop (k + 1)) n).2 % 2 ^ (fs[k]?.getD (0, 0)).2.toNat, (fs[k]?.getD (0, 0)).2) = midF fs n k ∧
    (fillF (fs.drop k) n).2 = (fillF (fs.drop (k + 1)) n).2 / 2 ^ (fs[k]?.getD (0, 0)).2.toNat := by
  have e : fs.drop k = fs[k] :: fs.drop (k + 1) := List.drop_eq_getElem_cons h
  have ek : fs[k]?.getD (0, 0) = fs[k] := by simp [h]
  have et : fs.take (k + 1) = fs.take k ++ [fs[k]] := by rw [List.take_add_one, List.getElem?_eq_getElem h]; rfl
  have hl : (fs.take k).length = k := by simp; omega
  refine ⟨?_, ?_, ?_⟩
  · unfold midF
    rw [et, List.append_assoc, List.getElem?_append_right (by omega), hl, Nat.sub_self, ek]
    simp
  · unfold midF
    rw [et, ek, e, List.append_assoc, List.set_append_right _ _ (by omega), hl, Nat.sub_self]
    simp [fillF]
  · rw [e, ek]
    rfl
theorem fits_1 (m : Int) (h0 : 0 ≤ m) (h1 : m ≤ 65535) : bits .and .i64 m 1 = m % 2 := and_low m 1 (by decide) h0 h1
theorem fits_2 (m : Int) (h0 : 0 ≤ m) (h1 : m ≤ 65535) : bits .and .i64 m 3 = m % 4 := and_low m 2 (by decide) h0 h1
theorem fits_4 (m : Int) (h0 : 0 ≤ m) (h1 : m ≤ 65535) : bits .and .i64 m 15 = m % 16 := and_low m 4 (by decide) h0 h1
theorem fits_5 (m : Int) (h0 : 0 ≤ m) (h1 : m ≤ 65535) : bits .and .i64 m 31 = m % 32 := and_low m 5 (by decide) h0 h1
set_option maxHeartbeats 1000000 in
theorem fill_any (fs : List (Int × Int)) (n g : Nat) (z : Int) (hn : fs.length = n) (h8 : n ≤ 8) (hf : ∀ k, k < fs.length → Wd (fs[k]?.getD (0, 0)).2) (hz : 0 ≤ z ∧ z ≤ 65535) (w0 : World) (t : TypeId) (l : List Blk) (w : World) (h : Own w0 (⟨g, (fcells fs).toArray, t⟩ :: l) w) :
    Calls Try.prog 37 #[SL g n, .int .i64 z] w fun e w' => e = .returned (.tuple #[]) ∧ Hid (Own w0 (⟨g, (fcells (fillF fs z).1).toArray, t⟩ :: l) w') := by
  have H := hid h
  have HF := hid hf
  have HN := hid hn
  have HZ := hid hz
  have e8 : (n : Int) ≤ 8 := by omega
  clear h hf hn hz
  go_enter Try.func37, Try.ntmps37
  go_wp2
  go_loopw [1, 4] (fun s i wr => ∃ (k : Nat) (m : Int), k ≤ n ∧ i = .int .i64 ((k : Int) - 1) ∧ s = .int .i64 m ∧ Hid (m = (fillF (fs.drop k) z).2) ∧ Hid (Own w0 (⟨g, (fcells (midF fs z k)).toArray, t⟩ :: l) wr)) (fun _ i _ => (intOf i + 1).toNat)
  case atStart => exact ⟨n, z, by omega, by go_num, rfl, hid (by rw [List.drop_of_length_le (by rw [HN.out]; omega)]; rfl), hid (by unfold midF; rw [List.take_of_length_le (by rw [HN.out]; omega), List.drop_of_length_le (by rw [HN.out]; omega)]; simpa [fillF] using H.out)⟩
  case round =>
    obtain ⟨k, m, hk, rfl, rfl, HM, HO⟩ := hrel
    rcases k with _ | k
    · have HE := hid (show midF fs z 0 = (fillF fs z).1 by simp [midF])
      rw [HE.out] at HO
      go_wp2
      go_end0
      exact ⟨rfl, HO⟩
    · rw [show (((k + 1 : Nat) : Int) - 1) = (k : Int) by omega]
      have hkl : k < fs.length := by rw [HN.out]; omega
      have hml : k < (midF fs z (k + 1)).length := by rw [midF_length]; exact hkl
      obtain ⟨s1, s2, s3⟩ := midF_step fs z k hkl
      obtain ⟨d0, d1⟩ := fcells_get (midF fs z (k + 1)) k hml
      rw [s1] at d0 d1
      have c1 := (HO.out.c (k * 2 + 1)).trans (by simpa using d1)
      have fr := HO.out.f (k * 2)
      have q0 : k * 2 < (fcells (midF fs z (k + 1))).length := (List.getElem?_eq_some_iff.1 d0).1
      have hw := HF.out k hkl
      have hr := fillF_range (fs.drop (k + 1)) z HZ.out
      rw [← HM.out] at hr s2 s3
      have HS := hid (And.intro s2 s3)
      have hset := fun v => fcells_set (midF fs z (k + 1)) k v hml
      rw [s1] at hset
      generalize (fs[k]?.getD (0, 0)).2 = d at c1 hw HS hset
      have z0 := HO.out.z
      have hk8 : (k : Int) + 1 ≤ n := by omega
      have c0 := (HO.out.c (k * 2)).trans (by simpa using d0)
      have HSET := hid hset
      clear d0 d1 s1 s2 s3 hml hset
      rcases hw with rfl | rfl | rfl | rfl
      · have a1 := fits_1 m hr.1 hr.2
        have HNEW := hid (show Own w0 (⟨g, (fcells (midF fs z k)).toArray, t⟩ :: l) (wr.setCell ⟨g, k * 2, none⟩ (.int .i64 (m % 2))) by
          have h1 := HO.out.set (k * 2) (.int .i64 (m % 2))
          have h2 : ((fcells (midF fs z (k + 1))).toArray.setIfInBounds (k * 2) (.int .i64 (m % 2))) = (fcells (midF fs z k)).toArray := by
            rw [List.setIfInBounds_toArray, HSET.out, ← HS.out.1]; rfl
          rw [h2] at h1
          exact h1)
        have HM2 := hid (show m / 2 = (fillF (fs.drop k) z).2 from HS.out.2.symm)
        go_wp2
        go_roundw
        case rel => exact ⟨k, m / 2, by omega, by go_num, rfl, HM2, HNEW⟩
        case measure => first | (simp [intOf]; done) | (simp [intOf]; omega)
      · have a1 := fits_2 m hr.1 hr.2
        have HNEW := hid (show Own w0 (⟨g, (fcells (midF fs z k)).toArray, t⟩ :: l) (wr.setCell ⟨g, k * 2, none⟩ (.int .i64 (m % 4))) by
          have h1 := HO.out.set (k * 2) (.int .i64 (m % 4))
          have h2 : ((fcells (midF fs z (k + 1))).toArray.setIfInBounds (k * 2) (.int .i64 (m % 4))) = (fcells (midF fs z k)).toArray := by
            rw [List.setIfInBounds_toArray, HSET.out, ← HS.out.1]; rfl
          rw [h2] at h1
          exact h1)
        have HM2 := hid (show m / 4 = (fillF (fs.drop k) z).2 from HS.out.2.symm)
        go_wp2
        go_roundw
        case rel => exact ⟨k, m / 4, by omega, by go_num, rfl, HM2, HNEW⟩
        case measure => first | (simp [intOf]; done) | (simp [intOf]; omega)
      · have a1 := fits_4 m hr.1 hr.2
        have HNEW := hid (show Own w0 (⟨g, (fcells (midF fs z k)).toArray, t⟩ :: l) (wr.setCell ⟨g, k * 2, none⟩ (.int .i64 (m % 16))) by
          have h1 := HO.out.set (k * 2) (.int .i64 (m % 16))
          have h2 : ((fcells (midF fs z (k + 1))).toArray.setIfInBounds (k * 2) (.int .i64 (m % 16))) = (fcells (midF fs z k)).toArray := by
            rw [List.setIfInBounds_toArray, HSET.out, ← HS.out.1]; rfl
          rw [h2] at h1
          exact h1)
        have HM2 := hid (show m / 16 = (fillF (fs.drop k) z).2 from HS.out.2.symm)
        go_wp2
        go_roundw
        case rel => exact ⟨k, m / 16, by omega, by go_num, rfl, HM2, HNEW⟩
        case measure => first | (simp [intOf]; done) | (simp [intOf]; omega)
      · have a1 := fits_5 m hr.1 hr.2
        have HNEW := hid (show Own w0 (⟨g, (fcells (midF fs z k)).toArray, t⟩ :: l) (wr.setCell ⟨g, k * 2, none⟩ (.int .i64 (m % 32))) by
          have h1 := HO.out.set (k * 2) (.int .i64 (m % 32))
          have h2 : ((fcells (midF fs z (k + 1))).toArray.setIfInBounds (k * 2) (.int .i64 (m % 32))) = (fcells (midF fs z k)).toArray := by
            rw [List.setIfInBounds_toArray, HSET.out, ← HS.out.1]; rfl
          rw [h2] at h1
          exact h1)
        have HM2 := hid (show m / 32 = (fillF (fs.drop k) z).2 from HS.out.2.symm)
        go_wp2
        go_roundw
        case rel => exact ⟨k, m / 32, by omega, by go_num, rfl, HM2, HNEW⟩
        case measure => first | (simp [intOf]; done) | (simp [intOf]; omega)
end Go.Proofs.Ytllnjmpakkodnaa
