/-
  The two places of prefixes: what the program's table of them is in memory; a place's byte added, and read.
-/
import Derived.Test.YtgioggpehlhbfaaRxBits
import Derived.Test.YtgioggpehlhbfaaRowZ
import Derived.Test.YtgioggpehlhbfaaOwn
import Derived.OwnWalk
namespace Go.Proofs.Ytgioggpehlhbfaa
open Go.RowKit
set_option maxRecDepth 100000

/-- A slice of n cells at the head of block g. -/
abbrev SL (g n : Nat) : Value := .slice (some ⟨g, 0, none⟩) n n
/-- The two places: four slices, from block g on. -/
abbrev placesV (g : Nat) : Value := .agg #[SL (g + 1) 1, SL (g + 1 + 1) 1, SL (g + 1 + 1 + 1) 2, SL (g + 1 + 1 + 1 + 1) 2]
theorem places_any (w : World) :
    Calls Try.prog 25 #[] w fun e w' => e = .returned (placesV w.heap.size) ∧ Hid (Own w [⟨w.heap.size + 1 + 1 + 1 + 1, #[.int .u8 242, .int .u8 243], 5⟩, ⟨w.heap.size + 1 + 1 + 1, #[.int .i64 2, .int .i64 4], 3⟩, ⟨w.heap.size + 1 + 1, #[.int .u8 102], 5⟩, ⟨w.heap.size + 1, #[.int .i64 1], 3⟩, ⟨w.heap.size, #[SL (w.heap.size + 1) 1, SL (w.heap.size + 1 + 1) 1, SL (w.heap.size + 1 + 1 + 1) 2, SL (w.heap.size + 1 + 1 + 1 + 1) 2], 44⟩] w') := by
  have HO := hid (((((Own.nil w).alloc w.heap.size #[SL (w.heap.size + 1) 1, SL (w.heap.size + 1 + 1) 1, SL (w.heap.size + 1 + 1 + 1) 2, SL (w.heap.size + 1 + 1 + 1 + 1) 2] 44 rfl).alloc (w.heap.size + 1) #[.int .i64 1] 3 (by simp)).alloc (w.heap.size + 1 + 1) #[.int .u8 102] 5 (by simp)).alloc (w.heap.size + 1 + 1 + 1) #[.int .i64 2, .int .i64 4] 3 (by simp)).alloc (w.heap.size + 1 + 1 + 1 + 1) #[.int .u8 242, .int .u8 243] 5 (by simp)
  go_enter Try.func25, Try.ntmps25
  go_wp2
  refine bodyPost_ret (v := placesV w.heap.size) (by simp [results, Try.results25, go_sem, *]) rfl ⟨rfl, ?_⟩
  exact hid HO
/-- The numbers that stand at the head of a block. -/
def Nums (w : World) (B a : Nat) (ps : List Int) : Prop := a < B ∧ ∀ i, i < ps.length → w.cell? ⟨a, i, none⟩ = some (.int .i64 (ps[i]?.getD 0))
theorem Nums.below {w w' : World} {B a : Nat} {ps : List Int} (h : Nums w B a ps) (hb : Below B w w') : Nums w' B a ps := ⟨h.1, fun i hi => (hb.cell (p := ⟨a, i, none⟩) h.1).trans (h.2 i hi)⟩
/-- The bytes of the prefixes that are there. -/
def addF (pre : Int) : List Int → List Int → List Int
  | p :: ps, b :: bs => (if bits .and .i64 pre p = 0 then [] else [b]) ++ addF pre ps bs
  | _, _ => []
theorem addF_succ (pre : Int) (ps bs : List Int) (k : Nat) (h1 : k < ps.length) (h2 : k < bs.length) :
    addF pre (ps.take (k + 1)) (bs.take (k + 1)) = addF pre (ps.take k) (bs.take k) ++ (if bits .and .i64 pre (ps[k]?.getD 0) = 0 then [] else [bs[k]?.getD 0]) := by
  induction k generalizing ps bs with
  | zero =>
    match ps, bs, h1, h2 with
    | p :: ps, b :: bs, _, _ => simp [addF]
  | succ k ih =>
    match ps, bs, h1, h2 with
    | p :: ps, b :: bs, h1, h2 =>
      have := ih ps bs (by simpa using h1) (by simpa using h2)
      simp only [List.take_succ_cons, addF, this, List.append_assoc]
      simp
theorem addF_length (pre : Int) (ps bs : List Int) (n : Nat) (h : bs.length ≤ n) : (addF pre ps bs).length ≤ n := by
  induction ps generalizing bs n with
  | nil => simp [addF]
  | cons p ps ih =>
    match bs with
    | [] => simp [addF]
    | b :: bs =>
      obtain ⟨m, rfl⟩ : ∃ m, n = m + 1 := ⟨n - 1, by simp at h; omega⟩
      have := ih bs m (by simpa using h)
      simp only [addF, List.length_append]
      split <;> simp <;> omega
theorem Mem.at {w : World} {B b : Nat} {zs : List Int} (h : Mem w B (some ⟨b, 0, none⟩) zs) {k : Nat} (hk : k < zs.length) : b < B ∧ w.cell? ⟨b, k, none⟩ = some (.int .u8 (zs[k]?.getD 0)) := by
  rcases h.2 with rfl | ⟨g, off, e, hg, hc⟩
  · simp at hk
  · injection e with e
    injection e with e1 e2
    subst e1 e2
    exact ⟨hg, by have := hc k hk; rwa [Nat.zero_add] at this⟩
set_option maxHeartbeats 1000000 in
theorem add_any (pre : Int) (a b n : Nat) (ps bs xs : List Int) (hp : ps.length = n) (hbn : bs.length = n) (hn : n ≤ 2) (v : Value) (w : World) (base : Nat) (hb : base ≤ w.heap.size) (h : RowZ w base v xs) (hx : xs.length ≤ 10)
    (ha : Nums w base a ps) (hm : Mem w base (some ⟨b, 0, none⟩) bs) :
    Calls Try.prog 26 #[.agg #[SL a n, SL b n], v, .int .i64 pre] w fun e w' => ∃ v', e = .returned v' ∧ Below base w w' ∧ RowZ w' base v' (xs ++ addF pre ps bs) := by
  have HA := hid ha
  have HM := hid hm
  have HX := hid hx
  have HP := hid hp
  have HBN := hid hbn
  have HV := hid h
  clear ha hm hx h hp hbn
  have hn3 : (n : Int) ≤ 2 := by omega
  go_enter Try.func26, Try.ntmps26
  go_wp2
  go_loopw [1, 12] (fun u i wr => ∃ k : Nat, k ≤ n ∧ i = .int .i64 k ∧ Hid (Below base w wr) ∧ Hid (RowZ wr base u (xs ++ addF pre (ps.take k) (bs.take k))) ∧ Hid (wr.heap[w.heap.size]? = some (.cells #[SL a n, SL b n] 43 (0, 0)))) (fun _ i _ => n - (intOf i).toNat)
  case atStart => exact ⟨0, by omega, rfl, hid ((Below.refl _ _).alloc hb _), hid (by simpa [addF] using HV.out.alloc _), hid (heap_alloc_new w _)⟩
  case round =>
    obtain ⟨k, hk, rfl, HB, HR, HK⟩ := hrel
    have c0 : wr.cell? ⟨w.heap.size, 0, none⟩ = some (SL a n) := cell_of_row _ _ _ _ _ _ HK.out
    have c1 : wr.cell? ⟨w.heap.size, 1, none⟩ = some (SL b n) := cell_of_row _ _ _ _ _ _ HK.out
    by_cases hkn : k < n
    · have hz : (k : Int) < n := by omega
      have cp := ((HA.out.below HB.out).2 k (by rw [HP.out]; exact hkn))
      have cb := ((HM.out.below HB.out).at (k := k) (by rw [HBN.out]; exact hkn)).2
      have hr := (HM.out.1).getD k
      have HS := hid (addF_succ pre ps bs k (by rw [HP.out]; exact hkn) (by rw [HBN.out]; exact hkn))
      have HL := hid (show (xs ++ addF pre (ps.take k) (bs.take k)).length ≤ 1000 by
        have h1 := addF_length pre (ps.take k) (bs.take k) 2 (by rw [List.length_take]; omega)
        have h2 := HX.out
        rw [List.length_append]; omega)
      generalize ps[k]?.getD 0 = p at cp HS
      generalize bs[k]?.getD 0 = z at cb HS hr
      by_cases hq : bits .and .i64 pre p = 0
      · have hq2 : (bits .and .i64 pre p != 0) = false := by simp [hq]
        have HQ := hid hq
        clear hq
        go_wp2
        go_roundw
        case rel => exact ⟨k + 1, by omega, by go_num, HB, hid (by rw [HS.out, if_pos HQ.out, List.append_nil]; exact HR.out), HK⟩
        case measure => simp [intOf]; omega
      · have hq2 : (bits .and .i64 pre p != 0) = true := by simp [hq]
        have HQ := hid hq
        clear hq
        go_wp2_with (at_builtin; refine wpList_append_rowz rfl _ _ rfl base u1 _ rfl (HR.out.alloc _) HL.out (by simp; have := HB.out.size; omega) wr.heap.size 1 z rfl (by simp) hr ?_; intro u2 w2 hr2 hg2)
        have hlt := (Array.getElem?_eq_some_iff.1 HK.out).1
        have HK2 := hid (show w2.heap[w.heap.size]? = some (.cells #[SL a n, SL b n] 43 (0, 0)) from
          (hg2.out.block w.heap.size (by simp; omega) (HR.out.far HK.out (by decide))).trans ((Below.heap_alloc _ _ _ hlt).trans HK.out))
        have HB2 := hid ((HB.out.alloc (by have := HB.out.size; omega) (.cells #[.int .u8 z] 5)).grown hg2.out (by simp; have := HB.out.size; omega) HR.out.own)
        clear hg2 hlt c0 c1 cp cb
        go_wp2
        go_roundw
        case rel => exact ⟨k + 1, by omega, by go_num, HB2, hid (by rw [HS.out, if_neg HQ.out, ← List.append_assoc]; exact hr2.out), HK2⟩
        case measure => simp [intOf]; omega
    · have hk' : k = n := by omega
      have HE := hid (show addF pre (ps.take k) (bs.take k) = addF pre ps bs by rw [hk', List.take_of_length_le (by rw [HP.out]; omega), List.take_of_length_le (by rw [HBN.out]; omega)])
      clear hk'
      go_wp2
      go_ret
      exact ⟨u1, rfl, HB.out, by rw [← HE.out]; exact HR.out⟩
end Go.Proofs.Ytgioggpehlhbfaa
