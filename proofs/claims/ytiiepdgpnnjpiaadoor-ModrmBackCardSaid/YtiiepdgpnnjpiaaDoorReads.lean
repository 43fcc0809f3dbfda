/-
  Read, of the program and of the document: one answer.
  Read, of the document: the program's answer.
  Read, of the document, in one: what the program answers.
-/
import Derived.Test.YtiiepdgpnnjpiaaDoorRead
import Derived.Test.YtiiepdgpnnjpiaaDoorRRead
import Derived.Test.YtiiepdgpnnjpiaaDoorRdPlaces
section
namespace Go.Proofs.YtiiepdgpnnjpiaaDoor
open Go.RowKit
set_option maxRecDepth 100000

theorem regsF_n (mod rm x b : Int) (l : List Int) : (regsF mod rm x b l).2.2 ≤ 1 := by
  unfold regsF
  cases l <;> (repeat' split) <;> simp_all
theorem width_le (mod : Int) : widthF mod ≤ 4 := by have := width_n mod; omega
theorem placeF_n (mod rm x b : Int) (l : List Int) : (placeF mod rm x b l).2.2 ≤ 5 := by
  have h := regsF_n mod rm x b l
  unfold placeF
  generalize regsF mod rm x b l = R at h ⊢
  obtain ⟨e, p, n⟩ := R
  simp only at h ⊢
  by_cases he : e = 0
  · rw [if_pos he]
    have h2 := width_le (if p.bc = 5 then mod else 2)
    generalize widthF (if p.bc = 5 then mod else 2) = v at h2 ⊢
    by_cases hl : l.length < n + v
    · rw [if_pos hl]; simp
    · rw [if_neg hl]; simp only; omega
  · rw [if_neg he]; simp
theorem readF_n (x b : Int) (l : List Int) : (readF x b l).2.n ≤ 6 := by
  cases l with
  | nil => simp [readF, zeroS]
  | cons c r =>
    have h := placeF_n (c / 64) (c % 8) x b r
    simp only [readF]
    by_cases h3 : c / 64 = 3
    · rw [if_pos h3]
      by_cases h1 : x = 1
      · rw [if_pos h1]; simp [zeroS]
      · rw [if_neg h1]; simp
    · rw [if_neg h3]
      generalize placeF (c / 64) (c % 8) x b r = P at h ⊢
      by_cases h0 : P.1 = 0
      · rw [if_pos h0]; simp only; omega
      · rw [if_neg h0]; simp [zeroS]
/-- THE PROGRAM'S Read. -/
theorem mread_any (A : Option Addr) (m c : Nat) (at_ x b : Int) (xs : List Int) (w : World) (hm : xs.length = m) (hmc : m ≤ c) (hmb : m ≤ 1000000) (hM : Mem w w.heap.size A xs) :
    Calls Tryd.prog 14 #[.slice A m c, .int .i64 at_, .int .i64 x, .int .i64 b] w fun e w' => e = .returned (RV (readA xs at_ x b)) ∧ Below w.heap.size w w' := by
  have out : (at_ < 0 ∨ (xs.length : Int) < at_ ∨ ¬ (x = 0 ∨ x = 1) ∨ ¬ (b = 0 ∨ b = 1)) → RV (readA xs at_ x b) = .tuple #[.agg #[.int .i64 0, .int .i64 0, .int .i64 0, .int .i64 0, .int .i64 0, .int .i64 0, .int .i64 0, .int .i64 0, .int .i64 0, .int .i64 0], .int .i64 5] := fun h => by unfold readA; rw [if_pos h]; rfl
  by_cases h1 : at_ < 0
  · rw [out (.inl h1)]; exact read_neg A m c at_ x b h1 w
  by_cases h2 : (m : Int) < at_
  · rw [out (.inr (.inl (by rw [hm]; exact h2)))]; exact read_far A m c at_ x b (by omega) h2 w
  by_cases hx : x = 0 ∨ x = 1
  · by_cases hb : b = 0 ∨ b = 1
    · obtain ⟨k, rfl⟩ := Int.eq_ofNat_of_zero_le (show 0 ≤ at_ by omega)
      have hk : k ≤ m := by omega
      have hA : readA xs k x b = if (readF x b ((xs.drop k).take 15)).1 = 0 then (0, (readF x b ((xs.drop k).take 15)).2, (k : Int) + (readF x b ((xs.drop k).take 15)).2.n) else ((readF x b ((xs.drop k).take 15)).1, zeroS, 0) := by
        unfold readA
        rw [if_neg (by rw [hm]; omega)]
        rfl
      rw [hA]
      have hn := readF_n x b ((xs.drop k).take 15)
      generalize hR : readF x b ((xs.drop k).take 15) = R at hn ⊢
      obtain ⟨er, ⟨f, r, ⟨p0, p1, p2, p3, p4, p5, p6⟩, n⟩⟩ := R
      simp only at hn ⊢
      by_cases he : er = 0
      · subst he
        rw [if_pos rfl]
        exact read_ok A m c k n x b f r p0 p1 p2 p3 p4 p5 p6 xs w hm hmc hk hmb hM hx hb (by omega) (hid hR)
      · rw [if_neg he]
        exact read_err A m c k x b er xs w hm hmc hk hM hx hb he _ (hid hR)
    · rw [out (.inr (.inr (.inr hb)))]; exact read_b A m c at_ x b (by omega) (by omega) hx hb w
  · rw [out (.inr (.inr (.inl hx)))]; exact read_x A m c at_ x b (by omega) (by omega) hx w
end Go.Proofs.YtiiepdgpnnjpiaaDoor
end
section
namespace Go.Proofs.YtiiepdgpnnjpiaaDoor
open Go.RowKit
set_option maxRecDepth 100000

/-- Where a place is read, so from the error and the place. -/
def seenA (i : Int) (k : Nat) (P : Int × Pl × Nat) : Int × Sn × Int := if P.1 = 0 then (0, ⟨i, -1, P.2.1, 1 + P.2.2⟩, (k : Int) + ((1 + P.2.2 : Nat) : Int)) else (P.1, zeroS, 0)
theorem disp_tail {xs rest : List Int} {k : Nat} (hr : rest = ((xs.drop k).take 15).drop 1) (n v : Nat) (hv : v = 0 ∨ v = 1 ∨ v = 4) (hn : n ≤ 1) (hl : k + 1 + n + v ≤ xs.length) : dispN rest n v = dispN xs (k + 1 + n) v := by
  subst hr
  unfold dispN
  by_cases h0 : v = 0
  · rw [if_pos h0, if_pos h0]
  · rw [if_neg h0, if_neg h0]
    have hso : sizeOk (v : Int) = true := by rcases hv with rfl | rfl | rfl <;> first | exact absurd rfl h0 | rfl
    have h1 : n + v ≤ (((xs.drop k).take 15).drop 1).length := by rw [List.length_drop, List.length_take, List.length_drop]; omega
    rw [getN_ok _ n v true hso h1, getN_ok xs (k + 1 + n) v true hso (by omega)]
    simp only [if_true]
    have e : numAt (((xs.drop k).take 15).drop 1) n v = numAt xs (k + 1 + n) v := by
      unfold numAt
      congr 2
      apply List.ext_getElem?
      intro j
      simp only [List.getElem?_take, List.getElem?_drop]
      by_cases hj : j < v
      · rw [if_pos hj, if_pos hj, if_pos (by omega)]
        congr 1
        omega
      · rw [if_neg hj, if_neg hj]
    rw [e]
theorem doc_place {xs rest : List Int} {k : Nat} (hx : isBytes xs) (hr : rest = ((xs.drop k).take 15).drop 1) (hk : k < xs.length) {q l x b i : Int} {p : Pl} {n : Nat} (hxx : 0 ≤ x ∧ x ≤ 1) (hb : 0 ≤ b ∧ b ≤ 1) (hl : 0 ≤ l ∧ l ≤ 7) (hR : regsF q l x b rest = (0, p, n)) (hn : n ≤ 1) :
    RV (seenA i k (placeF q l x b rest)) = RV (docD xs (k + 1 + n) (widthF (if p.bc = 5 then q else 2)) i p) := by
  have hrb : isBytes rest := by subst hr; exact ((hx.drop k).take 15).drop 1
  obtain ⟨e1, e2, e3, e4, e5⟩ := regs_ok hrb hxx hb hl hR
  have hv := width_n (if p.bc = 5 then q else 2)
  have hlen : rest.length = min 15 (xs.length - k) - 1 := by subst hr; rw [List.length_drop, List.length_take, List.length_drop]
  unfold placeF docD
  rw [hR]
  simp only [if_true]
  generalize widthF (if p.bc = 5 then q else 2) = v at hv ⊢
  by_cases h : xs.length < k + 1 + n + v
  · rw [if_pos h, if_pos (by omega)]
    simp [seenA]
  · rw [if_neg h, if_neg (by omega)]
    have hd := disp_tail hr n v hv hn (by omega)
    rw [hd]
    have hD : D32 (dispN xs (k + 1 + n) v) := by
      unfold dispN
      by_cases h0 : v = 0
      · rw [if_pos h0]; unfold D32; omega
      · rw [if_neg h0]; exact getN_d32 _ _ _ (by omega) (by omega)
    have ho : outF { p with d := dispN xs (k + 1 + n) v } = canonF { p with d := dispN xs (k + 1 + n) v } := by unfold outF; rw [if_pos (e5 _ hD)]
    rw [ho]
    simp only [seenA, if_true, RV]
    have : (k : Int) + ((1 + (n + v) : Nat) : Int) = ((k + 1 + n : Nat) : Int) + (v : Int) := by omega
    rw [this]
end Go.Proofs.YtiiepdgpnnjpiaaDoor
end
section
namespace Go.Proofs.YtiiepdgpnnjpiaaDoor
open Go.RowKit
set_option maxRecDepth 100000

theorem doc_sib {xs rest : List Int} {k : Nat} (hx : isBytes xs) (hr : rest = ((xs.drop k).take 15).drop 1) (hk : k < xs.length) {q x b i t : Int} (hxx : 0 ≤ x ∧ x ≤ 1) (hb : 0 ≤ b ∧ b ≤ 1) (ht : xs[k + 1]?.getD 0 = t) :
    RV (seenA i k (placeF q 4 x b rest)) = RV (docS xs (k + 1) q i x b t) := by
  by_cases hl : k + 1 < xs.length
  · have e : ∃ r, rest = t :: r := by
      have hl2 : 1 < ((xs.drop k).take 15).length := by rw [List.length_take, List.length_drop]; omega
      subst hr
      rw [List.drop_eq_getElem_cons hl2]
      refine ⟨((xs.drop k).take 15).drop (1 + 1), ?_⟩
      congr 1
      rw [← ht, List.getElem?_eq_getElem hl]
      simp [List.getElem_take, List.getElem_drop]
    obtain ⟨r, hr2⟩ := e
    have hF : regsF q 4 x b rest = if t / 8 % 8 + 8 * x = 4 ∧ ¬ t / 64 = 0 ∨ q = 0 ∧ t % 8 = 5 ∧ b = 1 then (4, zeroM, 1)
      else (0, ⟨if q = 0 ∧ t % 8 = 5 then 0 else 5, if q = 0 ∧ t % 8 = 5 then 0 else 8 * b + t % 8, if t / 8 % 8 + 8 * x = 4 then 0 else 5, if t / 8 % 8 + 8 * x = 4 then 0 else 8 * x + t / 8 % 8, if t / 8 % 8 + 8 * x = 4 then 0 else 2 ^ (t / 64).toNat, 0, 0⟩, 1) := by
      rw [hr2]; simp only [regsF, if_true]
    unfold docS
    rw [if_neg (by omega)]
    by_cases hc : t / 8 % 8 + 8 * x = 4 ∧ ¬ t / 64 = 0 ∨ q = 0 ∧ t % 8 = 5 ∧ b = 1
    · rw [if_pos hc]
      rw [if_pos hc] at hF
      unfold placeF
      rw [hF]
      simp [seenA]
    · rw [if_neg hc]
      rw [if_neg hc] at hF
      have := doc_place hx hr hk (i := i) hxx hb (by omega) hF (by omega)
      rw [this]
      have ew : widthF (if (if q = 0 ∧ t % 8 = 5 then (0 : Int) else 5) = 5 then q else 2) = if q = 0 ∧ t % 8 = 5 then 4 else widthF q := by
        by_cases h : q = 0 ∧ t % 8 = 5
        · rw [if_pos h, if_pos h]; rfl
        · rw [if_neg h, if_neg h]; rfl
      simp only [ew, Int.add_comm (8 * b), Int.add_comm (8 * x)]
  · have e : rest = [] := by
      subst hr
      rw [List.drop_eq_nil_iff, List.length_take, List.length_drop]; omega
    unfold docS
    rw [if_pos (by omega), e]
    unfold placeF
    have : regsF q 4 x b [] = (9, zeroM, 0) := rfl
    rw [this]
    simp [seenA]
/-- THE DOCUMENT'S Read. -/
theorem dread_any (A : Option Addr) (m c : Nat) (at_ x b : Int) (xs : List Int) (w : World) (hm : xs.length = m) (hmc : m ≤ c) (hmb : m ≤ 10000) (hM : Mem w w.heap.size A xs) :
    Calls Tryd.prog 15 #[.slice A m c, .int .i64 at_, .int .i64 x, .int .i64 b] w fun e w' => e = .returned (RV (readA xs at_ x b)) ∧ Below w.heap.size w w' := by
  have out : (at_ < 0 ∨ (xs.length : Int) < at_ ∨ ¬ (x = 0 ∨ x = 1) ∨ ¬ (b = 0 ∨ b = 1)) → RV (readA xs at_ x b) = .tuple #[.agg #[.int .i64 0, .int .i64 0, .int .i64 0, .int .i64 0, .int .i64 0, .int .i64 0, .int .i64 0, .int .i64 0, .int .i64 0, .int .i64 0], .int .i64 5] := fun h => by unfold readA; rw [if_pos h]; rfl
  by_cases h1 : at_ < 0
  · rw [out (.inl h1)]; exact dread_neg A m c at_ x b h1 w
  by_cases h2 : (m : Int) < at_
  · rw [out (.inr (.inl (by rw [hm]; exact h2)))]; exact dread_far A m c at_ x b (by omega) h2 w
  by_cases hx0 : x < 0
  · rw [out (by omega)]; exact dread_x0 A m c at_ x b (by omega) (by omega) hx0 w
  by_cases hx1 : 1 < x
  · rw [out (by omega)]; exact dread_x1 A m c at_ x b (by omega) (by omega) hx1 w
  by_cases hb0 : b < 0
  · rw [out (by omega)]; exact dread_b0 A m c at_ x b (by omega) (by omega) (by omega) (by omega) hb0 w
  by_cases hb1 : 1 < b
  · rw [out (by omega)]; exact dread_b1 A m c at_ x b (by omega) (by omega) (by omega) (by omega) hb1 w
  clear out
  have hxx : 0 ≤ x ∧ x ≤ 1 := by omega
  have hbb : 0 ≤ b ∧ b ≤ 1 := by omega
  obtain ⟨k, rfl⟩ := Int.eq_ofNat_of_zero_le (show 0 ≤ at_ by omega)
  have hA : readA xs k x b = if (readF x b ((xs.drop k).take 15)).1 = 0 then (0, (readF x b ((xs.drop k).take 15)).2, (k : Int) + (readF x b ((xs.drop k).take 15)).2.n) else ((readF x b ((xs.drop k).take 15)).1, zeroS, 0) := by
    unfold readA
    rw [if_neg (by rw [hm]; omega)]
    rfl
  by_cases hk : k = m
  · subst hk
    have he : (xs.drop k).take 15 = [] := by rw [List.drop_eq_nil_iff.2 (by omega)]; rfl
    rw [hA, he]
    exact dread_cut A k c x b hxx.1 hxx.2 hbb.1 hbb.2 w
  have hkm : k < m := by omega
  have hkl : k < xs.length := by omega
  have hM' := hM
  obtain ⟨hby, hM'⟩ := hM'
  rcases hM' with rfl | ⟨blk, off, rfl, _, hc⟩
  · simp at hkl
  have hcs := hc k hkl
  have hs0 := hby.getD k
  have ht : k + 1 < m → (0 ≤ xs[k + 1]?.getD 0 ∧ xs[k + 1]?.getD 0 < 256) ∧ w.cell? ⟨blk, off + (k + 1), none⟩ = some (.int .u8 (xs[k + 1]?.getD 0)) := fun h => ⟨hby.getD (k + 1), hc (k + 1) (by omega)⟩
  have hd : (xs.drop k).take 15 = xs[k]?.getD 0 :: ((xs.drop k).take 15).drop 1 := by
    have hl : 0 < ((xs.drop k).take 15).length := by rw [List.length_take, List.length_drop]; omega
    conv => lhs; rw [← List.drop_zero (l := (xs.drop k).take 15), List.drop_eq_getElem_cons hl]
    congr 1
    rw [List.getElem?_eq_getElem hkl]
    simp [List.getElem_take, List.getElem_drop]
  generalize hrest : ((xs.drop k).take 15).drop 1 = rest at hd
  rw [hA, hd]
  clear hA hd
  generalize xs[k]?.getD 0 = s at hcs hs0 ⊢
  obtain ⟨i, hi⟩ : ∃ i, s / 8 % 8 = i := ⟨_, rfl⟩
  obtain ⟨q, hq⟩ : ∃ q, s / 64 = q := ⟨_, rfl⟩
  obtain ⟨l, hl⟩ : ∃ l, s % 8 = l := ⟨_, rfl⟩
  have rl : 0 ≤ l ∧ l ≤ 7 := by omega
  have hF : readF x b (s :: rest) = if q = 3 then (if x = 1 then (4, zeroS) else (0, ⟨i, 8 * b + l, zeroM, 1⟩)) else if (placeF q l x b rest).1 = 0 then (0, ⟨i, -1, (placeF q l x b rest).2.1, 1 + (placeF q l x b rest).2.2⟩) else ((placeF q l x b rest).1, zeroS) := by
    simp only [readF, hi, hq, hl]
  rw [hF]
  by_cases h3 : q = 3
  · subst h3
    by_cases hx : x = 1
    · subst hx
      exact dread_bytes3 blk off m c k l b i s rl hbb hs0 ⟨hq, hi, hl⟩ w hcs (by omega) hkm
    · have e0 : x = 0 := by omega
      subst e0
      have := dread_reg blk off m c k l b i s rl hbb hs0 ⟨hq, hi, hl⟩ w hcs (by omega) hkm
      rw [Int.add_comm l] at this
      exact this
  · have hG : (if (if q = 3 then (if x = 1 then ((4 : Int), zeroS) else (0, ⟨i, 8 * b + l, zeroM, 1⟩)) else if (placeF q l x b rest).1 = 0 then (0, ⟨i, -1, (placeF q l x b rest).2.1, 1 + (placeF q l x b rest).2.2⟩) else ((placeF q l x b rest).1, zeroS)).1 = 0 then ((0 : Int), (if q = 3 then (if x = 1 then ((4 : Int), zeroS) else (0, ⟨i, 8 * b + l, zeroM, 1⟩)) else if (placeF q l x b rest).1 = 0 then (0, ⟨i, -1, (placeF q l x b rest).2.1, 1 + (placeF q l x b rest).2.2⟩) else ((placeF q l x b rest).1, zeroS)).2, (k : Int) + ((if q = 3 then (if x = 1 then ((4 : Int), zeroS) else (0, ⟨i, 8 * b + l, zeroM, 1⟩)) else if (placeF q l x b rest).1 = 0 then (0, ⟨i, -1, (placeF q l x b rest).2.1, 1 + (placeF q l x b rest).2.2⟩) else ((placeF q l x b rest).1, zeroS)).2.n : Int)) else ((if q = 3 then (if x = 1 then ((4 : Int), zeroS) else (0, ⟨i, 8 * b + l, zeroM, 1⟩)) else if (placeF q l x b rest).1 = 0 then (0, ⟨i, -1, (placeF q l x b rest).2.1, 1 + (placeF q l x b rest).2.2⟩) else ((placeF q l x b rest).1, zeroS)).1, zeroS, 0)) = seenA i k (placeF q l x b rest) := by
      rw [if_neg h3]
      unfold seenA
      by_cases h0 : (placeF q l x b rest).1 = 0
      · simp only [h0, if_true]
      · simp only [h0, if_false]
    rw [hG]
    clear hG hF
    by_cases h4 : l = 4
    · subst h4
      rw [doc_sib hby hrest.symm hkl hxx hbb rfl]
      exact dread_sib blk off m c k q x b i s _ xs hxx hbb h3 hs0 ⟨hq, hi, hl⟩ w hcs hm hmc (by omega) hkm hM ht
    · by_cases hx : x = 1
      · subst hx
        have e : seenA i k (placeF q l 1 b rest) = (4, zeroS, 0) := by
          have : regsF q l 1 b rest = (4, zeroM, 0) := by simp [regsF, h4]
          unfold placeF
          rw [this]
          simp [seenA]
        rw [e]
        exact dread_bytesx blk off m c k q l b i s rl hbb h3 h4 hs0 ⟨hq, hi, hl⟩ w hcs (by omega) hkm
      · have e0 : x = 0 := by omega
        subst e0
        by_cases hq0 : q = 0
        · subst hq0
          by_cases h5 : l = 5
          · subst h5
            by_cases hb1' : b = 1
            · subst hb1'
              have e : seenA i k (placeF 0 5 0 1 rest) = (4, zeroS, 0) := by
                have : regsF 0 5 0 1 rest = (4, zeroM, 0) := by simp [regsF]
                unfold placeF
                rw [this]
                simp [seenA]
              rw [e]
              exact dread_bytesb blk off m c k i s hs0 ⟨hq, hi, hl⟩ w hcs (by omega) hkm
            · have eb : b = 0 := by omega
              subst eb
              have : regsF 0 5 0 0 rest = (0, ⟨8, 0, 0, 0, 0, 0, 0⟩, 0) := by simp [regsF]
              rw [doc_place hby hrest.symm hkl (i := i) hxx hbb rl this (by omega)]
              exact dread_rip blk off m c k i s xs hs0 ⟨hq, hi, hl⟩ w hcs hm hmc (by omega) hkm hM
          · have : regsF 0 l 0 b rest = (0, ⟨5, 8 * b + l, 0, 0, 0, 0, 0⟩, 0) := by simp [regsF, h4, h5]
            rw [doc_place hby hrest.symm hkl (i := i) hxx hbb rl this (by omega), Int.add_comm (8 * b)]
            exact dread_base0 blk off m c k l b i s xs rl hbb h4 h5 hs0 ⟨hq, hi, hl⟩ w hcs hm hmc (by omega) hkm hM
        · have : regsF q l 0 b rest = (0, ⟨5, 8 * b + l, 0, 0, 0, 0, 0⟩, 0) := by simp [regsF, h4, hq0]
          rw [doc_place hby hrest.symm hkl (i := i) hxx hbb rl this (by omega), Int.add_comm (8 * b)]
          exact dread_basen blk off m c k q l b i s xs rl hbb h3 hq0 h4 hs0 ⟨hq, hi, hl⟩ w hcs hm hmc (by omega) hkm hM
end Go.Proofs.YtiiepdgpnnjpiaaDoor
end
