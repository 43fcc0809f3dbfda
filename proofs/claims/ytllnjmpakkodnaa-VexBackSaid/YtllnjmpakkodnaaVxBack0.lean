/-
  Law 11, plain facts for VexBack: each way is read as what it tells; what is read is laid in one of these ways.
-/
import Derived.Test.YtllnjmpakkodnaaVxLays
namespace Go.Proofs.Ytllnjmpakkodnaa
open Go.RowKit
set_option maxRecDepth 100000

/-- What the law asks of the ways of contents. -/
structure Backs (q : Vx) (any : Bool) (L : List (List Int)) : Prop where
  few : 1 ≤ L.length ∧ L.length ≤ 3
  bytes : ∀ y ∈ L, isBytes y
  len : ∀ y ∈ L, 2 ≤ y.length ∧ y.length ≤ 3
  read : ∀ y ∈ L, ∀ ys, ∃ u, readF (y ++ ys) = (⟨q.r, q.x, q.b, q.m, u, q.v, q.l, q.p⟩, (y.length : Int), 0) ∧ (any = false → u = q.w)
  cut : ∀ y ∈ L, readF (y.take (y.length - 1)) = (V0, 0, 9)
  first : ∀ y0, L[0]? = some y0 → ∀ y ∈ L, y0.length ≤ y.length
  apart : ∀ (i k : Nat) y z, k < i → L[i]? = some y → L[k]? = some z → z.length ≤ y.length ∧ ¬ z = y.take z.length
theorem readF_two (n : Int) (ys : List Int) : readF (197 :: n :: ys) = (⟨1 - n / 128, 0, 0, 1, 0, 15 - n / 8 % 16, n / 4 % 2, preF (n % 4)⟩, 2, 0) := by
  rcases ys with _ | ⟨k, ys⟩ <;> rfl
theorem readF_three (n k : Int) (ys : List Int) (h : 1 ≤ n % 32 ∧ n % 32 ≤ 3) : readF (196 :: n :: k :: ys) = (⟨1 - n / 128, 1 - n / 64 % 2, 1 - n / 32 % 2, n % 32, k / 128, 15 - k / 8 % 16, k / 4 % 2, preF (k % 4)⟩, 3, 0) := by
  have hr : ¬ (n % 32 < 1 ∨ 3 < n % 32) := by omega
  simp [readF, hr]
theorem readF_map (n : Int) (h : 1 ≤ n % 32 ∧ n % 32 ≤ 3) : readF [196, n] = (V0, 0, 9) := by
  have hr : ¬ (n % 32 < 1 ∨ 3 < n % 32) := by omega
  simp [readF, hr]
theorem two_back {q : Vx} (h : okF q = true) (hs : q.x = 0 ∧ q.b = 0 ∧ q.m = 1) (ys : List Int) : readF (twoB q ++ ys) = (⟨q.r, q.x, q.b, q.m, 0, q.v, q.l, q.p⟩, 2, 0) ∧ readF ((twoB q).take 1) = (V0, 0, 9) := by
  obtain ⟨h1, h2, h3, h4, h5, h6, h7, h8⟩ := ok_parts h
  have hz := ppF_range q.p
  have hp := preF_pp h8
  refine ⟨?_, rfl⟩
  refine (readF_two _ ys).trans ?_
  generalize ppF q.p = z at hz hp
  have e1 : (128 * (1 - q.r) + 8 * (15 - q.v) + 4 * q.l + z) % 4 = z := by omega
  have e2 : (128 * (1 - q.r) + 8 * (15 - q.v) + 4 * q.l + z) / 4 % 2 = q.l := by omega
  have e3 : 15 - (128 * (1 - q.r) + 8 * (15 - q.v) + 4 * q.l + z) / 8 % 16 = q.v := by omega
  have e4 : 1 - (128 * (1 - q.r) + 8 * (15 - q.v) + 4 * q.l + z) / 128 = q.r := by omega
  rw [e1, e2, e3, e4, hp, hs.1, hs.2.1, hs.2.2]
theorem three_back {q : Vx} (h : okF q = true) (w : Int) (_ : w = 0 ∨ w = 1) (ys : List Int) : readF (threeB q w ++ ys) = (⟨q.r, q.x, q.b, q.m, w, q.v, q.l, q.p⟩, 3, 0) ∧ readF ((threeB q w).take 2) = (V0, 0, 9) := by
  obtain ⟨h1, h2, h3, h4, h5, h6, h7, h8⟩ := ok_parts h
  have hz := ppF_range q.p
  have hp := preF_pp h8
  have e0 : (128 * (1 - q.r) + 64 * (1 - q.x) + 32 * (1 - q.b) + q.m) % 32 = q.m := by omega
  refine ⟨?_, readF_map _ (by omega)⟩
  refine (readF_three _ _ ys (by omega)).trans ?_
  generalize ppF q.p = z at hz hp
  have e1 : (128 * w + 8 * (15 - q.v) + 4 * q.l + z) % 4 = z := by omega
  have e2 : (128 * w + 8 * (15 - q.v) + 4 * q.l + z) / 4 % 2 = q.l := by omega
  have e3 : 15 - (128 * w + 8 * (15 - q.v) + 4 * q.l + z) / 8 % 16 = q.v := by omega
  have e4 : (128 * w + 8 * (15 - q.v) + 4 * q.l + z) / 128 = w := by omega
  have e5 : 1 - (128 * (1 - q.r) + 64 * (1 - q.x) + 32 * (1 - q.b) + q.m) / 128 = q.r := by omega
  have e6 : 1 - (128 * (1 - q.r) + 64 * (1 - q.x) + 32 * (1 - q.b) + q.m) / 64 % 2 = q.x := by omega
  have e7 : 1 - (128 * (1 - q.r) + 64 * (1 - q.x) + 32 * (1 - q.b) + q.m) / 32 % 2 = q.b := by omega
  rw [e0, e1, e2, e3, e4, e5, e6, e7, hp]
theorem short_parts {q : Vx} {w : Int} (h : shortF q w = true) : q.x = 0 ∧ q.b = 0 ∧ q.m = 1 ∧ w = 0 := by
  simp [shortF] at h
  exact ⟨h.1.1.1, h.1.1.2, h.2, h.1.2⟩
theorem backs {q : Vx} {any : Bool} (h : okF q = true) : Backs q any (waysF q any) := by
  have hw : wF q any = 0 ∨ wF q any = 1 := by unfold wF; split; exact .inl rfl; exact (ok_parts h).2.2.2.1
  have hwq : any = false → wF q any = q.w := by rintro rfl; rfl
  have hmem : ∀ y ∈ waysF q any, (shortF q (wF q any) = true ∧ y = twoB q) ∨ (∃ w, (w = 0 ∨ w = 1) ∧ (any = false → w = q.w) ∧ y = threeB q w) := by
    intro y hy
    unfold waysF at hy
    rw [if_pos h] at hy
    rcases List.mem_append.1 hy with hy | hy
    · rcases List.mem_append.1 hy with hy | hy
      · split at hy
        · rename_i hs
          simp at hy; subst hy; exact .inl ⟨hs, rfl⟩
        · simp at hy
      · simp at hy; subst hy; exact .inr ⟨_, hw, hwq, rfl⟩
    · split at hy
      · rename_i ha
        have hy' : y = threeB q 1 := by simpa using hy
        exact .inr ⟨1, .inr rfl, (by rw [ha]; intro e; cases e), hy'⟩
      · simp at hy
  have hL : (shortF q (wF q any) = true ∧ ((any = false ∧ waysF q any = [twoB q, threeB q (wF q any)]) ∨ (any = true ∧ waysF q any = [twoB q, threeB q 0, threeB q 1]))) ∨ ((any = false ∧ waysF q any = [threeB q (wF q any)]) ∨ (any = true ∧ waysF q any = [threeB q 0, threeB q 1])) := by
    cases hs : shortF q (wF q any)
    · refine .inr ?_
      cases any
      · exact .inl ⟨rfl, by simp [waysF, h, hs]⟩
      · exact .inr ⟨rfl, by unfold waysF; rw [if_pos h, hs]; rfl⟩
    · refine .inl ⟨rfl, ?_⟩
      cases any
      · exact .inl ⟨rfl, by simp [waysF, h, hs]⟩
      · exact .inr ⟨rfl, by unfold waysF; rw [if_pos h, hs]; rfl⟩
  have ne3 : ¬ threeB q 0 = threeB q 1 := by
    intro e
    simp [threeB] at e
    omega
  have ne2 : ∀ w, ¬ twoB q = (threeB q w).take 2 := by
    intro w e
    simp [twoB, threeB] at e
  refine ⟨?_, fun y hy => ways_bytes hy, fun y hy => ways_short hy, fun y hy ys => ?_, fun y hy => ?_, fun y0 h0 y hy => ?_, fun i k y z hki hi hk => ?_⟩
  · rcases hL with ⟨_, ⟨_, e⟩ | ⟨_, e⟩⟩ | ⟨_, e⟩ | ⟨_, e⟩ <;> rw [e] <;> simp
  · rcases hmem y hy with ⟨hs, rfl⟩ | ⟨w, h1, h2, rfl⟩
    · have hp := short_parts hs
      exact ⟨0, (two_back h ⟨hp.1, hp.2.1, hp.2.2.1⟩ ys).1, fun e => by rw [← hwq e]; exact hp.2.2.2.symm⟩
    · exact ⟨w, (three_back h w h1 ys).1, h2⟩
  · rcases hmem y hy with ⟨hs, rfl⟩ | ⟨w, h1, h2, rfl⟩
    · have hp := short_parts hs
      exact (two_back h ⟨hp.1, hp.2.1, hp.2.2.1⟩ []).2
    · exact (three_back h w h1 []).2
  · have hy2 := ways_short hy
    rcases hL with ⟨_, ⟨_, e⟩ | ⟨_, e⟩⟩ | ⟨ha, e⟩ | ⟨ha, e⟩
    · rw [e] at h0; simp at h0; subst h0; simp [twoB]; omega
    · rw [e] at h0; simp at h0; subst h0; simp [twoB]; omega
    · rw [e] at h0 hy; simp at h0 hy; subst h0 hy; exact Nat.le_refl _
    · rw [e] at h0 hy; simp at h0 hy; subst h0; rcases hy with rfl | rfl <;> simp [threeB]
  · rcases hL with ⟨_, ⟨_, e⟩ | ⟨_, e⟩⟩ | ⟨_, e⟩ | ⟨_, e⟩
    · rw [e] at hi hk
      rcases i with _ | _ | i
      · omega
      · obtain rfl : k = 0 := by omega
        simp at hi hk; subst hi hk
        exact ⟨by simp [twoB, threeB], ne2 _⟩
      · simp at hi
    · rw [e] at hi hk
      rcases i with _ | _ | _ | i
      · omega
      · obtain rfl : k = 0 := by omega
        simp at hi hk; subst hi hk
        exact ⟨by simp [twoB, threeB], ne2 _⟩
      · simp at hi; subst hi
        rcases k with _ | _ | k
        · simp at hk; subst hk
          exact ⟨by simp [twoB, threeB], ne2 _⟩
        · simp at hk; subst hk
          exact ⟨by simp [threeB], fun e => ne3 (e.trans (List.take_of_length_le (by simp [threeB])))⟩
        · omega
      · simp at hi
    · rw [e] at hi hk
      rcases i with _ | i
      · omega
      · simp at hi
    · rw [e] at hi hk
      rcases i with _ | _ | i
      · omega
      · obtain rfl : k = 0 := by omega
        simp at hi hk; subst hi hk
        exact ⟨by simp [threeB], fun e => ne3 (e.trans (List.take_of_length_le (by simp [threeB])))⟩
      · simp at hi
/-- What is read is laid in one of these ways; what is not read is nothing. -/
theorem read_laid (b : List Int) (hb : isBytes b) (any : Bool) :
    (¬ (readF b).2.2 = 0 ∧ (readF b).2.1 = 0 ∧ (readF b).1 = V0) ∨
    ((readF b).2.2 = 0 ∧ okF (readF b).1 = true ∧ ∃ n j : Nat, (readF b).2.1 = n ∧ n ≤ b.length ∧ (waysF (readF b).1 any)[j]? = some (b.take n)) := by
  rcases b with _ | ⟨z, b⟩
  · exact .inl ⟨by decide, rfl, rfl⟩
  by_cases h7 : z = 197
  · subst h7
    rcases b with _ | ⟨n, b⟩
    · exact .inl ⟨by decide, rfl, rfl⟩
    rw [readF_two]
    have hn := hb n (by simp)
    have hp := pp_preF (n := n % 4) (by omega)
    have hok : okF ⟨1 - n / 128, 0, 0, 1, 0, 15 - n / 8 % 16, n / 4 % 2, preF (n % 4)⟩ = true := ok_of ⟨by simp only; omega, .inl rfl, .inl rfl, .inl rfl, by simp only; omega, by simp only; omega, by simp only; omega, hp.2⟩
    refine .inr ⟨rfl, hok, 2, 0, rfl, by simp, ?_⟩
    have hs : shortF ⟨1 - n / 128, 0, 0, 1, 0, 15 - n / 8 % 16, n / 4 % 2, preF (n % 4)⟩ (wF ⟨1 - n / 128, 0, 0, 1, 0, 15 - n / 8 % 16, n / 4 % 2, preF (n % 4)⟩ any) = true := by
      cases any <;> rfl
    have e : twoB ⟨1 - n / 128, 0, 0, 1, 0, 15 - n / 8 % 16, n / 4 % 2, preF (n % 4)⟩ = [197, n] := by
      simp only [twoB, hp.1]
      congr 2
      omega
    unfold waysF
    rw [if_pos hok, if_pos hs, e]
    simp
  by_cases h6 : z = 196
  · subst h6
    rcases b with _ | ⟨n, b⟩
    · exact .inl ⟨by decide, rfl, rfl⟩
    by_cases hr : n % 32 < 1 ∨ 3 < n % 32
    · have e2 : readF (196 :: n :: b) = (V0, 0, 4) := by rcases b with _ | ⟨k2, b⟩ <;> simp [readF, hr]
      rw [e2]
      exact .inl ⟨by simp, rfl, rfl⟩
    rcases b with _ | ⟨k, b⟩
    · rw [readF_map n (by omega)]
      exact .inl ⟨by simp, rfl, rfl⟩
    rw [readF_three n k b (by omega)]
    have hn := hb n (by simp)
    have hk := hb k (by simp)
    have hp := pp_preF (n := k % 4) (by omega)
    have hok : okF ⟨1 - n / 128, 1 - n / 64 % 2, 1 - n / 32 % 2, n % 32, k / 128, 15 - k / 8 % 16, k / 4 % 2, preF (k % 4)⟩ = true := ok_of ⟨by simp only; omega, by simp only; omega, by simp only; omega, by simp only; omega, by simp only; omega, by simp only; omega, by simp only; omega, hp.2⟩
    have e : threeB ⟨1 - n / 128, 1 - n / 64 % 2, 1 - n / 32 % 2, n % 32, k / 128, 15 - k / 8 % 16, k / 4 % 2, preF (k % 4)⟩ (k / 128) = [196, n, k] := by
      simp only [threeB, hp.1]
      congr 2
      · omega
      · congr 1; omega
    have hd : k / 128 = 0 ∨ k / 128 = 1 := by omega
    generalize hq : (⟨1 - n / 128, 1 - n / 64 % 2, 1 - n / 32 % 2, n % 32, k / 128, 15 - k / 8 % 16, k / 4 % 2, preF (k % 4)⟩ : Vx) = q at *
    have hw : q.w = k / 128 := by rw [← hq]
    have hm : [196, n, k] ∈ waysF q any := by
      unfold waysF
      rw [if_pos hok]
      cases any
      · have : wF q false = k / 128 := hw
        rw [this, e]
        simp
      · have : wF q true = 0 := rfl
        rw [this]
        rcases hd with hd | hd <;> rw [hd] at e <;> rw [e] <;> simp
    obtain ⟨j, hj⟩ := List.getElem?_of_mem hm
    exact .inr ⟨rfl, hok, 3, j, rfl, by simp, by rw [hj]; simp⟩
  · have e : readF (z :: b) = (V0, 0, 4) := by
      rcases b with _ | ⟨n, _ | ⟨k2, zs⟩⟩ <;> simp [readF, h6, h7]
    rw [e]
    exact .inl ⟨by simp, rfl, rfl⟩
end Go.Proofs.Ytllnjmpakkodnaa
